/-
  The statements' own makers of terms: x, a, f.
-/
import Derived.Test.YtmljkhofahgelaaMakers
namespace Go.Proofs.Ytmljkhofahgelaa
set_option linter.unusedVariables false
set_option linter.unusedSimpArgs false
open Go.RowKit

set_option maxHeartbeats 400000 in
theorem x_any (n : Int) (w : World) : Calls Try.prog 43 #[.int .i64 n] w fun e w' => e = .returned (tv (0, n, ByteArray.empty) none 0 0) ∧ Below w.heap.size w w' := by
  go_enter Try.func43, Try.ntmps43
  go_wp2_with fail
  have g1 : TermAt (w.alloc (.cells #[.int .i64 0, .int .i64 n, .string ⟨#[]⟩, .slice none 0 0] 24)) w.heap.size (0, n, ByteArray.empty) none 0 0 := TermAt.new w (0, n, ByteArray.empty) none 0 0 24
  refine bodyPost_ret (term_result (q := 2) rfl _ _ w.heap.size (0, n, ByteArray.empty) none 0 0 rfl g1) rfl ?_
  exact ⟨rfl, (Below.refl _ _).alloc (Nat.le_refl _) _⟩
set_option maxHeartbeats 400000 in
theorem a_any (s : ByteArray) (w : World) : Calls Try.prog 44 #[.string s] w fun e w' => e = .returned (tv (2, 0, s) none 0 0) ∧ Below w.heap.size w w' := by
  go_enter Try.func44, Try.ntmps44
  go_wp2_with fail
  have g1 : TermAt (w.alloc (.cells #[.int .i64 2, .int .i64 0, .string s, .slice none 0 0] 24)) w.heap.size (2, 0, s) none 0 0 := TermAt.new w (2, 0, s) none 0 0 24
  refine bodyPost_ret (term_result (q := 2) rfl _ _ w.heap.size (2, 0, s) none 0 0 rfl g1) rfl ?_
  exact ⟨rfl, (Below.refl _ _).alloc (Nat.le_refl _) _⟩
set_option maxHeartbeats 400000 in
theorem f_any (s : ByteArray) (A : Option Addr) (n c : Nat) (w : World) : Calls Try.prog 42 #[.string s, .slice A n c] w fun e w' => e = .returned (tv (3, 0, s) A n c) ∧ Below w.heap.size w w' := by
  go_enter Try.func42, Try.ntmps42
  go_wp2_with fail
  have g1 : TermAt (w.alloc (.cells #[.int .i64 3, .int .i64 0, .string s, .slice A n c] 24)) w.heap.size (3, 0, s) A n c := TermAt.new w (3, 0, s) A n c 24
  refine bodyPost_ret (term_result (q := 4) rfl _ _ w.heap.size (3, 0, s) A n c rfl g1) rfl ?_
  exact ⟨rfl, (Below.refl _ _).alloc (Nat.le_refl _) _⟩
end Go.Proofs.Ytmljkhofahgelaa
