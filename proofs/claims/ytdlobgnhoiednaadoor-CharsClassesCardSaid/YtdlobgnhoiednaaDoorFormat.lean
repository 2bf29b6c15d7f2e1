/-
  FormatInt of the library at base 16 returns the hexadecimal digits of a number below 256.
-/
import Derived.Test.YtdlobgnhoiednaaDoorClass
import Derived.Laws.IdiomStrings
import Derived.Laws.BitsAllLaws
namespace Go.Proofs.YtdlobgnhoiednaaDoor
set_option linter.unusedVariables false
set_option linter.unusedSimpArgs false
open Go.RowKit

theorem zeros16 (w : World) (hT : Tabs w) :
    Calls Tryd.prog 54 #[.int .u64 16] w fun e w' => e = .returned (.int .i64 4) ∧ w = w' := by
  have hz : w.cell? ⟨4, (IntKind.u64.wrap (bits BinOp.and IntKind.u64 16 (IntKind.u64.wrap (-16)) * 285870213051353865) / 288230376151711744).toNat, none⟩ = some (.int .u8 4) := by
    rw [show (IntKind.u64.wrap (bits BinOp.and IntKind.u64 16 (IntKind.u64.wrap (-16)) * 285870213051353865) / 288230376151711744).toNat = 15 from by decide +kernel]
    exact hT.z16
  have hb : 0 ≤ IntKind.u64.wrap (bits BinOp.and IntKind.u64 16 (IntKind.u64.wrap (-16)) * 285870213051353865) / 288230376151711744 ∧ IntKind.u64.wrap (bits BinOp.and IntKind.u64 16 (IntKind.u64.wrap (-16)) * 285870213051353865) / 288230376151711744 < 64 := by decide +kernel
  clear hT
  go_enter Tryd.func54, Tryd.ntmps54
  go_wp2
  go_ret
  exact ⟨rfl, rfl⟩

theorem pow16 (w : World) :
    Calls Tryd.prog 53 #[.int .i64 16] w fun e w' => e = .returned (.bool true) ∧ w = w' := by
  have h : (bits BinOp.and IntKind.i64 16 15 == 0) = true := by decide +kernel
  go_enter Tryd.func53, Tryd.ntmps53
  go_wp2
  go_ret
  exact ⟨rfl, rfl⟩

/-- The hexadecimal digits. -/
def hexc (n : Nat) : UInt8 := if n < 10 then (48 + n).toUInt8 else (87 + n).toUInt8
def hexL (n : Nat) : List UInt8 := if n < 16 then [hexc n] else [hexc (n / 16), hexc (n % 16)]

theorem zsize : Tryd.zeroCells69.size = 65 := by kernel_rfl
theorem conv1 (w : World) (x : UInt8) : (convert 52 9 (.slice (some ⟨w.heap.size, 64, none⟩) 1 1)).run Tryd.prog (w.alloc (.cells (Tryd.zeroCells69.setIfInBounds 64 (.int .u8 x.toNat)) 69)) = .ok (.string ⟨#[x]⟩) (w.alloc (.cells (Tryd.zeroCells69.setIfInBounds 64 (.int .u8 x.toNat)) 69)) := by
  refine run_convert_bytes_back (P := Tryd.prog) _ 52 9 5 ⟨w.heap.size, 64, none⟩ 1 [x] Tryd.underlying52 Tryd.underlying5 Tryd.underlying9 ?_
  intro j hj
  have hj0 : j = 0 := by simpa using hj
  subst hj0
  rw [show Addr.add ⟨w.heap.size, 64, none⟩ 0 = ⟨w.heap.size, 64, none⟩ from rfl, World.cell?_alloc_at _ _ _ _ rfl]
  have hz := zsize
  simp [hz]
theorem conv2 (w : World) (x y : UInt8) : (convert 52 9 (.slice (some ⟨w.heap.size, 63, none⟩) 2 2)).run Tryd.prog (w.alloc (.cells ((Tryd.zeroCells69.setIfInBounds 64 (.int .u8 x.toNat)).setIfInBounds 63 (.int .u8 y.toNat)) 69)) = .ok (.string ⟨#[y, x]⟩) (w.alloc (.cells ((Tryd.zeroCells69.setIfInBounds 64 (.int .u8 x.toNat)).setIfInBounds 63 (.int .u8 y.toNat)) 69)) := by
  refine run_convert_bytes_back (P := Tryd.prog) _ 52 9 5 ⟨w.heap.size, 63, none⟩ 2 [y, x] Tryd.underlying52 Tryd.underlying5 Tryd.underlying9 ?_
  intro j hj
  have hz := zsize
  have hj2 : j = 0 ∨ j = 1 := by simp at hj; omega
  rcases hj2 with rfl | rfl
  · rw [show Addr.add ⟨w.heap.size, 63, none⟩ 0 = ⟨w.heap.size, 63, none⟩ from rfl, World.cell?_alloc_at _ _ _ _ rfl]
    simp [hz]
  · rw [show Addr.add ⟨w.heap.size, 63, none⟩ 1 = ⟨w.heap.size, 64, none⟩ from rfl, World.cell?_alloc_at _ _ _ _ rfl]
    simp [hz]

theorem and15 (c : Int) (h0 : 0 ≤ c) (h1 : c < 256) : bits BinOp.and IntKind.u64 c 15 = c % 16 := by
  obtain ⟨n, rfl⟩ := Int.eq_ofNat_of_zero_le h0
  have hf : ∀ m : Fin 256, bits BinOp.and IntKind.u64 (m.val : Int) 15 = (m.val : Int) % 16 := by decide +kernel
  exact hf ⟨n, by omega⟩

theorem hex_at (n : Nat) (h : n < 16) (h' : n < (⟨#[48, 49, 50, 51, 52, 53, 54, 55, 56, 57, 97, 98, 99, 100, 101, 102, 103, 104, 105, 106, 107, 108, 109, 110, 111, 112, 113, 114, 115, 116, 117, 118, 119, 120, 121, 122]⟩ : ByteArray).size) :
    (⟨#[48, 49, 50, 51, 52, 53, 54, 55, 56, 57, 97, 98, 99, 100, 101, 102, 103, 104, 105, 106, 107, 108, 109, 110, 111, 112, 113, 114, 115, 116, 117, 118, 119, 120, 121, 122]⟩ : ByteArray)[n] = hexc n := by
  have hn : n = 0 ∨ n = 1 ∨ n = 2 ∨ n = 3 ∨ n = 4 ∨ n = 5 ∨ n = 6 ∨ n = 7 ∨ n = 8 ∨ n = 9 ∨ n = 10 ∨ n = 11 ∨ n = 12 ∨ n = 13 ∨ n = 14 ∨ n = 15 := by omega
  rcases hn with rfl | rfl | rfl | rfl | rfl | rfl | rfl | rfl | rfl | rfl | rfl | rfl | rfl | rfl | rfl | rfl
  all_goals rfl

theorem hexL_low (c : Int) (h0 : 0 ≤ c) (h1 : c < 16) : hexL c.toNat = [hexc c.toNat] := by unfold hexL; rw [if_pos (by omega)]
theorem hexL_high (c : Int) (h0 : 16 ≤ c) : hexL c.toNat = [hexc (c / 16).toNat, hexc (c % 16).toNat] := by
  unfold hexL
  rw [if_neg (by omega), show c.toNat / 16 = (c / 16).toNat from by omega, show c.toNat % 16 = (c % 16).toNat from by omega]

set_option maxHeartbeats 1000000 in
set_option maxRecDepth 100000 in
theorem bits_low (c : Int) (w : World) (h0 : 0 ≤ c) (h1 : c < 16) (hT : Tabs w) :
    Calls Tryd.prog 47 #[.slice none 0 0, .int .u64 c, .int .i64 16, .bool false, .bool false] w fun e w' => e = .returned (.tuple #[.slice none 0 0, .string ⟨(hexL c.toNat).toArray⟩]) ∧ Below w.heap.size w w' := by
  have hcv := conv1 w
  go_enter Tryd.func47, Tryd.ntmps47
  go_wp2_with fail
  refine (pow16 _).mono ?_
  rintro e w' ⟨rfl, rfl⟩
  go_wp2_with fail
  refine (zeros16 _ (hT.alloc _)).mono ?_
  rintro e w' ⟨rfl, rfl⟩
  go_wp2_with fail
  refine wp_loop_rounds 1 ?_
  rw [rounds_succ]
  go_wp2_with fail
  go_ret2
  refine ⟨?_, (Below.refl _ _).alloc (Nat.le_refl _) _⟩
  refine congrArg (fun s => Ending.returned (.tuple #[.slice none 0 0, .string s])) (show ByteArray.mk #[_] = _ from ?_)
  rw [hexL_low c h0 h1, hex_at _ (by omega)]

set_option maxHeartbeats 1000000 in
set_option maxRecDepth 100000 in
theorem bits_high (c : Int) (w : World) (h0 : 16 ≤ c) (h1 : c < 256) (hT : Tabs w) :
    Calls Tryd.prog 47 #[.slice none 0 0, .int .u64 c, .int .i64 16, .bool false, .bool false] w fun e w' => e = .returned (.tuple #[.slice none 0 0, .string ⟨(hexL c.toNat).toArray⟩]) ∧ Below w.heap.size w w' := by
  have hcv := conv2 w
  have ha := and15 c (by omega) h1
  have hq0 : 1 ≤ c / 16 := by omega
  have hq1 : c / 16 < 16 := by omega
  have hr0 : 0 ≤ c % 16 := by omega
  have hr1 : c % 16 < 16 := by omega
  go_enter Tryd.func47, Tryd.ntmps47
  go_wp2_with fail
  refine (pow16 _).mono ?_
  rintro e w' ⟨rfl, rfl⟩
  go_wp2_with fail
  refine (zeros16 _ (hT.alloc _)).mono ?_
  rintro e w' ⟨rfl, rfl⟩
  go_wp2_with fail
  refine wp_loop_rounds 2 ?_
  rw [rounds_succ]
  go_wp2_with fail
  rw [rounds_succ]
  go_wp2_with fail
  go_ret2
  refine ⟨?_, (Below.refl _ _).alloc (Nat.le_refl _) _⟩
  refine congrArg (fun s => Ending.returned (.tuple #[.slice none 0 0, .string s])) (show ByteArray.mk #[_, _] = _ from ?_)
  rw [hexL_high c h0, hex_at _ (by omega), hex_at _ (by omega)]

theorem format16in (c : Int) (w : World) (h0 : 0 ≤ c) (h1 : c < 256) (hT : Tabs w) :
    Calls Tryd.prog 37 #[.int .i64 c, .int .i64 16] w fun e w' => e = .returned (.string ⟨(hexL c.toNat).toArray⟩) ∧ Below w.heap.size w w' := by
  have hd : decide (c < 0) = false := by simp; omega
  go_enter Tryd.func37, Tryd.ntmps37
  go_wp2_with fail
  have H : Calls Tryd.prog 47 #[.slice none 0 0, .int .u64 c, .int .i64 16, .bool false, .bool false] w fun e w' => e = .returned (.tuple #[.slice none 0 0, .string ⟨(hexL c.toNat).toArray⟩]) ∧ Below w.heap.size w w' := by
    by_cases h : c < 16
    · exact bits_low c _ h0 h hT
    · exact bits_high c _ (by omega) h1 hT
  refine H.mono ?_
  clear H
  rintro e w1 ⟨rfl, hb⟩
  go_wp2_with fail
  go_ret
  exact ⟨rfl, hb⟩
theorem format16 (c : Int) (w : World) (h0 : 0 ≤ c) (h1 : c < 256) (hT : Tabs w) :
    Calls Tryd.prog 30 #[.int .i64 c, .int .i64 16] w fun e w' => e = .returned (.string ⟨(hexL c.toNat).toArray⟩) ∧ Below w.heap.size w w' := by
  go_enter Tryd.func30, Tryd.ntmps30
  go_wp2_with fail
  refine (format16in c _ h0 h1 hT).mono ?_
  rintro e w1 ⟨rfl, hb⟩
  go_wp2_with fail
  go_ret
  exact ⟨rfl, hb⟩

end Go.Proofs.YtdlobgnhoiednaaDoor
