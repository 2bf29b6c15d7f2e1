/-
  Indicator of the package and of the reference.
-/
import Derived.Test.YtmljkhofahgelaaEnv
namespace Go.Proofs.Ytmljkhofahgelaa
set_option linter.unusedVariables false
set_option linter.unusedSimpArgs false
open Go.RowKit

namespace Tm
/-- What Indicator returns. -/
def indFn (s : ByteArray) (d : Int) : Pay × Fo := if 0 ≤ d ∧ d ≤ 8 then cloneOf (3, 0, ⟨#[47]⟩) (.node (2, 0, s) .nil (.node (1, d, ByteArray.empty) .nil .nil)) else (zp, .nil)
end Tm

set_option maxHeartbeats 400000 in
theorem ind_any_neg (s : ByteArray) (d : Int) (w : World) (h0 : decide (d < 0) = true) : Calls Try.prog 32 #[.string s, .int .i64 d] w (Makes zp .nil w) := by
    go_enter Try.func32, Try.ntmps32
    go_wp2_with fail
    have g1 : TermAt (w.alloc (.cells #[.int .i64 0, .int .i64 0, .string ⟨#[]⟩, .slice none 0 0] 24)) w.heap.size zp none 0 0 := TermAt.new w zp none 0 0 24
    refine bodyPost_ret (term_result (q := 4) rfl _ _ w.heap.size zp none 0 0 rfl g1) rfl ?_
    exact ⟨none, 0, rfl, ArgsIn.nil _ _ _, (Below.refl _ _).alloc (Nat.le_refl _) _⟩

set_option maxHeartbeats 400000 in
theorem ind_any_big (s : ByteArray) (d : Int) (w : World) (h0 : decide (d < 0) = false) (h8 : decide (8 < d) = true) : Calls Try.prog 32 #[.string s, .int .i64 d] w (Makes zp .nil w) := by
    go_enter Try.func32, Try.ntmps32
    go_wp2_with fail
    have g1 : TermAt (w.alloc (.cells #[.int .i64 0, .int .i64 0, .string ⟨#[]⟩, .slice none 0 0] 24)) w.heap.size zp none 0 0 := TermAt.new w zp none 0 0 24
    refine bodyPost_ret (term_result (q := 4) rfl _ _ w.heap.size zp none 0 0 rfl g1) rfl ?_
    exact ⟨none, 0, rfl, ArgsIn.nil _ _ _, (Below.refl _ _).alloc (Nat.le_refl _) _⟩

set_option maxHeartbeats 2000000 in
theorem ind_any_ok (s : ByteArray) (d : Int) (w : World) (h0 : decide (d < 0) = false) (h8 : decide (8 < d) = false) : Calls Try.prog 32 #[.string s, .int .i64 d] w (Makes (Tm.cloneOf (3, 0, ⟨#[47]⟩) (.node (2, 0, s) .nil (.node (1, d, ByteArray.empty) .nil .nil))).1 (Tm.cloneOf (3, 0, ⟨#[47]⟩) (.node (2, 0, s) .nil (.node (1, d, ByteArray.empty) .nil .nil))).2 w) := by
  have k0 : ∀ o1 o2 o3 : Obj, Below w.heap.size w (((w.alloc o1).alloc o2).alloc o3) := fun o1 o2 o3 => Only.below (X := fun _ => False) ((((Only.refl _ w).alloc _).alloc _).alloc _) (Nat.le_refl _) (fun _ h => h.elim)
  have K0 := Lib.hid k0
  have C1 := fun (A : Option Addr) (w1 : World) (B : Nat) (h1 : ArgsB w1 B A 2 (.node (2, 0, s) .nil (.node (1, d, ByteArray.empty) .nil .nil))) (h2 : B ≤ w1.heap.size) => struct_some ⟨#[47]⟩ (.node (2, 0, s) .nil (.node (1, d, ByteArray.empty) .nil .nil)) A 2 B w1 (Nat.succ_pos _) h1 h2
  have RW : ∀ W : World, ArgsB (W.alloc (.cells #[.int .i64 2, .int .i64 0, .string s, .slice none 0 0, .int .i64 1, .int .i64 d, .string ⟨#[]⟩, .slice none 0 0] 24)) (W.heap.size + 1) (some ⟨W.heap.size, 0, none⟩) 2 (.node (2, 0, s) .nil (.node (1, d, ByteArray.empty) .nil .nil)) := fun W => by
    have hv : Vals (fun b => b < W.heap.size) W [tv (2, 0, s) none 0 0, tv (1, d, ByteArray.empty) none 0 0] (.node (2, 0, s) .nil (.node (1, d, ByteArray.empty) .nil .nil)) := ⟨⟨none, 0, rfl, ArgsIn.nil _ _ _⟩, ⟨none, 0, rfl, ArgsIn.nil _ _ _⟩, trivial⟩
    obtain ⟨A, c, e, ha⟩ := row_new W _ _ 2 24 hv rfl (by decide)
    have hs : (W.alloc (.cells (tcells [tv (2, 0, s) none 0 0, tv (1, d, ByteArray.empty) none 0 0]).toArray 24)).heap.size = W.heap.size + 1 := World.size_alloc _ _
    rw [hs] at ha
    cases e
    exact ha
  have RW := Lib.hid RW
  unfold Makes
  unfold Makes at C1
  obtain ⟨n2, hn2⟩ : ∃ n2, n2 = Tm.len ((Tm.cloneOf (3, 0, ⟨#[47]⟩) (.node (2, 0, s) .nil (.node (1, d, ByteArray.empty) .nil .nil))).2) := ⟨_, rfl⟩
  rw [← hn2] at C1 ⊢
  have HN2 := Lib.hid hn2
  have C1 := Lib.hid C1
  clear hn2 k0
  go_enter Try.func32, Try.ntmps32
  go_wp2_with fail
  have hA := RW.out ((w.alloc (.cells #[.int .i64 0, .int .i64 0, .string ⟨#[]⟩, .slice none 0 0] 24)).alloc (.cells #[.int .i64 2, .int .i64 0, .string s, .slice none 0 0] 24))
  (try simp only [World.size_alloc] at hA)
  refine (C1.out _ _ _ hA (by simp)).mono ?_
  rintro e w1 ⟨A1, c1, rfl, ha1, hb1⟩
  have hsz := hb1.size
  try simp at hsz
  have hr : ResAt w1 (w.heap.size) := ((ResAt.new w 24 _ rfl).below (B := w.heap.size + 1) (((Below.refl _ _).alloc (by simp) _).alloc (by simp) _) (by omega)).below hb1 (by first | omega | (simp; done) | (simp; omega))
  have hw1 : w.heap.size < w1.heap.size := by omega
  have r0 := hr.t.kind
  have r1 := hr.t.num
  have r2 := hr.t.name
  have r3 := hr.t.args
  have q0 := hr.s.s0
  have q1 := hr.s.s1
  have q2 := hr.s.s2
  have q3 := hr.s.s3
  have HA1 := Lib.hid ha1
  have HB1 := Lib.hid ((K0.out _ _ _).trans (hb1.mono (by first | omega | (simp; done) | (simp; omega))) : Below w.heap.size w w1)
  have HR := Lib.hid hr
  clear ha1 hb1 hr
  go_wp2_with fail
  have st := stored w1 (w.heap.size) (Tm.cloneOf (3, 0, ⟨#[47]⟩) (.node (2, 0, s) .nil (.node (1, d, ByteArray.empty) .nil .nil))).1 zp A1 none (n2) c1 0 0 HR.out.t HR.out.s
  show bodyPost _ _ _ _ _ (set4 w1 (w.heap.size) 0 (Tm.cloneOf (3, 0, ⟨#[47]⟩) (.node (2, 0, s) .nil (.node (1, d, ByteArray.empty) .nil .nil))).1 A1 (n2) c1)
  generalize set4 w1 (w.heap.size) 0 (Tm.cloneOf (3, 0, ⟨#[47]⟩) (.node (2, 0, s) .nil (.node (1, d, ByteArray.empty) .nil .nil))).1 A1 (n2) c1 = w2 at st ⊢
  refine bodyPost_ret (term_result (q := 4) rfl _ _ (w.heap.size) (Tm.cloneOf (3, 0, ⟨#[47]⟩) (.node (2, 0, s) .nil (.node (1, d, ByteArray.empty) .nil .nil))).1 A1 (n2) c1 rfl st.term) rfl ?_
  exact ⟨A1, c1, rfl, st.fresh (N := w.heap.size + 3) (HA1.out.mono (fun b hb => by have h1 := hb.1; have h2 := hb.2; (try simp only [World.size_alloc] at h1); omega)) (by omega) (by omega), st.below _ _ HB1.out (by omega)⟩

theorem ind_any (s : ByteArray) (d : Int) (w : World) : Calls Try.prog 32 #[.string s, .int .i64 d] w (Makes (Tm.indFn s d).1 (Tm.indFn s d).2 w) := by
  unfold Tm.indFn
  by_cases h0 : 0 ≤ d
  · by_cases h8 : d ≤ 8
    · rw [if_pos ⟨h0, h8⟩]
      exact ind_any_ok s d w (by simp; omega) (by simp; omega)
    · rw [if_neg (fun h => h8 h.2)]
      exact ind_any_big s d w (by simp; omega) (by simp; omega)
  · rw [if_neg (fun h => h0 h.1)]
    exact ind_any_neg s d w (by simp; omega)

set_option maxHeartbeats 400000 in
theorem rind_any_neg (s : ByteArray) (d : Int) (w : World) (h0 : decide (d < 0) = true) : Calls Try.prog 33 #[.string s, .int .i64 d] w (Makes zp .nil w) := by
    go_enter Try.func33, Try.ntmps33
    go_wp2_with fail
    have g1 : TermAt (w.alloc (.cells #[.int .i64 0, .int .i64 0, .string ⟨#[]⟩, .slice none 0 0] 24)) w.heap.size zp none 0 0 := TermAt.new w zp none 0 0 24
    refine bodyPost_ret (term_result (q := 4) rfl _ _ w.heap.size zp none 0 0 rfl g1) rfl ?_
    exact ⟨none, 0, rfl, ArgsIn.nil _ _ _, (Below.refl _ _).alloc (Nat.le_refl _) _⟩

set_option maxHeartbeats 400000 in
theorem rind_any_big (s : ByteArray) (d : Int) (w : World) (h0 : decide (d < 0) = false) (h8 : decide (8 < d) = true) : Calls Try.prog 33 #[.string s, .int .i64 d] w (Makes zp .nil w) := by
    go_enter Try.func33, Try.ntmps33
    go_wp2_with fail
    have g1 : TermAt (w.alloc (.cells #[.int .i64 0, .int .i64 0, .string ⟨#[]⟩, .slice none 0 0] 24)) w.heap.size zp none 0 0 := TermAt.new w zp none 0 0 24
    refine bodyPost_ret (term_result (q := 4) rfl _ _ w.heap.size zp none 0 0 rfl g1) rfl ?_
    exact ⟨none, 0, rfl, ArgsIn.nil _ _ _, (Below.refl _ _).alloc (Nat.le_refl _) _⟩

set_option maxHeartbeats 2000000 in
theorem rind_any_ok (s : ByteArray) (d : Int) (w : World) (h0 : decide (d < 0) = false) (h8 : decide (8 < d) = false) : Calls Try.prog 33 #[.string s, .int .i64 d] w (Makes (Tm.cloneOf (3, 0, ⟨#[47]⟩) (.node (2, 0, s) .nil (.node (1, d, ByteArray.empty) .nil .nil))).1 (Tm.cloneOf (3, 0, ⟨#[47]⟩) (.node (2, 0, s) .nil (.node (1, d, ByteArray.empty) .nil .nil))).2 w) := by
  have k0 : ∀ o1 o2 : Obj, Below w.heap.size w ((w.alloc o1).alloc o2) := fun o1 o2 => Only.below (X := fun _ => False) (((Only.refl _ w).alloc _).alloc _) (Nat.le_refl _) (fun _ h => h.elim)
  have K0 := Lib.hid k0
  have C1 := fun (A : Option Addr) (w1 : World) (B : Nat) (h1 : ArgsB w1 B A 2 (.node (2, 0, s) .nil (.node (1, d, ByteArray.empty) .nil .nil))) (h2 : B ≤ w1.heap.size) => rvalidc_any (3, 0, ⟨#[47]⟩) (.node (2, 0, s) .nil (.node (1, d, ByteArray.empty) .nil .nil)) A 2 B w1 h1 h2
  have RW : ∀ W : World, ArgsB (W.alloc (.cells #[.int .i64 2, .int .i64 0, .string s, .slice none 0 0, .int .i64 1, .int .i64 d, .string ⟨#[]⟩, .slice none 0 0] 24)) (W.heap.size + 1) (some ⟨W.heap.size, 0, none⟩) 2 (.node (2, 0, s) .nil (.node (1, d, ByteArray.empty) .nil .nil)) := fun W => by
    have hv : Vals (fun b => b < W.heap.size) W [tv (2, 0, s) none 0 0, tv (1, d, ByteArray.empty) none 0 0] (.node (2, 0, s) .nil (.node (1, d, ByteArray.empty) .nil .nil)) := ⟨⟨none, 0, rfl, ArgsIn.nil _ _ _⟩, ⟨none, 0, rfl, ArgsIn.nil _ _ _⟩, trivial⟩
    obtain ⟨A, c, e, ha⟩ := row_new W _ _ 2 24 hv rfl (by decide)
    have hs : (W.alloc (.cells (tcells [tv (2, 0, s) none 0 0, tv (1, d, ByteArray.empty) none 0 0]).toArray 24)).heap.size = W.heap.size + 1 := World.size_alloc _ _
    rw [hs] at ha
    cases e
    exact ha
  have RW := Lib.hid RW
  unfold Makes
  unfold Makes at C1
  obtain ⟨n2, hn2⟩ : ∃ n2, n2 = Tm.len ((Tm.cloneOf (3, 0, ⟨#[47]⟩) (.node (2, 0, s) .nil (.node (1, d, ByteArray.empty) .nil .nil))).2) := ⟨_, rfl⟩
  rw [← hn2] at C1 ⊢
  have HN2 := Lib.hid hn2
  have C1 := Lib.hid C1
  clear hn2 k0
  go_enter Try.func33, Try.ntmps33
  go_wp2_with fail
  have hA := RW.out (w.alloc (.cells #[.int .i64 0, .int .i64 0, .string ⟨#[]⟩, .slice none 0 0] 24))
  (try simp only [World.size_alloc] at hA)
  refine (C1.out _ _ _ hA (by simp)).mono ?_
  rintro e w1 ⟨A1, c1, rfl, ha1, hb1⟩
  have hsz := hb1.size
  try simp at hsz
  have hr : ResAt w1 (w.heap.size) := ((ResAt.new w 24 _ rfl).below (B := w.heap.size + 1) ((Below.refl _ _).alloc (by simp) _) (by omega)).below hb1 (by first | omega | (simp; done) | (simp; omega))
  have hw1 : w.heap.size < w1.heap.size := by omega
  have r0 := hr.t.kind
  have r1 := hr.t.num
  have r2 := hr.t.name
  have r3 := hr.t.args
  have q0 := hr.s.s0
  have q1 := hr.s.s1
  have q2 := hr.s.s2
  have q3 := hr.s.s3
  have HA1 := Lib.hid ha1
  have HB1 := Lib.hid ((K0.out _ _).trans (hb1.mono (by first | omega | (simp; done) | (simp; omega))) : Below w.heap.size w w1)
  have HR := Lib.hid hr
  clear ha1 hb1 hr
  go_wp2_with fail
  have st := stored w1 (w.heap.size) (Tm.cloneOf (3, 0, ⟨#[47]⟩) (.node (2, 0, s) .nil (.node (1, d, ByteArray.empty) .nil .nil))).1 zp A1 none (n2) c1 0 0 HR.out.t HR.out.s
  show bodyPost _ _ _ _ _ (set4 w1 (w.heap.size) 0 (Tm.cloneOf (3, 0, ⟨#[47]⟩) (.node (2, 0, s) .nil (.node (1, d, ByteArray.empty) .nil .nil))).1 A1 (n2) c1)
  generalize set4 w1 (w.heap.size) 0 (Tm.cloneOf (3, 0, ⟨#[47]⟩) (.node (2, 0, s) .nil (.node (1, d, ByteArray.empty) .nil .nil))).1 A1 (n2) c1 = w2 at st ⊢
  refine bodyPost_ret (term_result (q := 4) rfl _ _ (w.heap.size) (Tm.cloneOf (3, 0, ⟨#[47]⟩) (.node (2, 0, s) .nil (.node (1, d, ByteArray.empty) .nil .nil))).1 A1 (n2) c1 rfl st.term) rfl ?_
  exact ⟨A1, c1, rfl, st.fresh (N := w.heap.size + 2) (HA1.out.mono (fun b hb => by have h1 := hb.1; have h2 := hb.2; (try simp only [World.size_alloc] at h1); omega)) (by omega) (by omega), st.below _ _ HB1.out (by omega)⟩

theorem rind_any (s : ByteArray) (d : Int) (w : World) : Calls Try.prog 33 #[.string s, .int .i64 d] w (Makes (Tm.indFn s d).1 (Tm.indFn s d).2 w) := by
  unfold Tm.indFn
  by_cases h0 : 0 ≤ d
  · by_cases h8 : d ≤ 8
    · rw [if_pos ⟨h0, h8⟩]
      exact rind_any_ok s d w (by simp; omega) (by simp; omega)
    · rw [if_neg (fun h => h8 h.2)]
      exact rind_any_big s d w (by simp; omega) (by simp; omega)
  · rw [if_neg (fun h => h0 h.1)]
    exact rind_any_neg s d w (by simp; omega)
end Go.Proofs.Ytmljkhofahgelaa
