/-
  The reference's makers of error terms: structure and with; what they have to do with the package's.
-/
import Derived.Test.YtapcnehpechkpaaIndM
namespace Go.Proofs.Ytapcnehpechkpaa
set_option linter.unusedVariables false
set_option linter.unusedSimpArgs false
set_option maxRecDepth 100000
open Go.RowKit

namespace Bl
def atomsF : List ByteArray → Fo → Fo
  | [], F => F
  | k :: L, F => .node (2, 0, k) .nil (atomsF L F)
theorem atomsF_len (L : List ByteArray) (F : Fo) : Tm.len (atomsF L F) = L.length + Tm.len F := by
  induction L with
  | nil => simp [atomsF]
  | cons k L ih => simp only [atomsF, Tm.len, ih, List.length_cons]; omega
theorem atomsF_size (L : List ByteArray) (F : Fo) : Tm.size (atomsF L F) = L.length + Tm.size F := by
  induction L with
  | nil => simp [atomsF]
  | cons k L ih => simp only [atomsF, Tm.size, ih, List.length_cons]; omega
theorem atomsF_app (L : List ByteArray) (F : Fo) : atomsF L F = Tm.app (atomsF L .nil) F := by
  induction L with
  | nil => rfl
  | cons k L ih => simp only [atomsF, Tm.app, ih]
theorem atomsF_snoc (L : List ByteArray) (k : ByteArray) : Tm.app (atomsF L .nil) (.node (2, 0, k) .nil .nil) = atomsF (L ++ [k]) .nil := by
  induction L with
  | nil => rfl
  | cons x L ih => simp only [atomsF, Tm.app, ih, List.cons_append]
theorem atomsF_pre (L : List ByteArray) (p : Pay) (l : Fo) : Tm.preF (atomsF L (.node p l .nil)) L.length = atomsF L .nil := by
  induction L with
  | nil => rfl
  | cons k L ih => simp only [atomsF, Tm.preF, List.length_cons, ih]
theorem allV_app (F G : Fo) : Tm.allV (Tm.app F G) = (Tm.allV F && Tm.allV G) := by
  induction F with
  | nil => simp [Tm.app, Tm.allV]
  | node p l r _ ih => simp only [Tm.app, Tm.allV, ih, Bool.and_assoc]
def culp (p : Pay) (l : Fo) (n : Nat) : Pay × Fo := if 2000 < 3 + n + Tm.sizeB l then (Tm.dots, .nil) else (p, l)
def ballE (p : Pay) (l : Fo) : Pay × Fo := Tm.cloneOf (3, 0, Tm.errName) (.node p l (.node Tm.emptyA .nil .nil))
def refE (p : Pay) (l : Fo) (s : ByteArray) (L : List ByteArray) : Pay × Fo :=
  if Tm.validB p l = true then ballE (3, 0, s) (atomsF L (.node (culp p l L.length).1 (culp p l L.length).2 .nil)) else (zp, .nil)
theorem allV_of_all {F : Fo} (h : Tm.allB F = true) (hz : Tm.size F ≤ 2000) : Tm.allV F = true := by
  induction F with
  | nil => rfl
  | node p l r _ ih =>
    rw [Tm.allB_cons, Bool.and_eq_true] at h
    simp only [Tm.size] at hz
    simp only [Tm.allV, Bool.and_eq_true]
    refine ⟨?_, ih h.2 (by omega)⟩
    unfold Tm.validB
    rw [h.1, Bool.and_true, decide_eq_true_eq]
    omega
/-- The package's error term is the reference's ball, where the whole is small. -/
theorem err_ref {s : ByteArray} {F : Fo} (hs : s.size ≤ 100) (hl : 1 ≤ Tm.len F ∧ Tm.len F ≤ 8) (hz : 3 + Tm.size F ≤ 2000) : Tm.errOf s F = ballE (3, 0, s) F := by
  cases ha : Tm.allV F with
  | true =>
    have h := err_small hs hl ha hz
    have hv := err_valid s F
    rw [h] at hv ⊢
    unfold ballE Tm.cloneOf
    rw [if_pos hv]
  | false =>
    unfold Tm.errOf ballE Tm.cloneOf
    rw [ha, if_neg (by decide), if_neg]
    intro hv
    unfold Tm.validB Tm.goodB at hv
    rw [Bool.and_eq_true, Bool.and_eq_true, Tm.allB_cons, Bool.and_eq_true] at hv
    have h2 := hv.2.2.1
    unfold Tm.goodB at h2
    rw [Bool.and_eq_true] at h2
    rw [allV_of_all h2.2 (by omega)] at ha
    cases ha
theorem refE_eq {p : Pay} {l : Fo} {s : ByteArray} {L : List ByteArray} (hs : s.size ≤ 100) (hL : L.length ≤ 7) : refE p l s L = Tm.errOf s (atomsF L (.node p l .nil)) := by
  unfold refE
  cases hv : Tm.validB p l with
  | false =>
    rw [if_neg (by decide)]
    have : Tm.allV (atomsF L (.node p l .nil)) = false := by
      rw [atomsF_app, allV_app]
      simp only [Tm.allV, hv, Bool.false_and, Bool.and_false]
    unfold Tm.errOf
    rw [this, if_neg (by decide)]
  | true =>
    rw [if_pos rfl]
    have hsz : Tm.sizeB l = 1 + Tm.size l ∧ 1 + Tm.size l ≤ 2000 := by
      unfold Tm.validB at hv
      rw [Bool.and_eq_true, decide_eq_true_eq] at hv
      unfold Tm.sizeB
      omega
    by_cases hbig : 2000 < 3 + L.length + Tm.sizeB l
    · have hc : culp p l L.length = (Tm.dots, .nil) := if_pos hbig
      rw [hc]
      have h1 : Tm.errOf s (atomsF L (.node Tm.dots .nil .nil)) = ballE (3, 0, s) (atomsF L (.node Tm.dots .nil .nil)) := err_ref hs (by rw [atomsF_len]; simp only [Tm.len]; omega) (by rw [atomsF_size]; simp only [Tm.size]; omega)
      have hall : Tm.allV (atomsF L (.node p l .nil)) = Tm.allV (atomsF L (.node Tm.dots .nil .nil)) := by
        rw [atomsF_app, atomsF_app L (.node Tm.dots .nil .nil), allV_app, allV_app]
        congr 1
        simp only [Tm.allV, hv]
        rfl
      have hcut : Tm.cutF (atomsF L (.node p l .nil)) = atomsF L (.node Tm.dots .nil .nil) := by
        unfold Tm.cutF
        rw [if_pos (by rw [atomsF_size]; simp only [Tm.size]; omega), atomsF_len]
        simp only [Tm.len]
        rw [show L.length + (0 + 1) - 1 = L.length by omega, atomsF_pre, ← atomsF_app]
      have hcut2 : Tm.cutF (atomsF L (.node Tm.dots .nil .nil)) = atomsF L (.node Tm.dots .nil .nil) := by
        unfold Tm.cutF
        rw [if_neg (by rw [atomsF_size]; simp only [Tm.size]; omega)]
      rw [← h1]
      unfold Tm.errOf
      rw [hall, hcut, hcut2]
    · have hc : culp p l L.length = (p, l) := if_neg hbig
      rw [hc]
      exact (err_ref hs (by rw [atomsF_len]; simp only [Tm.len]; omega) (by rw [atomsF_size]; simp only [Tm.size]; omega)).symm
end Bl
structure StrsIn (B : Nat) (w : World) (A : Option Addr) (n : Nat) (L : List ByteArray) : Prop where
  len : L.length = n
  row : 0 < n → ∃ b o, A = some ⟨b, o, none⟩ ∧ b < B ∧ ∀ j s, L[j]? = some s → w.cell? ⟨b, o + j, none⟩ = some (.string s)
theorem StrsIn.below {B B' n : Nat} {w w' : World} {A : Option Addr} {L : List ByteArray} (h : StrsIn B w A n L) (hb : Below B' w w') (hB : B ≤ B') : StrsIn B w' A n L :=
  ⟨h.len, fun h0 => by
    obtain ⟨b, o, e, hlt, hc⟩ := h.row h0
    exact ⟨b, o, e, hlt, fun j s hj => (cell_of_block (p := ⟨b, o + j, none⟩) (hb.block b (by omega))).trans (hc j s hj)⟩⟩
set_option maxHeartbeats 400000 in
theorem rstr_any (s : ByteArray) (A : Option Addr) (n c : Nat) (w : World) : Calls Try.prog 67 #[.string s, .slice A n c] w fun e w' => e = .returned (tv (3, 0, s) A n c) ∧ Below w.heap.size w w' := by
  go_enter Try.func67, Try.ntmps67
  go_wp2_with fail
  have g1 : TermAt (w.alloc (.cells #[.int .i64 3, .int .i64 0, .string s, .slice A n c] 24)) w.heap.size (3, 0, s) A n c := TermAt.new w (3, 0, s) A n c 24
  refine bodyPost_ret (term_result (q := 4) rfl _ _ w.heap.size (3, 0, s) A n c rfl g1) rfl ?_
  exact ⟨rfl, (Below.refl _ _).alloc (Nat.le_refl _) _⟩
set_option maxHeartbeats 400000 in
theorem rat_any (s : ByteArray) (w : World) : Calls Try.prog 65 #[.string s] w fun e w' => e = .returned (tv (2, 0, s) none 0 0) ∧ Below w.heap.size w w' := by
  go_enter Try.func65, Try.ntmps65
  go_wp2_with fail
  have g1 : TermAt (w.alloc (.cells #[.int .i64 2, .int .i64 0, .string s, .slice none 0 0] 24)) w.heap.size (2, 0, s) none 0 0 := TermAt.new w (2, 0, s) none 0 0 24
  refine bodyPost_ret (term_result (q := 2) rfl _ _ w.heap.size (2, 0, s) none 0 0 rfl g1) rfl ?_
  exact ⟨rfl, (Below.refl _ _).alloc (Nat.le_refl _) _⟩
set_option maxHeartbeats 400000 in
theorem rnum_any (z : Int) (w : World) : Calls Try.prog 68 #[.int .i64 z] w fun e w' => e = .returned (tv (1, z, ByteArray.empty) none 0 0) ∧ Below w.heap.size w w' := by
  go_enter Try.func68, Try.ntmps68
  go_wp2_with fail
  have g1 : TermAt (w.alloc (.cells #[.int .i64 1, .int .i64 z, .string ⟨#[]⟩, .slice none 0 0] 24)) w.heap.size (1, z, ByteArray.empty) none 0 0 := TermAt.new w (1, z, ByteArray.empty) none 0 0 24
  refine bodyPost_ret (term_result (q := 2) rfl _ _ w.heap.size (1, z, ByteArray.empty) none 0 0 rfl g1) rfl ?_
  exact ⟨rfl, (Below.refl _ _).alloc (Nat.le_refl _) _⟩
end Go.Proofs.Ytapcnehpechkpaa
