/-
  package term's rebuilt for every valid term; its copied and Clone.
-/
import Derived.Test.YtapcnehpechkpaaStored
namespace Go.Proofs.Ytapcnehpechkpaa
set_option linter.unusedVariables false
set_option linter.unusedSimpArgs false
set_option maxRecDepth 100000
open Go.RowKit

/-! ### what a valid node says -/
theorem nodeB_var {v : Int} {s : ByteArray} {n : Nat} (h : Tm.nodeB (0, v, s) n = true) : 0 ≤ v ∧ v ≤ 1099511627776 ∧ s = ByteArray.empty ∧ n = 0 := by
  simp [Tm.nodeB] at h
  exact ⟨h.1.1.1, h.1.1.2, h.1.2, h.2⟩
theorem nodeB_struct {v : Int} {s : ByteArray} {n : Nat} (h : Tm.nodeB (3, v, s) n = true) : v = 0 ∧ s.size ≤ 100 ∧ 1 ≤ n ∧ n ≤ 8 := by
  simp [Tm.nodeB] at h
  exact ⟨h.1.1.1, h.1.1.2, h.1.2, h.2⟩
theorem nodeB_leaf {k v : Int} {s : ByteArray} {n : Nat} (h : Tm.nodeB (k, v, s) n = true) (h3 : ¬ k = 3) : n = 0 := by
  unfold Tm.nodeB at h
  simp only [] at h
  split at h
  · simp at h; exact h.2
  split at h
  · simp at h; exact h.2
  split at h
  · simp at h; exact h.2
  simp_all

theorem rebuilt_up {σ : Type} (f : σ → Int → σ × Pay × Fo) (g : Nat) (cap : Array Value) (B Bo Bx : Nat) (X : Nat → Prop) (Inv : σ → World → Prop) (O : OfSpec f g cap B Bo Bx X Inv) (m : Nat) : Rebuilds f g cap B Bo Bx X Inv m := by
  induction m with
  | zero => intro p l A c s w hm; omega
  | succ m ih =>
    intro p l A c s w hm hA hg hI hB
    obtain ⟨k, v, nm⟩ := p
    unfold Tm.goodB at hg
    rw [Bool.and_eq_true] at hg
    by_cases h0 : k = 0
    · subst h0
      have h := nodeB_var hg.1
      exact rebuilt_var f g cap B Bo Bx X Inv O v nm (Tm.len l) c A s w l h.1 h.2.1 hI hB
    by_cases h3 : k = 3
    · subst h3
      have h := nodeB_struct hg.1
      obtain ⟨rfl, h⟩ := h
      exact rebuilt_struct f g cap B Bo Bx X Inv O m ih nm l A c s w (by omega) hA hg.2 h.2.2 hI hB
    · have hn := nodeB_leaf hg.1 h3
      obtain rfl := Tm.len_zero hn
      exact rebuilt_leaf f g cap B Bo Bx X Inv O k v nm c A s w h0 h3 hI hB

/-! ### the copy -/
/-- Each variable stands for itself. -/
def keepF : Unit → Int → Unit × Pay × Fo := fun _ v => ((), (0, v, ByteArray.empty), .nil)
theorem reb_keep : ∀ F : Fo, Tm.allB F = true → (Tm.reb keepF () F).2 = F
  | .nil, _ => rfl
  | .node p l r, h => by
    simp only [Tm.allB, Bool.and_eq_true] at h
    rw [Tm.reb_cons]
    unfold Tm.rebT
    obtain ⟨k, v, s⟩ := p
    by_cases h0 : k = 0
    · subst h0
      have hh := nodeB_var h.1.1
      obtain ⟨_, _, rfl, h4⟩ := hh
      obtain rfl := Tm.len_zero h4
      rw [if_pos rfl]
      show Fo.node (0, v, ByteArray.empty) .nil (Tm.reb keepF () r).2 = _
      rw [reb_keep r h.2]
    · rw [if_neg h0]
      show Fo.node (k, v, s) (Tm.reb keepF () l).2 (Tm.reb keepF () r).2 = _
      rw [reb_keep l h.1.2, reb_keep r h.2]
theorem rebT_keep (p : Pay) (l : Fo) (h : Tm.goodB p l = true) : (Tm.rebT keepF () p l).2 = (p, l) := by
  unfold Tm.goodB at h
  rw [Bool.and_eq_true] at h
  unfold Tm.rebT
  obtain ⟨k, v, s⟩ := p
  by_cases h0 : k = 0
  · subst h0
    have hh := nodeB_var h.1
    obtain ⟨_, _, rfl, h4⟩ := hh
    obtain rfl := Tm.len_zero h4
    rw [if_pos rfl]; rfl
  · rw [if_neg h0]
    show ((k, v, s), (Tm.reb keepF () l).2) = _
    rw [reb_keep l h.2]

theorem copied1_any (v : Int) (w : World) : Calls Try.prog 95 #[.int .i64 v] w fun e w' => e = .returned (tv (0, v, ByteArray.empty) none 0 0) ∧ Below w.heap.size w w' := by
  go_enter Try.func95, Try.ntmps95
  go_wp2_with fail
  have g1 : TermAt (w.alloc (.cells #[.int .i64 0, .int .i64 v, .string ⟨#[]⟩, .slice none 0 0] 24)) w.heap.size (0, v, ByteArray.empty) none 0 0 := TermAt.new w (0, v, ByteArray.empty) none 0 0 24
  refine bodyPost_ret (term_result (q := 2) rfl _ _ w.heap.size (0, v, ByteArray.empty) none 0 0 rfl g1) rfl ?_
  exact ⟨rfl, (Below.refl _ _).alloc (Nat.le_refl _) _⟩
theorem enters_copied1 : ∀ (args : Array Value) (w : World), (callFunc 95 args).run Try.prog w = .ok (.enter 95 args) w := fun args w => by kernel_rfl
theorem copiedSpec (B : Nat) : OfSpec keepF 95 #[] B 0 B (fun _ => False) (fun _ _ => True) where
  enters := enters_copied1
  lo := Nat.le_refl _
  lo2 := Nat.zero_le _
  own := fun k h => h.elim
  keeps := fun _ _ _ _ _ _ => trivial
  gives := fun s v w _ _ _ _ => (copied1_any v w).mono fun e w' ⟨he, hb⟩ => ⟨none, 0, he, ArgsIn.nil _ _ _, trivial, Only.of_below hb⟩

set_option maxHeartbeats 1000000 in
theorem copied_any (p : Pay) (l : Fo) (A : Option Addr) (c B : Nat) (w : World) (hA : ArgsB w B A (Tm.len l) l) (hg : Tm.goodB p l = true) (hB : B ≤ w.heap.size) :
    Calls Try.prog 88 #[tv p A (Tm.len l) c] w (Makes p l w) := by
  unfold Makes
  have C1 := Lib.hid fun (w2 : World) (h2 : ArgsB w2 B A (Tm.len l) l) (h4 : B ≤ w2.heap.size) => rebuilt_up keepF 95 #[] B 0 B (fun _ => False) (fun _ _ => True) (copiedSpec B) (Tm.size l + 1) p l A c () w2 (by omega) h2 hg trivial h4
  unfold RebDoes at C1
  rw [rebT_keep p l hg] at C1
  obtain ⟨n, hn⟩ : ∃ n, n = Tm.len l := ⟨_, rfl⟩
  rw [← hn] at hA C1 ⊢
  have HA := Lib.hid hA
  clear hA hg hn
  go_enter Try.func88, Try.ntmps88
  go_wp2_with fail
  refine (C1.out _ ?_ ?_).mono ?_
  · exact HA.out.below (two_boxes w _ _) hB
  · simp; omega
  rintro e w1 ⟨A1, c1, rfl, ha1, -, ho1⟩
  have hb1 : Below (w.heap.size + 2) _ w1 := ho1.below (by simp) (fun k h => h.elim)
  have hsz := hb1.size
  simp at hsz
  have hr : ResAt w1 (w.heap.size + 1) := (ResAt.new (w.alloc _) 24 _ (by simp)).below hb1 (by omega)
  have hw1 : w.heap.size + 1 < w1.heap.size := by omega
  have r0 := hr.t.kind
  have r1 := hr.t.num
  have r2 := hr.t.name
  have r3 := hr.t.args
  have q0 := hr.s.s0
  have q1 := hr.s.s1
  have q2 := hr.s.s2
  have q3 := hr.s.s3
  have HA1 := Lib.hid ha1
  have HB1 := Lib.hid ((two_boxes w _ _).trans (hb1.mono (by omega)) : Below w.heap.size w w1)
  have HR := Lib.hid hr
  clear ha1 ho1 hb1 hr
  go_wp2_with fail
  have st := stored w1 (w.heap.size + 1) p zp A1 none n c1 0 0 HR.out.t HR.out.s
  show bodyPost _ _ _ _ _ (set4 w1 (w.heap.size + 1) 0 p A1 n c1)
  generalize set4 w1 (w.heap.size + 1) 0 p A1 n c1 = w2 at st ⊢
  refine bodyPost_ret (term_result (q := 2) rfl _ _ (w.heap.size + 1) p A1 n c1 rfl st.term) rfl ?_
  exact ⟨A1, c1, rfl, st.fresh (N := w.heap.size + 2) (HA1.out.mono (fun b hb => by have h1 := hb.1; have h2 := hb.2; simp only [World.size_alloc] at h1; omega)) (by omega) (by omega), st.below _ _ HB1.out (by omega)⟩
end Go.Proofs.Ytapcnehpechkpaa
