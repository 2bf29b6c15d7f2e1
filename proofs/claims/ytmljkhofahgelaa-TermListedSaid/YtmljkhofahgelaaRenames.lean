/-
  package term's Rename, and the reference's.
-/
import Derived.Test.YtmljkhofahgelaaRename
namespace Go.Proofs.Ytmljkhofahgelaa
set_option linter.unusedVariables false
set_option linter.unusedSimpArgs false
open Go.RowKit

theorem cells_after (w1 : World) (r e : Nat) (hne : e ≠ r) (P p0 : Pay) (A A0 : Option Addr) (n c n0 c0 : Nat) (x y : Int) (ht : TermAt w1 r p0 A0 n0 c0) (hs : SoftAt w1 r) (he : CellIs w1 e (.int .i64 y)) :
    TermAt ((set4 w1 r 0 P A n c).setCell ⟨e, 0, none⟩ (.int .i64 x)) r P A n c ∧ ((set4 w1 r 0 P A n c).setCell ⟨e, 0, none⟩ (.int .i64 x)).cell? ⟨e, 0, none⟩ = some (.int .i64 x) ∧
    (∀ k, k ≠ r → k ≠ e → ((set4 w1 r 0 P A n c).setCell ⟨e, 0, none⟩ (.int .i64 x)).heap[k]? = w1.heap[k]?) ∧ ((set4 w1 r 0 P A n c).setCell ⟨e, 0, none⟩ (.int .i64 x)).heap.size = w1.heap.size ∧
    (∀ B w, Below B w w1 → B ≤ r → B ≤ e → Below B w ((set4 w1 r 0 P A n c).setCell ⟨e, 0, none⟩ (.int .i64 x))) := by
  have st := stored w1 r P p0 A A0 n c n0 c0 ht hs
  have he2 : CellIs (set4 w1 r 0 P A n c) e (.int .i64 y) := ⟨(cell_of_block (p := ⟨e, 0, none⟩) (st.block e hne)).trans he.cell, by rw [set4_frozen]; exact he.soft⟩
  refine ⟨st.term.same (setCell_block _ _ _ _ _ (fun h => hne h.symm)), (he2.set _).cell, fun k h1 h2 => (setCell_block _ _ _ _ _ h2).trans (st.block k h1), by rw [setCell_size]; exact st.size, fun B w hb h1 h2 => (st.below B w hb h1).setCell (p := ⟨e, 0, none⟩) h2 _⟩

set_option maxHeartbeats 2000000 in
theorem rename_any (p : Pay) (l : Fo) (A : Option Addr) (c B : Nat) (d : Int) (w : World) (hA : ArgsB w B A (Tm.len l) l) (hB : B ≤ w.heap.size) :
    Calls Try.prog 19 #[tv p A (Tm.len l) c, .int .i64 d] w (Makes2 (Tm.renameOf p l d) w) := by
  have V1 := Lib.hid fun (w1 : World) (h1 : ArgsB w1 B A (Tm.len l) l) (h2 : B ≤ w1.heap.size) => valid_any p l A c B w1 h1 h2
  have k0 : ∀ o1 o2 o3 o4 : Obj, Below w.heap.size w ((((w.alloc o1).alloc o2).alloc o3).alloc o4) := fun o1 o2 o3 o4 => Only.below (X := fun _ => False) (((((Only.refl _ w).alloc _).alloc _).alloc _).alloc _) (Nat.le_refl _) (fun _ h => h.elim)
  have K0 := Lib.hid k0
  have kr : ∀ o1 o2 o4 : Obj, ResAt ((((w.alloc o1).alloc o2).alloc (.cells #[.int .i64 0, .int .i64 0, .string ⟨#[]⟩, .slice none 0 0] 24)).alloc o4) (w.heap.size + 2) := fun o1 o2 o4 => (ResAt.new ((w.alloc o1).alloc o2) 24 _ (by simp)).same (Below.heap_alloc _ _ _ (by simp))
  have ke : ∀ o1 o2 o3 : Obj, CellIs ((((w.alloc o1).alloc o2).alloc o3).alloc (.cells #[.int .i64 0] 29)) (w.heap.size + 3) (.int .i64 0) := fun o1 o2 o3 => CellIs.new' _ _ _ _ (by simp)
  have kf : ∀ o1 o3 o4 : Obj, CellIs ((((w.alloc o1).alloc (.cells #[.int .i64 d] 2)).alloc o3).alloc o4) (w.heap.size + 1) (.int .i64 d) := fun o1 o3 o4 => ((CellIs.new' (w.alloc o1) (.int .i64 d) 2 (w.heap.size + 1) (by simp)).alloc o3).alloc o4
  have kt : ∀ (n : Nat) (o2 o3 o4 : Obj), TermAt ((((w.alloc (.cells #[.int .i64 p.1, .int .i64 p.2.1, .string p.2.2, .slice A n c] 24)).alloc o2).alloc o3).alloc o4) w.heap.size p A n c := fun n o2 o3 o4 => (TermAt.new w p A n c 24).below (B := w.heap.size + 1) ((((Below.refl _ _).alloc (by simp) _).alloc (by simp) _).alloc (by simp; try omega) _) (by omega)
  have KR := Lib.hid kr
  have KE := Lib.hid ke
  have KF := Lib.hid kf
  have KT := Lib.hid kt
  have hg : Tm.validB p l = true → Tm.goodB p l = true := fun hv => by unfold Tm.validB at hv; rw [Bool.and_eq_true] at hv; exact hv.2
  have C2 := Lib.hid fun (h : Tm.validB p l = true) (d0 : 0 ≤ d) (d1 : d ≤ 1099511627776) (w2 : World) (h2 : ArgsB w2 B A (Tm.len l) l) (h3 : RenSt (w.heap.size + 1) (w.heap.size + 3) d false w2) (h4 : w.heap.size + 4 ≤ w2.heap.size) =>
    rebuilt_up (Tm.renF d) 51 #[.pointer (some ⟨w.heap.size + 1, 0, none⟩), .pointer (some ⟨w.heap.size + 3, 0, none⟩)] B 0 (w.heap.size + 4) (· = w.heap.size + 3) (RenSt (w.heap.size + 1) (w.heap.size + 3) d) (renSpec B (w.heap.size + 4) (w.heap.size + 1) (w.heap.size + 3) d (by omega) (by omega) (by omega) (by omega) d0 d1) (Tm.size l + 1) p l A c false w2 (by omega) h2 (hg h) h3 h4
  have eb := fun h : Tm.validB p l = true => Tm.rebT_ren d p l (hg h) false
  have EB := Lib.hid eb
  have CV := Lib.hid fun w => isVar_any d w
  unfold Tm.renameOf
  by_cases hv : Tm.validB p l = true
  · by_cases hd : 0 ≤ d ∧ d ≤ 1099511627776
    · rw [if_pos ⟨hv, hd.1, hd.2⟩]
      have C3 := Lib.hid (C2.out hv hd.1 hd.2)
      unfold RebDoes at C3
      rw [EB.out hv] at C3
      rw [hv] at V1
      rw [show (decide (0 ≤ d) && decide (d ≤ 1099511627776)) = true by rw [Bool.and_eq_true, decide_eq_true_eq, decide_eq_true_eq]; exact hd] at CV
      obtain ⟨q, hq⟩ : ∃ q, q = (Tm.rebT (Tm.shiftF d) () p l).2 := ⟨_, rfl⟩
      rw [← hq] at C3 ⊢
      obtain ⟨P2, L2⟩ := q
      simp only [Bool.false_or] at C3
      obtain ⟨n, hn⟩ : ∃ n, n = Tm.len l := ⟨_, rfl⟩
      rw [← hn] at hA V1 C3 ⊢
      obtain ⟨n2, hn2⟩ : ∃ n2, n2 = Tm.len L2 := ⟨_, rfl⟩
      rw [← hn2] at C3
      have HN2 := Lib.hid hn2
      have HA := Lib.hid hA
      have d1 : Hid (0 ≤ d ∧ d ≤ 1099511627776) := Lib.hid hd
      clear C2 EB eb hg hA hq hn hn2 kr ke kf kt k0 hd hv
      cases hbad : Tm.overB d (Tm.occT p l)
      · rw [hbad] at C3
        simp only [Bool.false_eq_true, if_false]
        unfold Makes2
        rw [← HN2.out]
        clear hbad
        go_enter Try.func19, Try.ntmps19
        go_wp2_with fail
        refine (V1.out _ ?_ ?_).mono ?_
        · exact HA.out.below (K0.out _ _ _ _) hB
        · simp; omega
        rintro e w1 ⟨rfl, hb1⟩
        have hsz1 := hb1.size
        simp at hsz1
        have hlt : ∀ k, k ≤ 3 → w.heap.size + k < w1.heap.size := fun k hk => by omega
        have HT := Lib.hid ((KT.out n _ _ _).below hb1 (by simp; omega))
        have HF := Lib.hid ((KF.out _ _ _).below hb1 (by simp))
        have HE := Lib.hid ((KE.out _ _ _).below hb1 (by simp))
        have HR := Lib.hid ((KR.out _ _ _).below hb1 (by simp))
        have HB := Lib.hid ((K0.out _ _ _ _).trans (hb1.mono (by simp; omega)) : Below w.heap.size w w1)
        have y0 := HT.out.kind
        have y1 := HT.out.num
        have y2 := HT.out.name
        have y3 := HT.out.args
        have f0 := HF.out.cell
        have hw1 : w.heap.size < w1.heap.size := by omega
        clear hb1
        go_wp2_with fail
        refine (CV.out _).mono ?_
        rintro e w2 ⟨rfl, rfl⟩
        go_wp2_with fail
        refine (C3.out _ ?_ ?_ ?_).mono ?_
        · exact HA.out.below HB.out hB
        · exact ⟨HF.out.cell, HE.out⟩
        · omega
        rintro e w2 ⟨A1, c1, rfl, ha1, hst, ho1⟩
        have hsz2 := ho1.size
        have hr2 : ResAt w2 (w.heap.size + 2) := HR.out.same (ho1.block _ (by omega) (by omega))
        have he2 : CellIs w2 (w.heap.size + 3) (.int .i64 (errN false)) := hst.err
        have hw2 : w.heap.size + 2 < w2.heap.size := by omega
        have hw3 : w.heap.size + 3 < w2.heap.size := by omega
        have r0 := hr2.t.kind
        have r1 := hr2.t.num
        have r2 := hr2.t.name
        have r3 := hr2.t.args
        have q0 := hr2.s.s0
        have q1 := hr2.s.s1
        have q2 := hr2.s.s2
        have q3 := hr2.s.s3
        have e0 : w2.cell? ⟨w.heap.size + 3, 0, none⟩ = some (.int .i64 0) := he2.cell
        have e1 := he2.soft
        have HR2 := Lib.hid hr2
        have HE2 := Lib.hid he2
        have HA1 := Lib.hid ha1
        have HB2 := Lib.hid (HB.out.trans (ho1.below (by omega) (fun k hk => by omega)) : Below w.heap.size w w2)
        clear ha1 hst ho1 hr2 he2 y0 y1 y2 y3 f0
        go_wp2_with fail
        have st := stored w2 (w.heap.size + 2) P2 zp A1 none n2 c1 0 0 HR2.out.t HR2.out.s
        have he3 : CellIs (set4 w2 (w.heap.size + 2) 0 P2 A1 n2 c1) (w.heap.size + 3) (.int .i64 0) := ⟨(cell_of_block (p := ⟨w.heap.size + 3, 0, none⟩) (st.block (w.heap.size + 3) (by omega))).trans HE2.out.cell, by rw [set4_frozen]; exact HE2.out.soft⟩
        have fin := cells_after (set4 w2 (w.heap.size + 2) 0 P2 A1 n2 c1) (w.heap.size + 2) (w.heap.size + 3) (by omega) P2 P2 A1 A1 n2 c1 n2 c1 0 0 st.term st.soft he3
        show bodyPost _ _ _ _ _ ((set4 (set4 w2 (w.heap.size + 2) 0 P2 A1 n2 c1) (w.heap.size + 2) 0 P2 A1 n2 c1).setCell ⟨w.heap.size + 3, 0, none⟩ (.int .i64 0))
        generalize (set4 (set4 w2 (w.heap.size + 2) 0 P2 A1 n2 c1) (w.heap.size + 2) 0 P2 A1 n2 c1).setCell ⟨w.heap.size + 3, 0, none⟩ (.int .i64 0) = w5 at fin ⊢
        generalize set4 w2 (w.heap.size + 2) 0 P2 A1 n2 c1 = w4 at st fin
        obtain ⟨f1, f2, f3, f4, f5⟩ := fin
        refine bodyPost_ret (term_result_cell (q := 4) (u := 5) rfl _ _ (w.heap.size + 2) (w.heap.size + 3) P2 A1 n2 c1 0 rfl rfl f1 f2) rfl ?_
        refine ⟨A1, c1, rfl, ?_, f5 _ _ (st.below _ _ HB2.out (by omega)) (by omega) (by omega)⟩
        refine ((HA1.out.keep (w' := w5) fun b hb => (f3 b (by omega) (by omega)).trans (st.block b (by omega)))).mono fun b hb => ⟨by omega, by rw [f4, st.size]; exact hb.2⟩
      · rw [hbad] at C3
        simp only [if_true]
        unfold Makes2
        clear hbad
        go_enter Try.func19, Try.ntmps19
        go_wp2_with fail
        refine (V1.out _ ?_ ?_).mono ?_
        · exact HA.out.below (K0.out _ _ _ _) hB
        · simp; omega
        rintro e w1 ⟨rfl, hb1⟩
        have hsz1 := hb1.size
        simp at hsz1
        have hlt : ∀ k, k ≤ 3 → w.heap.size + k < w1.heap.size := fun k hk => by omega
        have HT := Lib.hid ((KT.out n _ _ _).below hb1 (by simp; omega))
        have HF := Lib.hid ((KF.out _ _ _).below hb1 (by simp))
        have HE := Lib.hid ((KE.out _ _ _).below hb1 (by simp))
        have HR := Lib.hid ((KR.out _ _ _).below hb1 (by simp))
        have HB := Lib.hid ((K0.out _ _ _ _).trans (hb1.mono (by simp; omega)) : Below w.heap.size w w1)
        have y0 := HT.out.kind
        have y1 := HT.out.num
        have y2 := HT.out.name
        have y3 := HT.out.args
        have f0 := HF.out.cell
        have hw1 : w.heap.size < w1.heap.size := by omega
        clear hb1
        go_wp2_with fail
        refine (CV.out _).mono ?_
        rintro e w2 ⟨rfl, rfl⟩
        go_wp2_with fail
        refine (C3.out _ ?_ ?_ ?_).mono ?_
        · exact HA.out.below HB.out hB
        · exact ⟨HF.out.cell, HE.out⟩
        · omega
        rintro e w2 ⟨A1, c1, rfl, ha1, hst, ho1⟩
        have hsz2 := ho1.size
        have hr2 : ResAt w2 (w.heap.size + 2) := HR.out.same (ho1.block _ (by omega) (by omega))
        have he2 : CellIs w2 (w.heap.size + 3) (.int .i64 (errN true)) := hst.err
        have hw2 : w.heap.size + 2 < w2.heap.size := by omega
        have hw3 : w.heap.size + 3 < w2.heap.size := by omega
        have r0 := hr2.t.kind
        have r1 := hr2.t.num
        have r2 := hr2.t.name
        have r3 := hr2.t.args
        have q0 := hr2.s.s0
        have q1 := hr2.s.s1
        have q2 := hr2.s.s2
        have q3 := hr2.s.s3
        have e0 : w2.cell? ⟨w.heap.size + 3, 0, none⟩ = some (.int .i64 2) := he2.cell
        have e1 := he2.soft
        have HR2 := Lib.hid hr2
        have HE2 := Lib.hid he2
        have HA1 := Lib.hid ha1
        have HB2 := Lib.hid (HB.out.trans (ho1.below (by omega) (fun k hk => by omega)) : Below w.heap.size w w2)
        clear ha1 hst ho1 hr2 he2 y0 y1 y2 y3 f0
        go_wp2_with fail
        go_region
        go_wp2_with fail
        have st := stored w2 (w.heap.size + 2) P2 zp A1 none n2 c1 0 0 HR2.out.t HR2.out.s
        have he3 : CellIs (set4 w2 (w.heap.size + 2) 0 P2 A1 n2 c1) (w.heap.size + 3) (.int .i64 2) := ⟨(cell_of_block (p := ⟨w.heap.size + 3, 0, none⟩) (st.block (w.heap.size + 3) (by omega))).trans HE2.out.cell, by rw [set4_frozen]; exact HE2.out.soft⟩
        have fin := cells_after (set4 w2 (w.heap.size + 2) 0 P2 A1 n2 c1) (w.heap.size + 2) (w.heap.size + 3) (by omega) zp P2 none A1 0 0 n2 c1 2 2 st.term st.soft he3
        show bodyPost _ _ _ _ _ ((set4 (set4 w2 (w.heap.size + 2) 0 P2 A1 n2 c1) (w.heap.size + 2) 0 zp none 0 0).setCell ⟨w.heap.size + 3, 0, none⟩ (.int .i64 2)).drew
        generalize (set4 (set4 w2 (w.heap.size + 2) 0 P2 A1 n2 c1) (w.heap.size + 2) 0 zp none 0 0).setCell ⟨w.heap.size + 3, 0, none⟩ (.int .i64 2) = w5 at fin ⊢
        generalize set4 w2 (w.heap.size + 2) 0 P2 A1 n2 c1 = w4 at st fin
        obtain ⟨f1, f2, f3, f4, f5⟩ := fin
        refine bodyPost_ret (term_result_cell (q := 4) (u := 5) rfl _ _ (w.heap.size + 2) (w.heap.size + 3) zp none 0 0 2 rfl rfl (f1.same rfl) f2) rfl ?_
        exact ⟨none, 0, rfl, ArgsIn.nil _ _ _, (f5 _ _ (st.below _ _ HB2.out (by omega)) (by omega) (by omega)).drew⟩
    · rw [if_neg (fun h => hd ⟨h.2.1, h.2.2⟩)]
      rw [hv] at V1
      rw [show (decide (0 ≤ d) && decide (d ≤ 1099511627776)) = false by rw [Bool.and_eq_false_iff, decide_eq_false_iff_not, decide_eq_false_iff_not]; omega] at CV
      obtain ⟨n, hn⟩ : ∃ n, n = Tm.len l := ⟨_, rfl⟩
      rw [← hn] at hA V1 ⊢
      have HA := Lib.hid hA
      clear hA hn hd hv
      unfold Makes2
      clear C2 EB eb hg kr ke kf kt k0
      go_enter Try.func19, Try.ntmps19
      go_wp2_with fail
      refine (V1.out _ ?_ ?_).mono ?_
      · exact HA.out.below (K0.out _ _ _ _) hB
      · simp; omega
      rintro e w1 ⟨rfl, hb1⟩
      have hsz1 := hb1.size
      simp at hsz1
      have HF := Lib.hid ((KF.out _ _ _).below hb1 (by simp))
      have HE := Lib.hid ((KE.out _ _ _).below hb1 (by simp))
      have HR := Lib.hid ((KR.out _ _ _).below hb1 (by simp))
      have HB := Lib.hid ((K0.out _ _ _ _).trans (hb1.mono (by simp; omega)) : Below w.heap.size w w1)
      have r0 := HR.out.t.kind
      have r1 := HR.out.t.num
      have r2 := HR.out.t.name
      have r3 := HR.out.t.args
      have q0 := HR.out.s.s0
      have q1 := HR.out.s.s1
      have q2 := HR.out.s.s2
      have q3 := HR.out.s.s3
      have e0 := HE.out.cell
      have e1 := HE.out.soft
      have f0 := HF.out.cell
      have hw1 : w.heap.size + 2 < w1.heap.size := by omega
      have hw2 : w.heap.size + 3 < w1.heap.size := by omega
      have hw3 : w.heap.size + 1 < w1.heap.size := by omega
      clear hb1
      go_wp2_with fail
      refine (CV.out _).mono ?_
      rintro e w2 ⟨rfl, rfl⟩
      go_wp2_with fail
      have fin := cells_after w1 (w.heap.size + 2) (w.heap.size + 3) (by omega) zp zp none none 0 0 0 0 1 0 HR.out.t HR.out.s HE.out
      show bodyPost _ _ _ _ _ ((set4 w1 (w.heap.size + 2) 0 zp none 0 0).setCell ⟨w.heap.size + 3, 0, none⟩ (.int .i64 1))
      generalize (set4 w1 (w.heap.size + 2) 0 zp none 0 0).setCell ⟨w.heap.size + 3, 0, none⟩ (.int .i64 1) = w5 at fin ⊢
      obtain ⟨f1, f2, f3, f4, f5⟩ := fin
      refine bodyPost_ret (term_result_cell (q := 4) (u := 5) rfl _ _ (w.heap.size + 2) (w.heap.size + 3) zp none 0 0 1 rfl rfl f1 f2) rfl ?_
      exact ⟨none, 0, rfl, ArgsIn.nil _ _ _, f5 _ _ HB.out (by omega) (by omega)⟩
  · rw [if_neg (fun h => hv h.1)]
    rw [show Tm.validB p l = false by simpa using hv] at V1
    obtain ⟨n, hn⟩ : ∃ n, n = Tm.len l := ⟨_, rfl⟩
    rw [← hn] at hA V1 ⊢
    have HA := Lib.hid hA
    clear hA hn hv
    unfold Makes2
    clear C2 EB eb hg kr ke kf kt k0
    go_enter Try.func19, Try.ntmps19
    go_wp2_with fail
    refine (V1.out _ ?_ ?_).mono ?_
    · exact HA.out.below (K0.out _ _ _ _) hB
    · simp; omega
    rintro e w1 ⟨rfl, hb1⟩
    have hsz1 := hb1.size
    simp at hsz1
    have HF := Lib.hid ((KF.out _ _ _).below hb1 (by simp))
    have HE := Lib.hid ((KE.out _ _ _).below hb1 (by simp))
    have HR := Lib.hid ((KR.out _ _ _).below hb1 (by simp))
    have HB := Lib.hid ((K0.out _ _ _ _).trans (hb1.mono (by simp; omega)) : Below w.heap.size w w1)
    have r0 := HR.out.t.kind
    have r1 := HR.out.t.num
    have r2 := HR.out.t.name
    have r3 := HR.out.t.args
    have q0 := HR.out.s.s0
    have q1 := HR.out.s.s1
    have q2 := HR.out.s.s2
    have q3 := HR.out.s.s3
    have e0 := HE.out.cell
    have e1 := HE.out.soft
    have f0 := HF.out.cell
    have hw1 : w.heap.size + 2 < w1.heap.size := by omega
    have hw2 : w.heap.size + 3 < w1.heap.size := by omega
    have hw3 : w.heap.size + 1 < w1.heap.size := by omega
    clear hb1
    go_wp2_with fail
    have fin := cells_after w1 (w.heap.size + 2) (w.heap.size + 3) (by omega) zp zp none none 0 0 0 0 1 0 HR.out.t HR.out.s HE.out
    show bodyPost _ _ _ _ _ ((set4 w1 (w.heap.size + 2) 0 zp none 0 0).setCell ⟨w.heap.size + 3, 0, none⟩ (.int .i64 1))
    generalize (set4 w1 (w.heap.size + 2) 0 zp none 0 0).setCell ⟨w.heap.size + 3, 0, none⟩ (.int .i64 1) = w5 at fin ⊢
    obtain ⟨f1, f2, f3, f4, f5⟩ := fin
    refine bodyPost_ret (term_result_cell (q := 4) (u := 5) rfl _ _ (w.heap.size + 2) (w.heap.size + 3) zp none 0 0 1 rfl rfl f1 f2) rfl ?_
    exact ⟨none, 0, rfl, ArgsIn.nil _ _ _, f5 _ _ HB.out (by omega) (by omega)⟩
end Go.Proofs.Ytmljkhofahgelaa
