/-
  Canon of the package and of the reference.
-/
import Derived.Test.YtmljkhofahgelaaMakers
import Derived.Test.YtmljkhofahgelaaCanon
import Derived.Test.YtmljkhofahgelaaRNumber
namespace Go.Proofs.Ytmljkhofahgelaa
set_option linter.unusedVariables false
set_option linter.unusedSimpArgs false
open Go.RowKit

set_option maxHeartbeats 1000000 in
theorem canon_any (p : Pay) (l : Fo) (A : Option Addr) (c B : Nat) (w : World) (hA : ArgsB w B A (Tm.len l) l) (hB : B ≤ w.heap.size) :
    Calls Try.prog 34 #[tv p A (Tm.len l) c] w (Makes (Tm.canonFn p l).1 (Tm.canonFn p l).2 w) := by
  have V1 := Lib.hid fun (w1 : World) (h1 : ArgsB w1 B A (Tm.len l) l) (h2 : B ≤ w1.heap.size) => valid_any p l A c B w1 h1 h2
  have BX := Lib.hid (two_boxes w)
  cases hv : Tm.validB p l
  · rw [hv] at V1
    have eo : Tm.canonFn p l = (zp, .nil) := by unfold Tm.canonFn; rw [hv]; exact if_neg (by decide)
    rw [eo]
    clear eo
    obtain ⟨n, hn⟩ : ∃ n, n = Tm.len l := ⟨_, rfl⟩
    rw [← hn] at hA V1 ⊢
    have HA := Lib.hid hA
    clear hv hA hn
    go_enter Try.func34, Try.ntmps34
    go_wp2_with fail
    refine (V1.out _ ?_ ?_).mono ?_
    · exact HA.out.below (BX.out _ _) hB
    · simp; omega
    rintro e w1 ⟨rfl, hb1⟩
    have hsz := hb1.size
    simp at hsz
    have hr : ResAt w1 (w.heap.size + 1) := (ResAt.new (w.alloc _) 24 _ (by simp)).below hb1 (by simp)
    have hw1 : w.heap.size + 1 < w1.heap.size := by omega
    have r0 := hr.t.kind
    have r1 := hr.t.num
    have r2 := hr.t.name
    have r3 := hr.t.args
    have q0 := hr.s.s0
    have q1 := hr.s.s1
    have q2 := hr.s.s2
    have q3 := hr.s.s3
    have HB1 := Lib.hid ((BX.out _ _).trans (hb1.mono (by simp; omega)) : Below w.heap.size w w1)
    have HR := Lib.hid hr
    clear hb1 hr
    go_wp2_with fail
    have st := stored w1 (w.heap.size + 1) zp zp none none 0 0 0 0 HR.out.t HR.out.s
    show bodyPost _ _ _ _ _ (set4 w1 (w.heap.size + 1) 0 zp none 0 0)
    generalize set4 w1 (w.heap.size + 1) 0 zp none 0 0 = w2 at st ⊢
    refine bodyPost_ret (term_result (q := 2) rfl _ _ (w.heap.size + 1) zp none 0 0 rfl st.term) rfl ?_
    exact ⟨none, 0, rfl, ArgsIn.nil _ _ _, st.below _ _ HB1.out (by omega)⟩
  have hg : Tm.goodB p l = true := by unfold Tm.validB at hv; rw [Bool.and_eq_true] at hv; exact hv.2
  have C2 := Lib.hid fun (w1 : World) (h1 : ArgsB w1 B A (Tm.len l) l) (h2 : B ≤ w1.heap.size) => canonical_any p l A c B w1 h1 hg h2
  rw [hv] at V1
  obtain ⟨⟨P2, L2⟩, hq⟩ : ∃ q, q = Tm.canonOf p l := ⟨_, rfl⟩
  have eo : Tm.canonFn p l = (P2, L2) := by unfold Tm.canonFn; rw [hv]; exact (if_pos rfl).trans hq.symm
  rw [eo]
  rw [← hq] at C2
  clear hq
  try unfold Makes at C2
  unfold Makes
  simp only []
  clear eo
  obtain ⟨n, hn⟩ : ∃ n, n = Tm.len l := ⟨_, rfl⟩
  rw [← hn] at hA V1 C2 ⊢
  obtain ⟨n2, hn2⟩ : ∃ n2, n2 = Tm.len (L2) := ⟨_, rfl⟩
  rw [← hn2] at C2 ⊢
  clear hn2
  have HA := Lib.hid hA
  clear hv hA hn hg
  go_enter Try.func34, Try.ntmps34
  go_wp2_with fail
  refine (V1.out _ ?_ ?_).mono ?_
  · exact HA.out.below (BX.out _ _) hB
  · simp; omega
  rintro e w0 ⟨rfl, hb0⟩
  have hsz0 := hb0.size
  simp at hsz0
  have hta : TermAt w0 w.heap.size p A n c := ((TermAt.new w p A n c 24).below (B := w.heap.size + 1) ((Below.refl _ _).alloc (by simp) _) (by omega)).below hb0 (by simp; omega)
  have hres : ResAt w0 (w.heap.size + 1) := (ResAt.new (w.alloc _) 24 _ (by simp)).below hb0 (by simp)
  have y0 := hta.kind
  have y1 := hta.num
  have y2 := hta.name
  have y3 := hta.args
  have hw0 : w.heap.size + 1 < w0.heap.size := by omega
  have HB0 := Lib.hid ((BX.out _ _).trans (hb0.mono (by simp; omega)) : Below w.heap.size w w0)
  have HR0 := Lib.hid hres
  clear hb0 hta hres
  go_wp2_with fail
  refine (C2.out _ ?_ ?_).mono ?_
  · exact HA.out.below HB0.out hB
  · omega
  rintro e w1 ⟨A1, c1, rfl, ha1, hb1⟩
  have hsz := hb1.size
  try simp at hsz
  have hr : ResAt w1 (w.heap.size + 1) := (HR0.out).below hb1 (by first | omega | (simp; done) | (simp; omega))
  have hw1 : w.heap.size + 1 < w1.heap.size := by omega
  have r0 := hr.t.kind
  have r1 := hr.t.num
  have r2 := hr.t.name
  have r3 := hr.t.args
  have q0 := hr.s.s0
  have q1 := hr.s.s1
  have q2 := hr.s.s2
  have q3 := hr.s.s3
  have HA1 := Lib.hid ha1
  have HB1 := Lib.hid ((HB0.out).trans (hb1.mono (by first | omega | (simp; done) | (simp; omega))) : Below w.heap.size w w1)
  have HR := Lib.hid hr
  clear ha1 hb1 hr
  go_wp2_with fail
  have st := stored w1 (w.heap.size + 1) P2 zp A1 none (n2) c1 0 0 HR.out.t HR.out.s
  show bodyPost _ _ _ _ _ (set4 w1 (w.heap.size + 1) 0 P2 A1 (n2) c1)
  generalize set4 w1 (w.heap.size + 1) 0 P2 A1 (n2) c1 = w2 at st ⊢
  refine bodyPost_ret (term_result (q := 2) rfl _ _ (w.heap.size + 1) P2 A1 (n2) c1 rfl st.term) rfl ?_
  exact ⟨A1, c1, rfl, st.fresh (N := w0.heap.size) (HA1.out.mono (fun b hb => by have h1 := hb.1; have h2 := hb.2; (try simp only [World.size_alloc] at h1); omega)) (by omega) (by omega), st.below _ _ HB1.out (by omega)⟩

set_option maxHeartbeats 1000000 in
theorem rcanon_any (p : Pay) (l : Fo) (A : Option Addr) (c B : Nat) (w : World) (hA : ArgsB w B A (Tm.len l) l) (hB : B ≤ w.heap.size) :
    Calls Try.prog 48 #[tv p A (Tm.len l) c] w (Makes (Tm.canonFn p l).1 (Tm.canonFn p l).2 w) := by
  have V1 := Lib.hid fun (w1 : World) (h1 : ArgsB w1 B A (Tm.len l) l) (h2 : B ≤ w1.heap.size) => rvalid_any p l A c B w1 h1 h2
  have BX := Lib.hid (two_boxes w)
  cases hv : Tm.validB p l
  · rw [hv] at V1
    have eo : Tm.canonFn p l = (zp, .nil) := by unfold Tm.canonFn; rw [hv]; exact if_neg (by decide)
    rw [eo]
    clear eo
    obtain ⟨n, hn⟩ : ∃ n, n = Tm.len l := ⟨_, rfl⟩
    rw [← hn] at hA V1 ⊢
    have HA := Lib.hid hA
    clear hv hA hn
    go_enter Try.func48, Try.ntmps48
    go_wp2_with fail
    refine (V1.out _ ?_ ?_).mono ?_
    · exact HA.out.below (BX.out _ _) hB
    · simp; omega
    rintro e w1 ⟨rfl, hb1⟩
    have hsz := hb1.size
    simp at hsz
    have hr : ResAt w1 (w.heap.size + 1) := (ResAt.new (w.alloc _) 24 _ (by simp)).below hb1 (by simp)
    have hw1 : w.heap.size + 1 < w1.heap.size := by omega
    have r0 := hr.t.kind
    have r1 := hr.t.num
    have r2 := hr.t.name
    have r3 := hr.t.args
    have q0 := hr.s.s0
    have q1 := hr.s.s1
    have q2 := hr.s.s2
    have q3 := hr.s.s3
    have HB1 := Lib.hid ((BX.out _ _).trans (hb1.mono (by simp; omega)) : Below w.heap.size w w1)
    have HR := Lib.hid hr
    clear hb1 hr
    go_wp2_with fail
    have st := stored w1 (w.heap.size + 1) zp zp none none 0 0 0 0 HR.out.t HR.out.s
    show bodyPost _ _ _ _ _ (set4 w1 (w.heap.size + 1) 0 zp none 0 0)
    generalize set4 w1 (w.heap.size + 1) 0 zp none 0 0 = w2 at st ⊢
    refine bodyPost_ret (term_result (q := 2) rfl _ _ (w.heap.size + 1) zp none 0 0 rfl st.term) rfl ?_
    exact ⟨none, 0, rfl, ArgsIn.nil _ _ _, st.below _ _ HB1.out (by omega)⟩
  have hg : Tm.goodB p l = true := by unfold Tm.validB at hv; rw [Bool.and_eq_true] at hv; exact hv.2
  have C2 := Lib.hid fun (w1 : World) (h1 : ArgsB w1 B A (Tm.len l) l) (h2 : B ≤ w1.heap.size) => rvars_any p l A c B w1 hv h1 h2
  have hv' := hv
  unfold Tm.validB at hv'
  rw [Bool.and_eq_true, decide_eq_true_eq] at hv'
  have C3 := Lib.hid fun AL nL cL (w1 : World) (h1 : ArgsB w1 B A (Tm.len l) l) (h2 : B ≤ w1.heap.size) (h3 : ListIn w1 AL nL (Tm.varsOf p l)) => rnumber_up (Tm.varsOf p l) AL nL cL (Tm.size l + 1) p l A c B w1 (by omega) (by omega) hg h1 h2 h3
  clear hv'
  have ec : (Tm.rebT (Tm.numF (Tm.varsOf p l)) () p l).2 = Tm.canonOf p l := rfl
  rw [ec] at C3
  clear ec
  rw [hv] at V1
  obtain ⟨⟨P2, L2⟩, hq⟩ : ∃ q, q = Tm.canonOf p l := ⟨_, rfl⟩
  have eo : Tm.canonFn p l = (P2, L2) := by unfold Tm.canonFn; rw [hv]; exact (if_pos rfl).trans hq.symm
  rw [eo]
  rw [← hq] at C3
  clear hq
  try unfold Makes at C2
  unfold Makes
  simp only []
  clear eo
  obtain ⟨n, hn⟩ : ∃ n, n = Tm.len l := ⟨_, rfl⟩
  rw [← hn] at hA V1 C2 C3 ⊢
  obtain ⟨n2, hn2⟩ : ∃ n2, n2 = Tm.len (L2) := ⟨_, rfl⟩
  rw [← hn2] at C3 ⊢
  clear hn2
  have HA := Lib.hid hA
  clear hv hA hn hg
  go_enter Try.func48, Try.ntmps48
  go_wp2_with fail
  refine (V1.out _ ?_ ?_).mono ?_
  · exact HA.out.below (BX.out _ _) hB
  · simp; omega
  rintro e w0 ⟨rfl, hb0⟩
  have hsz0 := hb0.size
  simp at hsz0
  have hta : TermAt w0 w.heap.size p A n c := ((TermAt.new w p A n c 24).below (B := w.heap.size + 1) ((Below.refl _ _).alloc (by simp) _) (by omega)).below hb0 (by simp; omega)
  have hres : ResAt w0 (w.heap.size + 1) := (ResAt.new (w.alloc _) 24 _ (by simp)).below hb0 (by simp)
  have y0 := hta.kind
  have y1 := hta.num
  have y2 := hta.name
  have y3 := hta.args
  have hw0 : w.heap.size + 1 < w0.heap.size := by omega
  have HB0 := Lib.hid ((BX.out _ _).trans (hb0.mono (by simp; omega)) : Below w.heap.size w w0)
  have HR0 := Lib.hid hres
  clear hb0 hta hres
  go_wp2_with fail
  have hw0' : w.heap.size < w0.heap.size := by omega
  go_region_held3 (fun w' => w'.cell? ⟨w.heap.size, 0, none⟩ = some (.int .i64 p.1) ∧ w'.cell? ⟨w.heap.size, 1, none⟩ = some (.int .i64 p.2.1) ∧ w'.cell? ⟨w.heap.size, 2, none⟩ = some (.string p.2.2) ∧ w'.cell? ⟨w.heap.size, 3, none⟩ = some (.slice A n c)) (go_keep)
    (first
      | (go_at_call 52
         refine (C2.out _ (by exact (HA.out.below HB0.out hB).keep (fun _ _ => rfl)) (by show B ≤ w0.heap.size; omega)).mono ?_
         rintro e w1 ⟨AL, nL, cL, rfl, hl1, hb1⟩
         have hb2 : Below w0.heap.size w0 w1 := (Below.refl w0.heap.size w0).drew.trans hb1
         have v0 := (hb2.cell (p := ⟨w.heap.size, 0, none⟩) hw0').trans y0
         have v1 := (hb2.cell (p := ⟨w.heap.size, 1, none⟩) hw0').trans y1
         have v2 := (hb2.cell (p := ⟨w.heap.size, 2, none⟩) hw0').trans y2
         have v3 := (hb2.cell (p := ⟨w.heap.size, 3, none⟩) hw0').trans y3
         have HL1 := Lib.hid hl1
         have HB2 := Lib.hid hb2
         have hs2 := hb2.size
         clear hl1 hb1 hb2)
      | (go_at_call 68
         refine (C3.out AL nL cL _ (by exact HA.out.below (HB0.out.trans (HB2.out.mono (by omega))) hB) (by omega) HL1.out).mono ?_
         rintro e w3 ⟨A1, c1, rfl, ha1, hb3⟩
         have u0 := (hb3.cell (p := ⟨w.heap.size, 0, none⟩) (by show w.heap.size < _; omega)).trans v0
         have u1 := (hb3.cell (p := ⟨w.heap.size, 1, none⟩) (by show w.heap.size < _; omega)).trans v1
         have u2 := (hb3.cell (p := ⟨w.heap.size, 2, none⟩) (by show w.heap.size < _; omega)).trans v2
         have u3 := (hb3.cell (p := ⟨w.heap.size, 3, none⟩) (by show w.heap.size < _; omega)).trans v3
         have hr3 : ResAt w3 (w.heap.size + 1) := (HR0.out.below HB2.out hw0).below hb3 (by omega)
         have hw3 : w.heap.size + 1 < w3.heap.size := by have := hb3.size; omega
         have r0 := hr3.t.kind
         have r1 := hr3.t.num
         have r2 := hr3.t.name
         have r3 := hr3.t.args
         have q0 := hr3.s.s0
         have q1 := hr3.s.s1
         have q2 := hr3.s.s2
         have q3 := hr3.s.s3
         have HA3 := Lib.hid ha1
         have HB3 := Lib.hid (HB0.out.trans ((HB2.out.mono (by omega)).trans (hb3.mono (by omega))) : Below w.heap.size w w3)
         have HR3 := Lib.hid hr3
         clear ha1 hb3 hr3))
  go_wp2_with fail
  have st := stored w3 (w.heap.size + 1) P2 zp A1 none n2 c1 0 0 HR3.out.t HR3.out.s
  show bodyPost _ _ _ _ _ (set4 w3 (w.heap.size + 1) 0 P2 A1 n2 c1)
  generalize set4 w3 (w.heap.size + 1) 0 P2 A1 n2 c1 = w5 at st ⊢
  refine bodyPost_ret (term_result (q := 2) rfl _ _ (w.heap.size + 1) P2 A1 n2 c1 rfl st.term) rfl ?_
  exact ⟨A1, c1, rfl, st.fresh (N := w1.heap.size) HA3.out (by omega) (by omega), st.below _ _ HB3.out (by omega)⟩
end Go.Proofs.Ytmljkhofahgelaa
