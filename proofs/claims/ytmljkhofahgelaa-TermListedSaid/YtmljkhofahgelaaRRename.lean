/-
  The reference's Rename.
-/
import Derived.Test.YtmljkhofahgelaaRename
namespace Go.Proofs.Ytmljkhofahgelaa
set_option linter.unusedVariables false
set_option linter.unusedSimpArgs false
open Go.RowKit

namespace Tm
theorem occ_bound (F : Fo) (h : allB F = true) : ∀ v, v ∈ occF F → 0 ≤ v ∧ v ≤ 1099511627776 := by
  induction F with
  | nil => intro v hv; cases hv
  | node p l r ihl ihr =>
    intro v hv
    simp only [allB, Bool.and_eq_true] at h
    obtain ⟨⟨hn, hl⟩, hr⟩ := h
    simp only [occF, List.mem_append] at hv
    rcases hv with hv | hv | hv
    · by_cases h0 : p.1 = 0
      · obtain ⟨k, x, nm⟩ := p
        have h0' : k = 0 := h0
        subst h0'
        obtain ⟨h1, h2, _, _⟩ := nodeB_var hn
        rw [if_pos rfl] at hv
        simp at hv
        subst hv
        exact ⟨h1, h2⟩
      · rw [if_neg h0] at hv; cases hv
    · exact ihl hl v hv
    · exact ihr hr v hv
theorem vars_bound (p : Pay) (l : Fo) (h : validB p l = true) (v : Int) (hv : v ∈ varsOf p l) : 0 ≤ v ∧ v ≤ 1099511627776 := by
  unfold validB at h
  rw [Bool.and_eq_true] at h
  have hF : allB (.node p l .nil) = true := by rw [allB_cons, h.2]; rfl
  refine occ_bound _ hF v ?_
  rw [occF_cons]
  exact List.mem_append_left _ ((mem_varsOf p l v).1 hv)
end Tm

set_option maxHeartbeats 4000000 in
theorem rrename_any (p : Pay) (l : Fo) (A : Option Addr) (c B : Nat) (d : Int) (w : World) (hA : ArgsB w B A (Tm.len l) l) (hB : B ≤ w.heap.size) :
    Calls Try.prog 20 #[tv p A (Tm.len l) c, .int .i64 d] w (Makes2 (Tm.renameOf p l d) w) := by
  have V1 := Lib.hid fun (w1 : World) (h1 : ArgsB w1 B A (Tm.len l) l) (h2 : B ≤ w1.heap.size) => rvalid_any p l A c B w1 h1 h2
  have V2 := Lib.hid fun (hv : Tm.validB p l = true) (w1 : World) (h1 : ArgsB w1 B A (Tm.len l) l) (h2 : B ≤ w1.heap.size) => rvars_any p l A c B w1 hv h1 h2
  have V3 := Lib.hid fun (hv : Tm.validB p l = true) (hd : 0 ≤ d ∧ d ≤ 1099511627776) (w1 : World) (h1 : ArgsB w1 B A (Tm.len l) l) (h2 : B ≤ w1.heap.size) => rshift_any d hd p l A c B w1 hv h1 h2
  have BX := Lib.hid (two_boxes w)
  unfold Tm.renameOf
  have hvb := Tm.vars_bound p l
  have hov : Tm.overB d (Tm.varsOf p l) = Tm.overB d (Tm.occT p l) := Tm.overB_eq (Tm.mem_varsOf p l)
  rw [← hov]
  clear hov
  obtain ⟨L, hL⟩ : ∃ L, L = Tm.varsOf p l := ⟨_, rfl⟩
  rw [← hL] at hvb V2 ⊢
  obtain ⟨n, hn⟩ : ∃ n, n = Tm.len l := ⟨_, rfl⟩
  rw [← hn] at hA V1 V2 V3 ⊢
  have HVB := Lib.hid hvb
  have HA := Lib.hid hA
  clear hL hn hA hvb
  by_cases hv : Tm.validB p l = true
  · rw [hv] at V1
    have V2 := Lib.hid (V2.out hv)
    have V3 := Lib.hid (V3.out hv)
    have HVB := Lib.hid (HVB.out hv)
    by_cases hd0 : 0 ≤ d
    · have hdl : decide (d < 0) = false := by simp; omega
      by_cases hd1 : d ≤ 1099511627776
      · have hdg : decide (1099511627776 < d) = false := by simp; omega
        rw [if_pos ⟨hv, hd0, hd1⟩]
        have V3 := Lib.hid (V3.out ⟨hd0, hd1⟩)
        obtain ⟨t, ht⟩ : ∃ t, t = (Tm.rebT (Tm.shiftF d) () p l).2 := ⟨_, rfl⟩
        rw [← ht] at V3 ⊢
        obtain ⟨P2, L2⟩ := t
        obtain ⟨R, hR⟩ : ∃ R : (Pay × Fo) × Int, R = if Tm.overB d L = true then ((zp, .nil), 2) else ((P2, L2), 0) := ⟨_, rfl⟩
        rw [← hR]
        have HRES := Lib.hid hR
        clear hR
        unfold Makes at V3
        simp only [] at V3
        obtain ⟨n2, hn2⟩ : ∃ n2, n2 = Tm.len L2 := ⟨_, rfl⟩
        rw [← hn2] at V3
        have HN2 := Lib.hid hn2
        clear hv ht hn2
        go_enter Try.func20, Try.ntmps20
        go_wp2_with fail
        refine (V1.out _ ?_ ?_).mono ?_
        · exact HA.out.below (BX.out _ _) hB
        · simp; omega
        rintro e w1 ⟨rfl, hb1⟩
        have hsz := hb1.size
        simp at hsz
        have hta : TermAt w1 w.heap.size p A n c := ((TermAt.new w p A n c 24).below (B := w.heap.size + 1) ((Below.refl _ _).alloc (by simp) _) (by omega)).below hb1 (by simp; omega)
        have hr : ResAt w1 (w.heap.size + 1) := (ResAt.new (w.alloc _) 24 _ (by simp)).below hb1 (by simp)
        have hw1 : w.heap.size + 1 < w1.heap.size := by omega
        have r0 := hr.t.kind
        have r1 := hr.t.num
        have r2 := hr.t.name
        have r3 := hr.t.args
        have q0 := hr.s.s0
        have q1 := hr.s.s1
        have q2 := hr.s.s2
        have q3 := hr.s.s3
        have HB1 := Lib.hid ((BX.out _ _).trans (hb1.mono (by simp; omega)) : Below w.heap.size w w1)
        have HR := Lib.hid hr
        have HT := Lib.hid hta
        clear hb1 hr hta
        have y0 := HT.out.kind
        have y1 := HT.out.num
        have y2 := HT.out.name
        have y3 := HT.out.args
        go_wp2_with fail
        refine (V2.out _ ?_ ?_).mono ?_
        · exact HA.out.below HB1.out hB
        · omega
        rintro e w2 ⟨AL, nL, cL, rfl, hl2, hb2⟩
        have hs2 := hb2.size
        have HL := Lib.hid hl2
        have HB2 := Lib.hid (HB1.out.trans (hb2.mono (by omega)))
        have HR2 := Lib.hid (HR.out.below hb2 (by omega))
        have HT2 := Lib.hid (HT.out.below hb2 (by omega))
        have hw2 : w.heap.size + 1 < w2.heap.size := by omega
        have hnL := hl2.hi
        have hlen := hl2.len
        have HLEN := Lib.hid hlen
        clear y0 y1 y2 y3 r0 r1 r2 r3 q0 q1 q2 q3 hb2 hl2 hlen
        have y0 := HT2.out.kind
        have y1 := HT2.out.num
        have y2 := HT2.out.name
        have y3 := HT2.out.args
        have r0 := HR2.out.t.kind
        have r1 := HR2.out.t.num
        have r2 := HR2.out.t.name
        have r3 := HR2.out.t.args
        have q0 := HR2.out.s.s0
        have q1 := HR2.out.s.s1
        have q2 := HR2.out.s.s2
        have q3 := HR2.out.s.s3
        go_wp2_with fail
        go_loop [7] (fun u => ∃ k : Nat, k ≤ nL ∧ u = .int .i64 k ∧ Tm.overB d (L.take k) = false) (fun u => nL - (intOf u).toNat)
        case atStart => exact ⟨0, Nat.zero_le _, rfl, rfl⟩
        case round =>
          obtain ⟨k, hk, rfl, hno⟩ := hrel
          have HNO := Lib.hid hno
          clear hno
          by_cases hlt : k < nL
          · obtain ⟨b, o, rfl, hbw, hrow⟩ := HL.out.row (by omega)
            obtain ⟨z, hz⟩ : ∃ z, L[k]? = some z := ⟨_, List.getElem?_eq_getElem (by rw [HLEN.out]; exact hlt)⟩
            have y := hrow k z hz
            obtain ⟨hz0, hz1⟩ := HVB.out z (List.mem_of_getElem? hz)
            have htk : Tm.overB d (L.take (k + 1)) = decide (1099511627776 < z + d) := by
              rw [List.take_add_one, hz, Tm.overB_app, HNO.out]
              simp [Tm.overB]
            have HTK := Lib.hid htk
            have hin : z ∈ L := List.mem_of_getElem? hz
            have HIN := Lib.hid hin
            clear hrow hz htk hin
            by_cases hgt : 1099511627776 < z + d
            · have hb : decide (1099511627776 < z + d) = true := by simpa using hgt
              have hov : Tm.overB d L = true := by
                unfold Tm.overB
                rw [List.any_eq_true]
                exact ⟨z, HIN.out, hb⟩
              have HOV := Lib.hid hov
              clear hov
              go_wp2_with fail
              have hR : R = ((zp, .nil), 2) := by rw [HRES.out, if_pos HOV.out]
              rw [hR]
              have st := stored w2 (w.heap.size + 1) zp zp none none 0 0 0 0 HR2.out.t HR2.out.s
              show bodyPost _ _ _ _ _ (set4 w2 (w.heap.size + 1) 0 zp none 0 0)
              generalize set4 w2 (w.heap.size + 1) 0 zp none 0 0 = w9 at st ⊢
              refine bodyPost_ret (term_result_tmp (q := 4) (u := 5) rfl _ _ (w.heap.size + 1) zp none 0 0 (.int .i64 2) rfl rfl st.term) rfl ?_
              exact ⟨none, 0, rfl, ArgsIn.nil _ _ _, st.below _ _ HB2.out (by omega)⟩
            · have hb : decide (1099511627776 < z + d) = false := by simpa using hgt
              have hnx : Tm.overB d (L.take (k + 1)) = false := by rw [HTK.out]; exact hb
              have HNX := Lib.hid hnx
              clear hnx
              go_wp2_with fail
              exact ⟨⟨k + 1, by omega, by go_num, HNX.out⟩, by simp [intOf]; omega⟩
          · obtain rfl : k = nL := by omega
            have hov : Tm.overB d L = false := by have := HNO.out; rwa [List.take_of_length_le (by rw [HLEN.out]; exact Nat.le_refl _)] at this
            have HOV := Lib.hid hov
            clear hov
            go_wp2_with fail
            refine (V3.out _ ?_ ?_).mono ?_
            · exact HA.out.below HB2.out hB
            · omega
            rintro e w3 ⟨A3, c3, rfl, ha3, hb3⟩
            have hs3 := hb3.size
            have HA3 := Lib.hid ha3
            have HB3 := Lib.hid (HB2.out.trans (hb3.mono (by omega)))
            have HR3 := Lib.hid (HR2.out.below hb3 (by omega))
            have hw3 : w.heap.size + 1 < w3.heap.size := by omega
            clear y0 y1 y2 y3 r0 r1 r2 r3 q0 q1 q2 q3 hb3 ha3
            have r0 := HR3.out.t.kind
            have r1 := HR3.out.t.num
            have r2 := HR3.out.t.name
            have r3 := HR3.out.t.args
            have q0 := HR3.out.s.s0
            have q1 := HR3.out.s.s1
            have q2 := HR3.out.s.s2
            have q3 := HR3.out.s.s3
            go_wp2_with fail
            have hR : R = ((P2, L2), 0) := by rw [HRES.out, if_neg (by rw [HOV.out]; decide)]
            rw [hR]
            have st := stored w3 (w.heap.size + 1) P2 zp A3 none n2 c3 0 0 HR3.out.t HR3.out.s
            show bodyPost _ _ _ _ _ (set4 w3 (w.heap.size + 1) 0 P2 A3 n2 c3)
            generalize set4 w3 (w.heap.size + 1) 0 P2 A3 n2 c3 = w9 at st ⊢
            refine bodyPost_ret (term_result_tmp (q := 4) (u := 5) rfl _ _ (w.heap.size + 1) P2 A3 n2 c3 (.int .i64 0) rfl rfl st.term) rfl ?_
            refine ⟨A3, c3, by show _ = Ending.returned (.tuple #[tv P2 A3 (Tm.len L2) c3, .int .i64 0]); rw [← HN2.out], ?_, st.below _ _ HB3.out (by omega)⟩
            show ArgsIn _ _ A3 (Tm.len L2) L2
            rw [← HN2.out]
            exact st.fresh (N := w2.heap.size) HA3.out (by omega) (by omega)
      · have hdg : decide (1099511627776 < d) = true := by simp; omega
        rw [if_neg (fun h => hd1 h.2.2)]
        clear hv V2 V3
        go_enter Try.func20, Try.ntmps20
        go_wp2_with fail
        refine (V1.out _ ?_ ?_).mono ?_
        · exact HA.out.below (BX.out _ _) hB
        · simp; omega
        rintro e w1 ⟨rfl, hb1⟩
        have hsz := hb1.size
        simp at hsz
        have hta : TermAt w1 w.heap.size p A n c := ((TermAt.new w p A n c 24).below (B := w.heap.size + 1) ((Below.refl _ _).alloc (by simp) _) (by omega)).below hb1 (by simp; omega)
        have hr : ResAt w1 (w.heap.size + 1) := (ResAt.new (w.alloc _) 24 _ (by simp)).below hb1 (by simp)
        have hw1 : w.heap.size + 1 < w1.heap.size := by omega
        have r0 := hr.t.kind
        have r1 := hr.t.num
        have r2 := hr.t.name
        have r3 := hr.t.args
        have q0 := hr.s.s0
        have q1 := hr.s.s1
        have q2 := hr.s.s2
        have q3 := hr.s.s3
        have HB1 := Lib.hid ((BX.out _ _).trans (hb1.mono (by simp; omega)) : Below w.heap.size w w1)
        have HR := Lib.hid hr
        have HT := Lib.hid hta
        clear hb1 hr hta
        go_wp2_with fail
        have st := stored w1 (w.heap.size + 1) zp zp none none 0 0 0 0 HR.out.t HR.out.s
        show bodyPost _ _ _ _ _ (set4 w1 (w.heap.size + 1) 0 zp none 0 0)
        generalize set4 w1 (w.heap.size + 1) 0 zp none 0 0 = w9 at st ⊢
        refine bodyPost_ret (term_result_tmp (q := 4) (u := 5) rfl _ _ (w.heap.size + 1) zp none 0 0 (.int .i64 1) rfl rfl st.term) rfl ?_
        exact ⟨none, 0, rfl, ArgsIn.nil _ _ _, st.below _ _ HB1.out (by omega)⟩
    · have hdl : decide (d < 0) = true := by simp; omega
      rw [if_neg (fun h => hd0 h.2.1)]
      clear hv V2 V3
      go_enter Try.func20, Try.ntmps20
      go_wp2_with fail
      refine (V1.out _ ?_ ?_).mono ?_
      · exact HA.out.below (BX.out _ _) hB
      · simp; omega
      rintro e w1 ⟨rfl, hb1⟩
      have hsz := hb1.size
      simp at hsz
      have hta : TermAt w1 w.heap.size p A n c := ((TermAt.new w p A n c 24).below (B := w.heap.size + 1) ((Below.refl _ _).alloc (by simp) _) (by omega)).below hb1 (by simp; omega)
      have hr : ResAt w1 (w.heap.size + 1) := (ResAt.new (w.alloc _) 24 _ (by simp)).below hb1 (by simp)
      have hw1 : w.heap.size + 1 < w1.heap.size := by omega
      have r0 := hr.t.kind
      have r1 := hr.t.num
      have r2 := hr.t.name
      have r3 := hr.t.args
      have q0 := hr.s.s0
      have q1 := hr.s.s1
      have q2 := hr.s.s2
      have q3 := hr.s.s3
      have HB1 := Lib.hid ((BX.out _ _).trans (hb1.mono (by simp; omega)) : Below w.heap.size w w1)
      have HR := Lib.hid hr
      have HT := Lib.hid hta
      clear hb1 hr hta
      go_wp2_with fail
      have st := stored w1 (w.heap.size + 1) zp zp none none 0 0 0 0 HR.out.t HR.out.s
      show bodyPost _ _ _ _ _ (set4 w1 (w.heap.size + 1) 0 zp none 0 0)
      generalize set4 w1 (w.heap.size + 1) 0 zp none 0 0 = w9 at st ⊢
      refine bodyPost_ret (term_result_tmp (q := 4) (u := 5) rfl _ _ (w.heap.size + 1) zp none 0 0 (.int .i64 1) rfl rfl st.term) rfl ?_
      exact ⟨none, 0, rfl, ArgsIn.nil _ _ _, st.below _ _ HB1.out (by omega)⟩
  · rw [if_neg (fun h => hv h.1)]
    rw [show Tm.validB p l = false by simpa using hv] at V1
    clear hv V2 V3
    go_enter Try.func20, Try.ntmps20
    go_wp2_with fail
    refine (V1.out _ ?_ ?_).mono ?_
    · exact HA.out.below (BX.out _ _) hB
    · simp; omega
    rintro e w1 ⟨rfl, hb1⟩
    have hsz := hb1.size
    simp at hsz
    have hta : TermAt w1 w.heap.size p A n c := ((TermAt.new w p A n c 24).below (B := w.heap.size + 1) ((Below.refl _ _).alloc (by simp) _) (by omega)).below hb1 (by simp; omega)
    have hr : ResAt w1 (w.heap.size + 1) := (ResAt.new (w.alloc _) 24 _ (by simp)).below hb1 (by simp)
    have hw1 : w.heap.size + 1 < w1.heap.size := by omega
    have r0 := hr.t.kind
    have r1 := hr.t.num
    have r2 := hr.t.name
    have r3 := hr.t.args
    have q0 := hr.s.s0
    have q1 := hr.s.s1
    have q2 := hr.s.s2
    have q3 := hr.s.s3
    have HB1 := Lib.hid ((BX.out _ _).trans (hb1.mono (by simp; omega)) : Below w.heap.size w w1)
    have HR := Lib.hid hr
    have HT := Lib.hid hta
    clear hb1 hr hta
    go_wp2_with fail
    have st := stored w1 (w.heap.size + 1) zp zp none none 0 0 0 0 HR.out.t HR.out.s
    show bodyPost _ _ _ _ _ (set4 w1 (w.heap.size + 1) 0 zp none 0 0)
    generalize set4 w1 (w.heap.size + 1) 0 zp none 0 0 = w9 at st ⊢
    refine bodyPost_ret (term_result_tmp (q := 4) (u := 5) rfl _ _ (w.heap.size + 1) zp none 0 0 (.int .i64 1) rfl rfl st.term) rfl ?_
    exact ⟨none, 0, rfl, ArgsIn.nil _ _ _, st.below _ _ HB1.out (by omega)⟩
end Go.Proofs.Ytmljkhofahgelaa
