/-
  The reference's Replace.
-/
import Derived.Test.YtmljkhofahgelaaROcc
import Derived.Test.YtmljkhofahgelaaReplace
import Derived.Deep.RegionHeld3
import Derived.Deep.DrawnRows
import Derived.IntWalk
namespace Go.Proofs.Ytmljkhofahgelaa
set_option linter.unusedVariables false
set_option linter.unusedSimpArgs false
open Go.RowKit
attribute [local go_sem ↓] Go.wp_at_zero Go.wp_at_succ

set_option maxHeartbeats 8000000 in
theorem rreplace_any (p : Pay) (l : Fo) (A : Option Addr) (c B : Nat) (x : Int) (pb : Pay) (lb : Fo) (Ab : Option Addr) (cb : Nat) (w : World) (hA : ArgsB w B A (Tm.len l) l) (hAb : ArgsB w B Ab (Tm.len lb) lb) (hB : B ≤ w.heap.size) :
    Calls Try.prog 23 #[tv p A (Tm.len l) c, .int .i64 x, tv pb Ab (Tm.len lb) cb] w (Makes2 (Tm.replaceOf p l x pb lb) w) := by
  have V1 := Lib.hid fun (w1 : World) (h1 : ArgsB w1 B A (Tm.len l) l) (h2 : B ≤ w1.heap.size) => rvalid_any p l A c B w1 h1 h2
  have V2 := Lib.hid fun (w1 : World) (h1 : ArgsB w1 B Ab (Tm.len lb) lb) (h2 : B ≤ w1.heap.size) => rvalid_any pb lb Ab cb B w1 h1 h2
  have C1 := Lib.hid fun (w1 : World) (h1 : ArgsB w1 B A (Tm.len l) l) (h2 : B ≤ w1.heap.size) => rsize_any p l A c B w1 h1 h2
  have C3 := Lib.hid fun (w1 : World) (h1 : ArgsB w1 B Ab (Tm.len lb) lb) (h2 : B ≤ w1.heap.size) => rsize_any pb lb Ab cb B w1 h1 h2
  have C2 := Lib.hid fun (hv : Tm.validB p l = true) (w1 : World) (h1 : ArgsB w1 B A (Tm.len l) l) (h2 : B ≤ w1.heap.size) => rocc_any x p l A c B w1 hv h1 h2
  have C4 := Lib.hid fun (hv : Tm.validB p l = true) (hvb : Tm.validB pb lb = true) (w1 : World) (h1 : ArgsB w1 B A (Tm.len l) l) (h3 : ArgsB w1 B Ab (Tm.len lb) lb) (h2 : B ≤ w1.heap.size) => rput_any x pb lb Ab cb hvb p l A c B w1 hv h1 h3 h2
  unfold Tm.replaceOf
  obtain ⟨n, hn⟩ : ∃ n, n = Tm.len l := ⟨_, rfl⟩
  obtain ⟨nb, hnb⟩ : ∃ nb, nb = Tm.len lb := ⟨_, rfl⟩
  rw [← hn] at hA V1 C1 C2 C4 ⊢
  rw [← hnb] at hAb V2 C3 C4 ⊢
  clear hn hnb
  have kb : Below w.heap.size w (((w.alloc (.cells #[.int .i64 p.1, .int .i64 p.2.1, .string p.2.2, .slice A n c] 24)).alloc (.cells #[.int .i64 pb.1, .int .i64 pb.2.1, .string pb.2.2, .slice Ab nb cb] 24)).alloc (.cells #[.int .i64 0, .int .i64 0, .string ⟨#[]⟩, .slice none 0 0] 24)) := Only.below (X := fun _ => False) ((((Only.refl _ w).alloc _).alloc _).alloc _) (Nat.le_refl _) (fun _ h => h.elim)
  have kt : TermAt (((w.alloc (.cells #[.int .i64 p.1, .int .i64 p.2.1, .string p.2.2, .slice A n c] 24)).alloc (.cells #[.int .i64 pb.1, .int .i64 pb.2.1, .string pb.2.2, .slice Ab nb cb] 24)).alloc (.cells #[.int .i64 0, .int .i64 0, .string ⟨#[]⟩, .slice none 0 0] 24)) w.heap.size p A n c := (TermAt.new w p A n c 24).below (B := w.heap.size + 1) (((Below.refl _ _).alloc (by simp) _).alloc (by simp) _) (by omega)
  have ky : TermAt (((w.alloc (.cells #[.int .i64 p.1, .int .i64 p.2.1, .string p.2.2, .slice A n c] 24)).alloc (.cells #[.int .i64 pb.1, .int .i64 pb.2.1, .string pb.2.2, .slice Ab nb cb] 24)).alloc (.cells #[.int .i64 0, .int .i64 0, .string ⟨#[]⟩, .slice none 0 0] 24)) (w.heap.size + 1) pb Ab nb cb := by
    have := TermAt.new (w.alloc (.cells #[.int .i64 p.1, .int .i64 p.2.1, .string p.2.2, .slice A n c] 24)) pb Ab nb cb 24
    rw [World.size_alloc] at this
    exact this.same (Below.heap_alloc _ _ _ (by simp))
  have kr : ResAt (((w.alloc (.cells #[.int .i64 p.1, .int .i64 p.2.1, .string p.2.2, .slice A n c] 24)).alloc (.cells #[.int .i64 pb.1, .int .i64 pb.2.1, .string pb.2.2, .slice Ab nb cb] 24)).alloc (.cells #[.int .i64 0, .int .i64 0, .string ⟨#[]⟩, .slice none 0 0] 24)) (w.heap.size + 2) := ResAt.new ((w.alloc (.cells #[.int .i64 p.1, .int .i64 p.2.1, .string p.2.2, .slice A n c] 24)).alloc (.cells #[.int .i64 pb.1, .int .i64 pb.2.1, .string pb.2.2, .slice Ab nb cb] 24)) 24 _ (by simp)
  have ks : (((w.alloc (.cells #[.int .i64 p.1, .int .i64 p.2.1, .string p.2.2, .slice A n c] 24)).alloc (.cells #[.int .i64 pb.1, .int .i64 pb.2.1, .string pb.2.2, .slice Ab nb cb] 24)).alloc (.cells #[.int .i64 0, .int .i64 0, .string ⟨#[]⟩, .slice none 0 0] 24)).heap.size = w.heap.size + 3 := by simp
  have KT := Lib.hid kt
  have KY := Lib.hid ky
  have KR := Lib.hid kr
  have KB := Lib.hid kb
  have KS := Lib.hid ks
  have KA := Lib.hid (hA.below kb hB)
  have KAB := Lib.hid (hAb.below kb hB)
  clear hA hAb kt ky kr kb ks
  by_cases hv : Tm.validB p l = true
  · have C2 := Lib.hid (C2.out hv)
    have C4 := Lib.hid (C4.out hv)
    rw [hv] at V1
    by_cases hd0 : 0 ≤ x
    · have hdl : decide (x < 0) = false := by simp; omega
      by_cases hd1 : x ≤ 1099511627776
      · have hdg : decide (1099511627776 < x) = false := by simp; omega
        by_cases hvb : Tm.validB pb lb = true
        · rw [if_pos ⟨hv, ⟨hd0, hd1⟩, hvb⟩]
          have C4 := Lib.hid (C4.out hvb)
          have hsz := Tm.sizeT_put x pb lb p l (by unfold Tm.validB at hv; rw [Bool.and_eq_true] at hv; exact hv.2)
          have ha1 : 1 + Tm.size l ≤ 2000 := by unfold Tm.validB at hv; rw [Bool.and_eq_true, decide_eq_true_eq] at hv; exact hv.1
          have hb1 : 1 + Tm.size lb ≤ 2000 := by unfold Tm.validB at hvb; rw [Bool.and_eq_true, decide_eq_true_eq] at hvb; exact hvb.1
          have ho1 := Tm.cT_le x p l
          rw [hvb] at V2
          obtain ⟨t, ht⟩ : ∃ t, t = (Tm.rebT (Tm.putF x (pb, lb)) () p l).2 := ⟨_, rfl⟩
          rw [← ht] at C4 hsz ⊢
          obtain ⟨P2, L2⟩ := t
          obtain ⟨R, hR⟩ : ∃ R : (Pay × Fo) × Int, R = if 1 + Tm.size L2 ≤ 2000 then ((P2, L2), 0) else ((zp, .nil), 2) := ⟨_, rfl⟩
          simp only [] at hsz ⊢
          rw [← hR]
          have HRES := Lib.hid hR
          unfold Makes at C4
          simp only [] at C4
          obtain ⟨n2, hn2⟩ : ∃ n2, n2 = Tm.len L2 := ⟨_, rfl⟩
          rw [← hn2] at C4
          have HN2 := Lib.hid hn2
          obtain ⟨a1, hae⟩ : ∃ a1, a1 = Tm.sizeB l := ⟨_, rfl⟩
          obtain ⟨s1, hse⟩ : ∃ s1, s1 = Tm.size lb := ⟨_, rfl⟩
          obtain ⟨sb, hsb⟩ : ∃ sb, sb = Tm.sizeB lb := ⟨_, rfl⟩
          obtain ⟨oc, hoe⟩ : ∃ oc, oc = Tm.cT x p l := ⟨_, rfl⟩
          rw [← hae] at C1
          rw [← hsb] at C3
          rw [← hoe] at C2 hsz ho1
          rw [← hse] at hsz hb1
          have hsb1 : sb = s1 + 1 := by rw [hsb, hse]; unfold Tm.sizeB; omega
          have ha2 : a1 = 1 + Tm.size l := by rw [hae]; unfold Tm.sizeB; omega
          obtain ⟨pr, hpr⟩ : ∃ pr, pr = oc * s1 := ⟨_, rfl⟩
          rw [← hpr] at hsz
          have hprb : pr ≤ 4000000 := by rw [hpr]; exact Nat.le_trans (Nat.mul_le_mul (show oc ≤ 2000 by omega) (show s1 ≤ 2000 by omega)) (by decide)
          obtain ⟨tot, htot⟩ : ∃ tot, tot = a1 + pr := ⟨_, rfl⟩
          have hL2 : 1 + Tm.size L2 = tot := by omega
          have HL2 := Lib.hid hL2
          have htb : tot ≤ 5000000 := by omega
          have e1 : IntKind.i64.wrap ((sb : Int) - 1) = (s1 : Int) := by rw [show (sb : Int) - 1 = (s1 : Int) by omega]; exact IntWalk.i64_in _ (by omega)
          have e2 : IntKind.i64.wrap ((oc : Int) * (s1 : Int)) = (pr : Int) := by rw [show (oc : Int) * (s1 : Int) = (pr : Int) by rw [hpr]; exact (Int.natCast_mul oc s1).symm]; exact IntWalk.i64_in _ (by omega)
          have e3 : IntKind.i64.wrap ((a1 : Int) + (pr : Int)) = (tot : Int) := by rw [show (a1 : Int) + (pr : Int) = (tot : Int) by omega]; exact IntWalk.i64_in _ (by omega)
          have E1 := Lib.hid e1
          have E2 := Lib.hid e2
          have E3 := Lib.hid e3
          clear e1 e2 e3 hv hvb hsz ha1 hb1 ho1 ht hR hn2 hae hse hsb hoe hsb1 ha2 hpr htot hL2 hprb
          go_enter Try.func23, Try.ntmps23
          go_wp2_with fail
          generalize (((w.alloc (.cells #[.int .i64 p.1, .int .i64 p.2.1, .string p.2.2, .slice A n c] 24)).alloc (.cells #[.int .i64 pb.1, .int .i64 pb.2.1, .string pb.2.2, .slice Ab nb cb] 24)).alloc (.cells #[.int .i64 0, .int .i64 0, .string ⟨#[]⟩, .slice none 0 0] 24)) = W0 at KT KY KR KB KS KA KAB ⊢
          have hk := KS.out
          have hs0 : w.heap.size < W0.heap.size := by omega
          have hs1 : w.heap.size + 1 < W0.heap.size := by omega
          have hs2 : w.heap.size + 2 < W0.heap.size := by omega
          have hB0 : B ≤ W0.heap.size := by omega
          have x0 := KT.out.kind
          have x1 := KT.out.num
          have x2 := KT.out.name
          have x3 := KT.out.args
          have r0 := KR.out.t.kind
          have r1 := KR.out.t.num
          have r2 := KR.out.t.name
          have r3 := KR.out.t.args
          have q0 := KR.out.s.s0
          have q1 := KR.out.s.s1
          have q2 := KR.out.s.s2
          have q3 := KR.out.s.s3
          clear hk
          refine (V1.out _ KA.out hB0).mono ?_
          rintro e w1 ⟨rfl, hb⟩
          have hw1 := hb.size
          have HT0 := Lib.hid (KT.out.below hb hs0)
          have HY0 := Lib.hid (KY.out.below hb hs1)
          have HR0 := Lib.hid (KR.out.below hb hs2)
          have HB0 := Lib.hid (KB.out.trans (hb.mono (by omega)))
          have HA0 := Lib.hid (KA.out.below hb hB0)
          have HAB0 := Lib.hid (KAB.out.below hb hB0)
          have g0 : w.heap.size < w1.heap.size := by omega
          have g1 : w.heap.size + 1 < w1.heap.size := by omega
          have g2 : w.heap.size + 2 < w1.heap.size := by omega
          have gB : B ≤ w1.heap.size := by omega
          clear hb x0 x1 x2 x3 r0 r1 r2 r3 q0 q1 q2 q3
          have x0 := HY0.out.kind
          have x1 := HY0.out.num
          have x2 := HY0.out.name
          have x3 := HY0.out.args
          have r0 := HR0.out.t.kind
          have r1 := HR0.out.t.num
          have r2 := HR0.out.t.name
          have r3 := HR0.out.t.args
          have q0 := HR0.out.s.s0
          have q1 := HR0.out.s.s1
          have q2 := HR0.out.s.s2
          have q3 := HR0.out.s.s3
          go_wp2_with fail
          refine (V2.out _ HAB0.out gB).mono ?_
          rintro e W1 ⟨rfl, hb⟩
          have hw2 := hb.size
          have HT1 := Lib.hid (HT0.out.below hb g0)
          have HY1 := Lib.hid (HY0.out.below hb g1)
          have HR1 := Lib.hid (HR0.out.below hb g2)
          have HB1 := Lib.hid (HB0.out.trans (hb.mono (by omega)))
          have HA1 := Lib.hid (HA0.out.below hb gB)
          have HAB1 := Lib.hid (HAB0.out.below hb gB)
          have hs0' : w.heap.size < W1.heap.size := by omega
          have hs1' : w.heap.size + 1 < W1.heap.size := by omega
          have hs2' : w.heap.size + 2 < W1.heap.size := by omega
          have hB1 : B ≤ W1.heap.size := by omega
          clear hb x0 x1 x2 x3 r0 r1 r2 r3 q0 q1 q2 q3 hs0 hs1 hs2
          have hs0 := hs0'
          have hs1 := hs1'
          have hs2 := hs2'
          have y0 := HT1.out.kind
          have y1 := HT1.out.num
          have y2 := HT1.out.name
          have y3 := HT1.out.args
          have z0 := HY1.out.kind
          have z1 := HY1.out.num
          have z2 := HY1.out.name
          have z3 := HY1.out.args
          go_wp2_with fail
          have H0 := Lib.hid (Below.refl W1.heap.size W1)
          have e1 := E1.out
          have e2 := E2.out
          have e3 := E3.out
          go_region_held3 (fun w' => w'.cell? ⟨w.heap.size, 0, none⟩ = some (.int .i64 p.1) ∧ w'.cell? ⟨w.heap.size, 1, none⟩ = some (.int .i64 p.2.1) ∧ w'.cell? ⟨w.heap.size, 2, none⟩ = some (.string p.2.2) ∧ w'.cell? ⟨w.heap.size, 3, none⟩ = some (.slice A n c) ∧ w'.cell? ⟨w.heap.size + 1, 0, none⟩ = some (.int .i64 pb.1) ∧ w'.cell? ⟨w.heap.size + 1, 1, none⟩ = some (.int .i64 pb.2.1) ∧ w'.cell? ⟨w.heap.size + 1, 2, none⟩ = some (.string pb.2.2) ∧ w'.cell? ⟨w.heap.size + 1, 3, none⟩ = some (.slice Ab nb cb)) (go_keep)
      (first
      | (go_at_call 13
         refine (C1.out _ ?_ ?_).mono ?_
         · exact (HA1.out.below H0.out hB1).keep (fun _ _ => rfl)
         · exact Nat.le_trans hB1 H0.out.size
         rintro e w2 ⟨rfl, hb⟩
         have hc := hb.mono H0.out.size
         have hd1 : Below W1.heap.size W1 w2 := ⟨hc.os.trans H0.out.os, hc.tape.trans H0.out.tape, hc.output.trans H0.out.output, Nat.le_trans H0.out.size hc.size, fun k hk => (hc.block k hk).trans (H0.out.block k hk)⟩
         clear hc
         have y10 := (HT1.out.below hd1 hs0).kind; have y11 := (HT1.out.below hd1 hs0).num; have y12 := (HT1.out.below hd1 hs0).name; have y13 := (HT1.out.below hd1 hs0).args
         have z10 := (HY1.out.below hd1 hs1).kind; have z11 := (HY1.out.below hd1 hs1).num; have z12 := (HY1.out.below hd1 hs1).name; have z13 := (HY1.out.below hd1 hs1).args
         have H1 := Lib.hid hd1
         clear hb hd1)
      | (go_at_call 56
         refine (C2.out _ ?_ ?_).mono ?_
         · exact (HA1.out.below H1.out hB1).keep (fun _ _ => rfl)
         · exact Nat.le_trans hB1 H1.out.size
         rintro e w3 ⟨rfl, hb⟩
         have hc := hb.mono H1.out.size
         have hd2 : Below W1.heap.size W1 w3 := ⟨hc.os.trans H1.out.os, hc.tape.trans H1.out.tape, hc.output.trans H1.out.output, Nat.le_trans H1.out.size hc.size, fun k hk => (hc.block k hk).trans (H1.out.block k hk)⟩
         clear hc
         have y20 := (HT1.out.below hd2 hs0).kind; have y21 := (HT1.out.below hd2 hs0).num; have y22 := (HT1.out.below hd2 hs0).name; have y23 := (HT1.out.below hd2 hs0).args
         have z20 := (HY1.out.below hd2 hs1).kind; have z21 := (HY1.out.below hd2 hs1).num; have z22 := (HY1.out.below hd2 hs1).name; have z23 := (HY1.out.below hd2 hs1).args
         have H2 := Lib.hid hd2
         clear hb hd2)
      | (go_at_call 13
         refine (C3.out _ ?_ ?_).mono ?_
         · exact (HAB1.out.below H2.out hB1).keep (fun _ _ => rfl)
         · exact Nat.le_trans hB1 H2.out.size
         rintro e w4 ⟨rfl, hb⟩
         have hc := hb.mono H2.out.size
         have hd3 : Below W1.heap.size W1 w4 := ⟨hc.os.trans H2.out.os, hc.tape.trans H2.out.tape, hc.output.trans H2.out.output, Nat.le_trans H2.out.size hc.size, fun k hk => (hc.block k hk).trans (H2.out.block k hk)⟩
         clear hc
         have y30 := (HT1.out.below hd3 hs0).kind; have y31 := (HT1.out.below hd3 hs0).num; have y32 := (HT1.out.below hd3 hs0).name; have y33 := (HT1.out.below hd3 hs0).args
         have z30 := (HY1.out.below hd3 hs1).kind; have z31 := (HY1.out.below hd3 hs1).num; have z32 := (HY1.out.below hd3 hs1).name; have z33 := (HY1.out.below hd3 hs1).args
         have H3 := Lib.hid hd3
         clear hb hd3))
          all_goals clear e1 e2 e3
          all_goals
            have HR4 := Lib.hid (HR1.out.below H3.out hs2)
            have HB4 := Lib.hid (HB1.out.trans (H3.out.mono (by omega)))
            have hw4 := H3.out.size
            have hw5 : w.heap.size + 2 < w4.heap.size := by omega
            have r0 := HR4.out.t.kind
            have r1 := HR4.out.t.num
            have r2 := HR4.out.t.name
            have r3 := HR4.out.t.args
            have q0 := HR4.out.s.s0
            have q1 := HR4.out.s.s1
            have q2 := HR4.out.s.s2
            have q3 := HR4.out.s.s3
            by_cases hle : tot ≤ 2000
            · have htst : decide ((2000 : Int) < (tot : Int)) = false := by simp; omega
              have hR : R = ((P2, L2), 0) := by rw [HRES.out, if_pos (by rw [HL2.out]; exact hle)]
              have HRR := Lib.hid hR
              clear hR
              go_wp2_with fail
              refine (C4.out _ (HA1.out.below H3.out hB1) (HAB1.out.below H3.out hB1) (by omega)).mono ?_
              rintro e w5 ⟨A5, c5, rfl, ha5, hb5⟩
              have hs5 := hb5.size
              have HR5 := Lib.hid (HR4.out.below hb5 hw5)
              have HA5 := Lib.hid ha5
              have HB5 := Lib.hid (HB4.out.trans (hb5.mono (by omega)))
              clear ha5 hb5 r0 r1 r2 r3 q0 q1 q2 q3
              have r0 := HR5.out.t.kind
              have r1 := HR5.out.t.num
              have r2 := HR5.out.t.name
              have r3 := HR5.out.t.args
              have q0 := HR5.out.s.s0
              have q1 := HR5.out.s.s1
              have q2 := HR5.out.s.s2
              have q3 := HR5.out.s.s3
              go_wp2_with fail
              have st := stored w5 (w.heap.size + 2) P2 zp A5 none n2 c5 0 0 HR5.out.t HR5.out.s
              rw [HRR.out]
              show bodyPost _ _ _ _ _ (set4 w5 (w.heap.size + 2) 0 P2 A5 n2 c5)
              generalize set4 w5 (w.heap.size + 2) 0 P2 A5 n2 c5 = w9 at st ⊢
              refine bodyPost_ret (term_result_tmp (q := 6) (u := 7) rfl _ _ (w.heap.size + 2) P2 A5 n2 c5 (.int .i64 0) rfl rfl st.term) rfl ?_
              refine ⟨A5, c5, by show _ = Ending.returned (.tuple #[tv P2 A5 (Tm.len L2) c5, .int .i64 0]); rw [← HN2.out], ?_, st.below _ _ HB5.out (by omega)⟩
              show ArgsIn _ _ A5 (Tm.len L2) L2
              rw [← HN2.out]
              exact st.fresh (N := w4.heap.size) HA5.out (by omega) (by omega)
            · have htst : decide ((2000 : Int) < (tot : Int)) = true := by simp; omega
              have hR : R = ((zp, .nil), 2) := by rw [HRES.out, if_neg (by rw [HL2.out]; exact hle)]
              have HRR := Lib.hid hR
              clear hR
              go_wp2_with fail
              rw [HRR.out]
              have st := stored w4 (w.heap.size + 2) zp zp none none 0 0 0 0 HR4.out.t HR4.out.s
              show bodyPost _ _ _ _ _ (set4 w4 (w.heap.size + 2) 0 zp none 0 0)
              generalize set4 w4 (w.heap.size + 2) 0 zp none 0 0 = w9 at st ⊢
              refine bodyPost_ret (term_result_tmp (q := 6) (u := 7) rfl _ _ (w.heap.size + 2) zp none 0 0 (.int .i64 2) rfl rfl st.term) rfl ?_
              exact ⟨none, 0, rfl, ArgsIn.nil _ _ _, st.below _ _ HB4.out (by omega)⟩
        · rw [if_neg (fun h => hvb h.2.2)]
          rw [show Tm.validB pb lb = false by simpa using hvb] at V2
          clear hv hvb C1 C2 C3 C4
          go_enter Try.func23, Try.ntmps23
          go_wp2_with fail
          generalize (((w.alloc (.cells #[.int .i64 p.1, .int .i64 p.2.1, .string p.2.2, .slice A n c] 24)).alloc (.cells #[.int .i64 pb.1, .int .i64 pb.2.1, .string pb.2.2, .slice Ab nb cb] 24)).alloc (.cells #[.int .i64 0, .int .i64 0, .string ⟨#[]⟩, .slice none 0 0] 24)) = W0 at KT KY KR KB KS KA KAB ⊢
          have hk := KS.out
          have hs0 : w.heap.size < W0.heap.size := by omega
          have hs1 : w.heap.size + 1 < W0.heap.size := by omega
          have hs2 : w.heap.size + 2 < W0.heap.size := by omega
          have hB0 : B ≤ W0.heap.size := by omega
          have x0 := KT.out.kind
          have x1 := KT.out.num
          have x2 := KT.out.name
          have x3 := KT.out.args
          have r0 := KR.out.t.kind
          have r1 := KR.out.t.num
          have r2 := KR.out.t.name
          have r3 := KR.out.t.args
          have q0 := KR.out.s.s0
          have q1 := KR.out.s.s1
          have q2 := KR.out.s.s2
          have q3 := KR.out.s.s3
          clear hk
          refine (V1.out _ KA.out hB0).mono ?_
          rintro e w1 ⟨rfl, hb⟩
          have hw1 := hb.size
          have HT0 := Lib.hid (KT.out.below hb hs0)
          have HY0 := Lib.hid (KY.out.below hb hs1)
          have HR0 := Lib.hid (KR.out.below hb hs2)
          have HB0 := Lib.hid (KB.out.trans (hb.mono (by omega)))
          have HA0 := Lib.hid (KA.out.below hb hB0)
          have HAB0 := Lib.hid (KAB.out.below hb hB0)
          have g0 : w.heap.size < w1.heap.size := by omega
          have g1 : w.heap.size + 1 < w1.heap.size := by omega
          have g2 : w.heap.size + 2 < w1.heap.size := by omega
          have gB : B ≤ w1.heap.size := by omega
          clear hb x0 x1 x2 x3 r0 r1 r2 r3 q0 q1 q2 q3
          have x0 := HY0.out.kind
          have x1 := HY0.out.num
          have x2 := HY0.out.name
          have x3 := HY0.out.args
          have r0 := HR0.out.t.kind
          have r1 := HR0.out.t.num
          have r2 := HR0.out.t.name
          have r3 := HR0.out.t.args
          have q0 := HR0.out.s.s0
          have q1 := HR0.out.s.s1
          have q2 := HR0.out.s.s2
          have q3 := HR0.out.s.s3
          go_wp2_with fail
          refine (V2.out _ HAB0.out gB).mono ?_
          rintro e W1 ⟨rfl, hb⟩
          have hw2 := hb.size
          have HT1 := Lib.hid (HT0.out.below hb g0)
          have HY1 := Lib.hid (HY0.out.below hb g1)
          have HR1 := Lib.hid (HR0.out.below hb g2)
          have HB1 := Lib.hid (HB0.out.trans (hb.mono (by omega)))
          have HA1 := Lib.hid (HA0.out.below hb gB)
          have HAB1 := Lib.hid (HAB0.out.below hb gB)
          have hs0' : w.heap.size < W1.heap.size := by omega
          have hs1' : w.heap.size + 1 < W1.heap.size := by omega
          have hs2' : w.heap.size + 2 < W1.heap.size := by omega
          have hB1 : B ≤ W1.heap.size := by omega
          clear hb x0 x1 x2 x3 r0 r1 r2 r3 q0 q1 q2 q3 hs0 hs1 hs2
          have hs0 := hs0'
          have hs1 := hs1'
          have hs2 := hs2'
          have r0 := HR1.out.t.kind
          have r1 := HR1.out.t.num
          have r2 := HR1.out.t.name
          have r3 := HR1.out.t.args
          have q0 := HR1.out.s.s0
          have q1 := HR1.out.s.s1
          have q2 := HR1.out.s.s2
          have q3 := HR1.out.s.s3
          go_wp2_with fail
          have st := stored W1 (w.heap.size + 2) zp zp none none 0 0 0 0 HR1.out.t HR1.out.s
          show bodyPost _ _ _ _ _ (set4 W1 (w.heap.size + 2) 0 zp none 0 0)
          generalize set4 W1 (w.heap.size + 2) 0 zp none 0 0 = w9 at st ⊢
          refine bodyPost_ret (term_result_tmp (q := 6) (u := 7) rfl _ _ (w.heap.size + 2) zp none 0 0 (.int .i64 1) rfl rfl st.term) rfl ?_
          exact ⟨none, 0, rfl, ArgsIn.nil _ _ _, st.below _ _ HB1.out (by omega)⟩
      · have hdg : decide (1099511627776 < x) = true := by simp; omega
        rw [if_neg (fun h => hd1 h.2.1.2)]
        clear hv C1 C2 C3 C4 V2
        go_enter Try.func23, Try.ntmps23
        go_wp2_with fail
        generalize (((w.alloc (.cells #[.int .i64 p.1, .int .i64 p.2.1, .string p.2.2, .slice A n c] 24)).alloc (.cells #[.int .i64 pb.1, .int .i64 pb.2.1, .string pb.2.2, .slice Ab nb cb] 24)).alloc (.cells #[.int .i64 0, .int .i64 0, .string ⟨#[]⟩, .slice none 0 0] 24)) = W0 at KT KY KR KB KS KA KAB ⊢
        have hk := KS.out
        have hs0 : w.heap.size < W0.heap.size := by omega
        have hs1 : w.heap.size + 1 < W0.heap.size := by omega
        have hs2 : w.heap.size + 2 < W0.heap.size := by omega
        have hB0 : B ≤ W0.heap.size := by omega
        have x0 := KT.out.kind
        have x1 := KT.out.num
        have x2 := KT.out.name
        have x3 := KT.out.args
        have r0 := KR.out.t.kind
        have r1 := KR.out.t.num
        have r2 := KR.out.t.name
        have r3 := KR.out.t.args
        have q0 := KR.out.s.s0
        have q1 := KR.out.s.s1
        have q2 := KR.out.s.s2
        have q3 := KR.out.s.s3
        clear hk
        refine (V1.out _ KA.out hB0).mono ?_
        rintro e w1 ⟨rfl, hb⟩
        have hw1 := hb.size
        have HT0 := Lib.hid (KT.out.below hb hs0)
        have HY0 := Lib.hid (KY.out.below hb hs1)
        have HR0 := Lib.hid (KR.out.below hb hs2)
        have HB0 := Lib.hid (KB.out.trans (hb.mono (by omega)))
        have HA0 := Lib.hid (KA.out.below hb hB0)
        have HAB0 := Lib.hid (KAB.out.below hb hB0)
        have g0 : w.heap.size < w1.heap.size := by omega
        have g1 : w.heap.size + 1 < w1.heap.size := by omega
        have g2 : w.heap.size + 2 < w1.heap.size := by omega
        have gB : B ≤ w1.heap.size := by omega
        clear hb x0 x1 x2 x3 r0 r1 r2 r3 q0 q1 q2 q3
        have r0 := HR0.out.t.kind
        have r1 := HR0.out.t.num
        have r2 := HR0.out.t.name
        have r3 := HR0.out.t.args
        have q0 := HR0.out.s.s0
        have q1 := HR0.out.s.s1
        have q2 := HR0.out.s.s2
        have q3 := HR0.out.s.s3
        go_wp2_with fail
        have st := stored w1 (w.heap.size + 2) zp zp none none 0 0 0 0 HR0.out.t HR0.out.s
        show bodyPost _ _ _ _ _ (set4 w1 (w.heap.size + 2) 0 zp none 0 0)
        generalize set4 w1 (w.heap.size + 2) 0 zp none 0 0 = w9 at st ⊢
        refine bodyPost_ret (term_result_tmp (q := 6) (u := 7) rfl _ _ (w.heap.size + 2) zp none 0 0 (.int .i64 1) rfl rfl st.term) rfl ?_
        exact ⟨none, 0, rfl, ArgsIn.nil _ _ _, st.below _ _ HB0.out (by omega)⟩
    · have hdl : decide (x < 0) = true := by simp; omega
      rw [if_neg (fun h => hd0 h.2.1.1)]
      clear hv C1 C2 C3 C4 V2
      go_enter Try.func23, Try.ntmps23
      go_wp2_with fail
      generalize (((w.alloc (.cells #[.int .i64 p.1, .int .i64 p.2.1, .string p.2.2, .slice A n c] 24)).alloc (.cells #[.int .i64 pb.1, .int .i64 pb.2.1, .string pb.2.2, .slice Ab nb cb] 24)).alloc (.cells #[.int .i64 0, .int .i64 0, .string ⟨#[]⟩, .slice none 0 0] 24)) = W0 at KT KY KR KB KS KA KAB ⊢
      have hk := KS.out
      have hs0 : w.heap.size < W0.heap.size := by omega
      have hs1 : w.heap.size + 1 < W0.heap.size := by omega
      have hs2 : w.heap.size + 2 < W0.heap.size := by omega
      have hB0 : B ≤ W0.heap.size := by omega
      have x0 := KT.out.kind
      have x1 := KT.out.num
      have x2 := KT.out.name
      have x3 := KT.out.args
      have r0 := KR.out.t.kind
      have r1 := KR.out.t.num
      have r2 := KR.out.t.name
      have r3 := KR.out.t.args
      have q0 := KR.out.s.s0
      have q1 := KR.out.s.s1
      have q2 := KR.out.s.s2
      have q3 := KR.out.s.s3
      clear hk
      refine (V1.out _ KA.out hB0).mono ?_
      rintro e w1 ⟨rfl, hb⟩
      have hw1 := hb.size
      have HT0 := Lib.hid (KT.out.below hb hs0)
      have HY0 := Lib.hid (KY.out.below hb hs1)
      have HR0 := Lib.hid (KR.out.below hb hs2)
      have HB0 := Lib.hid (KB.out.trans (hb.mono (by omega)))
      have HA0 := Lib.hid (KA.out.below hb hB0)
      have HAB0 := Lib.hid (KAB.out.below hb hB0)
      have g0 : w.heap.size < w1.heap.size := by omega
      have g1 : w.heap.size + 1 < w1.heap.size := by omega
      have g2 : w.heap.size + 2 < w1.heap.size := by omega
      have gB : B ≤ w1.heap.size := by omega
      clear hb x0 x1 x2 x3 r0 r1 r2 r3 q0 q1 q2 q3
      have r0 := HR0.out.t.kind
      have r1 := HR0.out.t.num
      have r2 := HR0.out.t.name
      have r3 := HR0.out.t.args
      have q0 := HR0.out.s.s0
      have q1 := HR0.out.s.s1
      have q2 := HR0.out.s.s2
      have q3 := HR0.out.s.s3
      go_wp2_with fail
      have st := stored w1 (w.heap.size + 2) zp zp none none 0 0 0 0 HR0.out.t HR0.out.s
      show bodyPost _ _ _ _ _ (set4 w1 (w.heap.size + 2) 0 zp none 0 0)
      generalize set4 w1 (w.heap.size + 2) 0 zp none 0 0 = w9 at st ⊢
      refine bodyPost_ret (term_result_tmp (q := 6) (u := 7) rfl _ _ (w.heap.size + 2) zp none 0 0 (.int .i64 1) rfl rfl st.term) rfl ?_
      exact ⟨none, 0, rfl, ArgsIn.nil _ _ _, st.below _ _ HB0.out (by omega)⟩
  · rw [if_neg (fun h => hv h.1)]
    rw [show Tm.validB p l = false by simpa using hv] at V1
    clear hv C1 C2 C3 C4 V2
    go_enter Try.func23, Try.ntmps23
    go_wp2_with fail
    generalize (((w.alloc (.cells #[.int .i64 p.1, .int .i64 p.2.1, .string p.2.2, .slice A n c] 24)).alloc (.cells #[.int .i64 pb.1, .int .i64 pb.2.1, .string pb.2.2, .slice Ab nb cb] 24)).alloc (.cells #[.int .i64 0, .int .i64 0, .string ⟨#[]⟩, .slice none 0 0] 24)) = W0 at KT KY KR KB KS KA KAB ⊢
    have hk := KS.out
    have hs0 : w.heap.size < W0.heap.size := by omega
    have hs1 : w.heap.size + 1 < W0.heap.size := by omega
    have hs2 : w.heap.size + 2 < W0.heap.size := by omega
    have hB0 : B ≤ W0.heap.size := by omega
    have x0 := KT.out.kind
    have x1 := KT.out.num
    have x2 := KT.out.name
    have x3 := KT.out.args
    have r0 := KR.out.t.kind
    have r1 := KR.out.t.num
    have r2 := KR.out.t.name
    have r3 := KR.out.t.args
    have q0 := KR.out.s.s0
    have q1 := KR.out.s.s1
    have q2 := KR.out.s.s2
    have q3 := KR.out.s.s3
    clear hk
    refine (V1.out _ KA.out hB0).mono ?_
    rintro e w1 ⟨rfl, hb⟩
    have hw1 := hb.size
    have HT0 := Lib.hid (KT.out.below hb hs0)
    have HY0 := Lib.hid (KY.out.below hb hs1)
    have HR0 := Lib.hid (KR.out.below hb hs2)
    have HB0 := Lib.hid (KB.out.trans (hb.mono (by omega)))
    have HA0 := Lib.hid (KA.out.below hb hB0)
    have HAB0 := Lib.hid (KAB.out.below hb hB0)
    have g0 : w.heap.size < w1.heap.size := by omega
    have g1 : w.heap.size + 1 < w1.heap.size := by omega
    have g2 : w.heap.size + 2 < w1.heap.size := by omega
    have gB : B ≤ w1.heap.size := by omega
    clear hb x0 x1 x2 x3 r0 r1 r2 r3 q0 q1 q2 q3
    have r0 := HR0.out.t.kind
    have r1 := HR0.out.t.num
    have r2 := HR0.out.t.name
    have r3 := HR0.out.t.args
    have q0 := HR0.out.s.s0
    have q1 := HR0.out.s.s1
    have q2 := HR0.out.s.s2
    have q3 := HR0.out.s.s3
    go_wp2_with fail
    have st := stored w1 (w.heap.size + 2) zp zp none none 0 0 0 0 HR0.out.t HR0.out.s
    show bodyPost _ _ _ _ _ (set4 w1 (w.heap.size + 2) 0 zp none 0 0)
    generalize set4 w1 (w.heap.size + 2) 0 zp none 0 0 = w9 at st ⊢
    refine bodyPost_ret (term_result_tmp (q := 6) (u := 7) rfl _ _ (w.heap.size + 2) zp none 0 0 (.int .i64 1) rfl rfl st.term) rfl ?_
    exact ⟨none, 0, rfl, ArgsIn.nil _ _ _, st.below _ _ HB0.out (by omega)⟩
end Go.Proofs.Ytmljkhofahgelaa
