/-
  Variant of valid terms.
-/
import Derived.Test.YtmljkhofahgelaaVariantM
import Derived.Deep.RegionHeld3
import Derived.Deep.DrawnRows
namespace Go.Proofs.Ytmljkhofahgelaa
set_option linter.unusedVariables false
set_option linter.unusedSimpArgs false
open Go.RowKit
attribute [local go_sem ↓] Go.wp_at_zero Go.wp_at_succ

set_option maxHeartbeats 2000000 in
theorem variant_tt (p : Pay) (l : Fo) (A : Option Addr) (c : Nat) (p' : Pay) (l' : Fo) (A' : Option Addr) (c' B : Nat) (w : World) (hA : ArgsB w B A (Tm.len l) l) (hA' : ArgsB w B A' (Tm.len l') l') (hB : B ≤ w.heap.size) (hv : Tm.validB p l = true) (hv' : Tm.validB p' l' = true) :
    Calls Try.prog 17 #[tv p A (Tm.len l) c, tv p' A' (Tm.len l') c'] w fun e w' => e = .returned (.bool (Tm.variantB p l p' l')) ∧ Below w.heap.size w w' := by
  have V1 := Lib.hid fun (w1 : World) (h1 : ArgsB w1 B A (Tm.len l) l) (h2 : B ≤ w1.heap.size) => valid_any p l A c B w1 h1 h2
  have V2 := Lib.hid fun (w1 : World) (h1 : ArgsB w1 B A' (Tm.len l') l') (h2 : B ≤ w1.heap.size) => valid_any p' l' A' c' B w1 h1 h2
  have C1 := Lib.hid fun (hv : Tm.validB p l = true) (w1 : World) (h1 : ArgsB w1 B A (Tm.len l) l) (h2 : B ≤ w1.heap.size) => canonical_any p l A c B w1 h1 (Tm.good_of_valid hv) h2
  have C2 := Lib.hid fun (hv : Tm.validB p' l' = true) (w1 : World) (h1 : ArgsB w1 B A' (Tm.len l') l') (h2 : B ≤ w1.heap.size) => canonical_any p' l' A' c' B w1 h1 (Tm.good_of_valid hv) h2
  unfold Tm.variantB
  obtain ⟨n, hn⟩ : ∃ n, n = Tm.len l := ⟨_, rfl⟩
  obtain ⟨n', hn'⟩ : ∃ n', n' = Tm.len l' := ⟨_, rfl⟩
  rw [← hn] at hA C1 V1 ⊢
  rw [← hn'] at hA' C2 V2 ⊢
  clear hn hn'
  have b0 := two_boxes w (.cells #[.int .i64 p.1, .int .i64 p.2.1, .string p.2.2, .slice A n c] 24) (.cells #[.int .i64 p'.1, .int .i64 p'.2.1, .string p'.2.2, .slice A' n' c'] 24)
  have hta : TermAt ((w.alloc (.cells #[.int .i64 p.1, .int .i64 p.2.1, .string p.2.2, .slice A n c] 24)).alloc (.cells #[.int .i64 p'.1, .int .i64 p'.2.1, .string p'.2.2, .slice A' n' c'] 24)) w.heap.size p A n c := (TermAt.new w p A n c 24).below (B := w.heap.size + 1) ((Below.refl _ _).alloc (by simp) _) (by omega)
  have hta' : TermAt ((w.alloc (.cells #[.int .i64 p.1, .int .i64 p.2.1, .string p.2.2, .slice A n c] 24)).alloc (.cells #[.int .i64 p'.1, .int .i64 p'.2.1, .string p'.2.2, .slice A' n' c'] 24)) (w.heap.size + 1) p' A' n' c' := by
    have := TermAt.new (w.alloc (.cells #[.int .i64 p.1, .int .i64 p.2.1, .string p.2.2, .slice A n c] 24)) p' A' n' c' 24
    rw [World.size_alloc] at this
    exact this
  have hsz : ((w.alloc (.cells #[.int .i64 p.1, .int .i64 p.2.1, .string p.2.2, .slice A n c] 24)).alloc (.cells #[.int .i64 p'.1, .int .i64 p'.2.1, .string p'.2.2, .slice A' n' c'] 24)).heap.size = w.heap.size + 2 := by simp
  have KT := Lib.hid hta
  have KT' := Lib.hid hta'
  have KB := Lib.hid b0
  have KS := Lib.hid hsz
  have KA := Lib.hid (hA.below b0 hB)
  have KA' := Lib.hid (hA'.below b0 hB)
  clear hA hA' hta hta' b0 hsz
  rw [hv] at V1 ⊢
  rw [hv'] at V2 ⊢
  have C1 := Lib.hid (C1.out hv)
  have C2 := Lib.hid (C2.out hv')
  
  unfold Makes at C1 C2
  obtain ⟨q, hq⟩ : ∃ q, q = Tm.canonOf p l := ⟨_, rfl⟩
  obtain ⟨q', hq'⟩ : ∃ q, q = Tm.canonOf p' l' := ⟨_, rfl⟩
  rw [← hq] at C1 ⊢
  rw [← hq'] at C2 ⊢
  clear hq hq' hv hv'
  obtain ⟨P2, L2⟩ := q
  obtain ⟨P2', L2'⟩ := q'
  have I1 := Lib.hid fun (w1 : World) (Aa : Option Addr) (ca : Nat) (Ab : Option Addr) (cb : Nat) (h1 : ArgsB w1 w1.heap.size Aa (Tm.len L2) L2) (h2 : ArgsB w1 w1.heap.size Ab (Tm.len L2') L2') => identical_up (Tm.size L2 + 1) P2 L2 Aa ca P2' L2' Ab cb w1.heap.size w1 (by omega) h1 h2 (Nat.le_refl _)
  simp only [] at C1 C2 ⊢
  obtain ⟨n2, hn2⟩ : ∃ n2, n2 = Tm.len L2 := ⟨_, rfl⟩
  obtain ⟨n2', hn2'⟩ : ∃ n2', n2' = Tm.len L2' := ⟨_, rfl⟩
  rw [← hn2] at C1 I1
  rw [← hn2'] at C2 I1
  clear hn2 hn2'
  go_enter Try.func17, Try.ntmps17
  go_wp2_with fail
  generalize ((w.alloc (.cells #[.int .i64 p.1, .int .i64 p.2.1, .string p.2.2, .slice A n c] 24)).alloc (.cells #[.int .i64 p'.1, .int .i64 p'.2.1, .string p'.2.2, .slice A' n' c'] 24)) = W0 at KT KT' KB KS KA KA' ⊢
  have HT := Lib.hid KT.out
  have HT' := Lib.hid KT'.out
  have hs0 : w.heap.size < W0.heap.size := by rw [KS.out]; omega
  have hs1 : w.heap.size + 1 < W0.heap.size := by rw [KS.out]; omega
  have hB0 : B ≤ W0.heap.size := by rw [KS.out]; omega
  have H0 := Lib.hid (Below.refl W0.heap.size W0)
  have y0 := HT.out.kind
  have y1 := HT.out.num
  have y2 := HT.out.name
  have y3 := HT.out.args
  have z0 := HT'.out.kind
  have z1 := HT'.out.num
  have z2 := HT'.out.name
  have z3 := HT'.out.args
  go_region_held3 (fun w' => w'.cell? ⟨w.heap.size, 0, none⟩ = some (.int .i64 p.1) ∧ w'.cell? ⟨w.heap.size, 1, none⟩ = some (.int .i64 p.2.1) ∧ w'.cell? ⟨w.heap.size, 2, none⟩ = some (.string p.2.2) ∧ w'.cell? ⟨w.heap.size, 3, none⟩ = some (.slice A n c) ∧ w'.cell? ⟨w.heap.size + 1, 0, none⟩ = some (.int .i64 p'.1) ∧ w'.cell? ⟨w.heap.size + 1, 1, none⟩ = some (.int .i64 p'.2.1) ∧ w'.cell? ⟨w.heap.size + 1, 2, none⟩ = some (.string p'.2.2) ∧ w'.cell? ⟨w.heap.size + 1, 3, none⟩ = some (.slice A' n' c')) (go_keep)
      (first
      | (go_at_call 10
         refine (V1.out _ ?_ ?_).mono ?_
         · exact (KA.out.below H0.out hB0).keep (fun _ _ => rfl)
         · exact Nat.le_trans hB0 H0.out.size
         rintro e w1 ⟨rfl, hb⟩
         have hc := hb.mono H0.out.size
         have hd1 : Below W0.heap.size W0 w1 := ⟨hc.os.trans H0.out.os, hc.tape.trans H0.out.tape, hc.output.trans H0.out.output, Nat.le_trans H0.out.size hc.size, fun k hk => (hc.block k hk).trans (H0.out.block k hk)⟩
         clear hc
         have y10 := (HT.out.below hd1 hs0).kind; have y11 := (HT.out.below hd1 hs0).num; have y12 := (HT.out.below hd1 hs0).name; have y13 := (HT.out.below hd1 hs0).args
         have z10 := (HT'.out.below hd1 hs1).kind; have z11 := (HT'.out.below hd1 hs1).num; have z12 := (HT'.out.below hd1 hs1).name; have z13 := (HT'.out.below hd1 hs1).args
         have H1 := Lib.hid hd1
         clear hb hd1)
      | (go_at_call 10
         refine (V2.out _ ?_ ?_).mono ?_
         · exact (KA'.out.below H1.out hB0).keep (fun _ _ => rfl)
         · exact Nat.le_trans hB0 H1.out.size
         rintro e w2 ⟨rfl, hb⟩
         have hc := hb.mono H1.out.size
         have hd2 : Below W0.heap.size W0 w2 := ⟨hc.os.trans H1.out.os, hc.tape.trans H1.out.tape, hc.output.trans H1.out.output, Nat.le_trans H1.out.size hc.size, fun k hk => (hc.block k hk).trans (H1.out.block k hk)⟩
         clear hc
         have y20 := (HT.out.below hd2 hs0).kind; have y21 := (HT.out.below hd2 hs0).num; have y22 := (HT.out.below hd2 hs0).name; have y23 := (HT.out.below hd2 hs0).args
         have z20 := (HT'.out.below hd2 hs1).kind; have z21 := (HT'.out.below hd2 hs1).num; have z22 := (HT'.out.below hd2 hs1).name; have z23 := (HT'.out.below hd2 hs1).args
         have H2 := Lib.hid hd2
         clear hb hd2)
      | (have pr := @Ha3
         clear pr
         go_at_call 47
         refine (C2.out _ ?_ ?_).mono ?_
         · exact (KA'.out.below H3.out hB0).keep (fun _ _ => rfl)
         · exact Nat.le_trans hB0 H3.out.size
         rintro e w4 ⟨Ab, cb, rfl, ha, hb⟩
         have Hb4 := Lib.hid (ha.mono (S' := fun b => b < w4.heap.size) fun b hb => hb.2)
         have Ha4 := Lib.hid ((Ha3.out.keep (w' := w4) fun b hlt => hb.block b hlt).mono (S' := fun b => b < w4.heap.size) fun b hlt => Nat.lt_of_lt_of_le hlt hb.size)
         clear ha
         have hc := hb.mono H3.out.size
         have hd4 : Below W0.heap.size W0 w4 := ⟨hc.os.trans H3.out.os, hc.tape.trans H3.out.tape, hc.output.trans H3.out.output, Nat.le_trans H3.out.size hc.size, fun k hk => (hc.block k hk).trans (H3.out.block k hk)⟩
         clear hc
         have y40 := (HT.out.below hd4 hs0).kind; have y41 := (HT.out.below hd4 hs0).num; have y42 := (HT.out.below hd4 hs0).name; have y43 := (HT.out.below hd4 hs0).args
         have z40 := (HT'.out.below hd4 hs1).kind; have z41 := (HT'.out.below hd4 hs1).num; have z42 := (HT'.out.below hd4 hs1).name; have z43 := (HT'.out.below hd4 hs1).args
         have H4 := Lib.hid hd4
         clear hb hd4)
      | (go_at_call 47
         refine (C1.out _ ?_ ?_).mono ?_
         · exact (KA.out.below H2.out hB0).keep (fun _ _ => rfl)
         · exact Nat.le_trans hB0 H2.out.size
         rintro e w3 ⟨Aa, ca, rfl, ha, hb⟩
         have Ha3 := Lib.hid (ha.mono (S' := fun b => b < w3.heap.size) fun b hb => hb.2)
         clear ha
         have hc := hb.mono H2.out.size
         have hd3 : Below W0.heap.size W0 w3 := ⟨hc.os.trans H2.out.os, hc.tape.trans H2.out.tape, hc.output.trans H2.out.output, Nat.le_trans H2.out.size hc.size, fun k hk => (hc.block k hk).trans (H2.out.block k hk)⟩
         clear hc
         have y30 := (HT.out.below hd3 hs0).kind; have y31 := (HT.out.below hd3 hs0).num; have y32 := (HT.out.below hd3 hs0).name; have y33 := (HT.out.below hd3 hs0).args
         have z30 := (HT'.out.below hd3 hs1).kind; have z31 := (HT'.out.below hd3 hs1).num; have z32 := (HT'.out.below hd3 hs1).name; have z33 := (HT'.out.below hd3 hs1).args
         have H3 := Lib.hid hd3
         clear hb hd3)
      | (go_at_call 45
         refine (I1.out _ Aa ca Ab cb ?_ ?_).mono ?_
         · exact (Ha4.out.keep (fun _ _ => rfl))
         · exact (Hb4.out.keep (fun _ _ => rfl))
         rintro e w5 ⟨rfl, hb⟩
         have hc := hb.mono H4.out.size
         have hd5 : Below W0.heap.size W0 w5 := ⟨hc.os.trans H4.out.os, hc.tape.trans H4.out.tape, hc.output.trans H4.out.output, Nat.le_trans H4.out.size hc.size, fun k hk => (hc.block k hk).trans (H4.out.block k hk)⟩
         clear hc
         have y50 := (HT.out.below hd5 hs0).kind; have y51 := (HT.out.below hd5 hs0).num; have y52 := (HT.out.below hd5 hs0).name; have y53 := (HT.out.below hd5 hs0).args
         have z50 := (HT'.out.below hd5 hs1).kind; have z51 := (HT'.out.below hd5 hs1).num; have z52 := (HT'.out.below hd5 hs1).name; have z53 := (HT'.out.below hd5 hs1).args
         have H5 := Lib.hid hd5
         clear hb hd5))
  all_goals (
    go_wp2_with fail
    go_ret
    exact ⟨rfl, KB.out.trans (H5.out.mono (by omega))⟩)
end Go.Proofs.Ytmljkhofahgelaa
