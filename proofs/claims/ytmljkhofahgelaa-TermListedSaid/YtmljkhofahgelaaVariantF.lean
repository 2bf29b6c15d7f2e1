/-
  Variant of terms that are not both valid.
-/
import Derived.Test.YtmljkhofahgelaaVariantM
import Derived.Deep.RegionHeld3
import Derived.Deep.DrawnRows
namespace Go.Proofs.Ytmljkhofahgelaa
set_option linter.unusedVariables false
set_option linter.unusedSimpArgs false
open Go.RowKit
attribute [local go_sem ↓] Go.wp_at_zero Go.wp_at_succ

set_option maxHeartbeats 2000000 in
theorem variant_f (p : Pay) (l : Fo) (A : Option Addr) (c : Nat) (p' : Pay) (l' : Fo) (A' : Option Addr) (c' B : Nat) (w : World) (hA : ArgsB w B A (Tm.len l) l) (hA' : ArgsB w B A' (Tm.len l') l') (hB : B ≤ w.heap.size) (hv : Tm.validB p l = false) :
    Calls Try.prog 17 #[tv p A (Tm.len l) c, tv p' A' (Tm.len l') c'] w fun e w' => e = .returned (.bool (Tm.variantB p l p' l')) ∧ Below w.heap.size w w' := by
  have V1 := Lib.hid fun (w1 : World) (h1 : ArgsB w1 B A (Tm.len l) l) (h2 : B ≤ w1.heap.size) => valid_any p l A c B w1 h1 h2
  have V2 := Lib.hid fun (w1 : World) (h1 : ArgsB w1 B A' (Tm.len l') l') (h2 : B ≤ w1.heap.size) => valid_any p' l' A' c' B w1 h1 h2
  have C1 := Lib.hid fun (hv : Tm.validB p l = true) (w1 : World) (h1 : ArgsB w1 B A (Tm.len l) l) (h2 : B ≤ w1.heap.size) => canonical_any p l A c B w1 h1 (Tm.good_of_valid hv) h2
  have C2 := Lib.hid fun (hv : Tm.validB p' l' = true) (w1 : World) (h1 : ArgsB w1 B A' (Tm.len l') l') (h2 : B ≤ w1.heap.size) => canonical_any p' l' A' c' B w1 h1 (Tm.good_of_valid hv) h2
  unfold Tm.variantB
  obtain ⟨n, hn⟩ : ∃ n, n = Tm.len l := ⟨_, rfl⟩
  obtain ⟨n', hn'⟩ : ∃ n', n' = Tm.len l' := ⟨_, rfl⟩
  rw [← hn] at hA C1 V1 ⊢
  rw [← hn'] at hA' C2 V2 ⊢
  clear hn hn'
  have b0 := two_boxes w (.cells #[.int .i64 p.1, .int .i64 p.2.1, .string p.2.2, .slice A n c] 24) (.cells #[.int .i64 p'.1, .int .i64 p'.2.1, .string p'.2.2, .slice A' n' c'] 24)
  have hta : TermAt ((w.alloc (.cells #[.int .i64 p.1, .int .i64 p.2.1, .string p.2.2, .slice A n c] 24)).alloc (.cells #[.int .i64 p'.1, .int .i64 p'.2.1, .string p'.2.2, .slice A' n' c'] 24)) w.heap.size p A n c := (TermAt.new w p A n c 24).below (B := w.heap.size + 1) ((Below.refl _ _).alloc (by simp) _) (by omega)
  have hta' : TermAt ((w.alloc (.cells #[.int .i64 p.1, .int .i64 p.2.1, .string p.2.2, .slice A n c] 24)).alloc (.cells #[.int .i64 p'.1, .int .i64 p'.2.1, .string p'.2.2, .slice A' n' c'] 24)) (w.heap.size + 1) p' A' n' c' := by
    have := TermAt.new (w.alloc (.cells #[.int .i64 p.1, .int .i64 p.2.1, .string p.2.2, .slice A n c] 24)) p' A' n' c' 24
    rw [World.size_alloc] at this
    exact this
  have hsz : ((w.alloc (.cells #[.int .i64 p.1, .int .i64 p.2.1, .string p.2.2, .slice A n c] 24)).alloc (.cells #[.int .i64 p'.1, .int .i64 p'.2.1, .string p'.2.2, .slice A' n' c'] 24)).heap.size = w.heap.size + 2 := by simp
  have KT := Lib.hid hta
  have KT' := Lib.hid hta'
  have KB := Lib.hid b0
  have KS := Lib.hid hsz
  have KA := Lib.hid (hA.below b0 hB)
  have KA' := Lib.hid (hA'.below b0 hB)
  clear hA hA' hta hta' b0 hsz
  rw [hv] at V1 ⊢
  clear hv C1 C2 V2
  go_enter Try.func17, Try.ntmps17
  go_wp2_with fail
  generalize ((w.alloc (.cells #[.int .i64 p.1, .int .i64 p.2.1, .string p.2.2, .slice A n c] 24)).alloc (.cells #[.int .i64 p'.1, .int .i64 p'.2.1, .string p'.2.2, .slice A' n' c'] 24)) = W0 at KT KT' KB KS KA KA' ⊢
  have HT := Lib.hid KT.out
  have HT' := Lib.hid KT'.out
  have hs0 : w.heap.size < W0.heap.size := by rw [KS.out]; omega
  have hs1 : w.heap.size + 1 < W0.heap.size := by rw [KS.out]; omega
  have hB0 : B ≤ W0.heap.size := by rw [KS.out]; omega
  have H0 := Lib.hid (Below.refl W0.heap.size W0)
  have y0 := HT.out.kind
  have y1 := HT.out.num
  have y2 := HT.out.name
  have y3 := HT.out.args
  have z0 := HT'.out.kind
  have z1 := HT'.out.num
  have z2 := HT'.out.name
  have z3 := HT'.out.args
  go_region_with
      (first
      | (go_at_call 10
         refine (V1.out _ ?_ ?_).mono ?_
         · exact (KA.out.below H0.out hB0).keep (fun _ _ => rfl)
         · exact Nat.le_trans hB0 H0.out.size
         rintro e w1 ⟨rfl, hb⟩
         have hc := hb.mono H0.out.size
         have hd1 : Below W0.heap.size W0 w1 := ⟨hc.os.trans H0.out.os, hc.tape.trans H0.out.tape, hc.output.trans H0.out.output, Nat.le_trans H0.out.size hc.size, fun k hk => (hc.block k hk).trans (H0.out.block k hk)⟩
         clear hc
         have y10 := (HT.out.below hd1 hs0).kind; have y11 := (HT.out.below hd1 hs0).num; have y12 := (HT.out.below hd1 hs0).name; have y13 := (HT.out.below hd1 hs0).args
         have z10 := (HT'.out.below hd1 hs1).kind; have z11 := (HT'.out.below hd1 hs1).num; have z12 := (HT'.out.below hd1 hs1).name; have z13 := (HT'.out.below hd1 hs1).args
         have H1 := Lib.hid hd1
         clear hb hd1))
  all_goals (
    go_wp2_with fail
    go_ret
    exact ⟨rfl, KB.out.trans (H1.out.mono (by omega))⟩)

set_option maxHeartbeats 2000000 in
theorem variant_t (p : Pay) (l : Fo) (A : Option Addr) (c : Nat) (p' : Pay) (l' : Fo) (A' : Option Addr) (c' B : Nat) (w : World) (hA : ArgsB w B A (Tm.len l) l) (hA' : ArgsB w B A' (Tm.len l') l') (hB : B ≤ w.heap.size) (hv : Tm.validB p l = true) (hv' : Tm.validB p' l' = false) :
    Calls Try.prog 17 #[tv p A (Tm.len l) c, tv p' A' (Tm.len l') c'] w fun e w' => e = .returned (.bool (Tm.variantB p l p' l')) ∧ Below w.heap.size w w' := by
  have V1 := Lib.hid fun (w1 : World) (h1 : ArgsB w1 B A (Tm.len l) l) (h2 : B ≤ w1.heap.size) => valid_any p l A c B w1 h1 h2
  have V2 := Lib.hid fun (w1 : World) (h1 : ArgsB w1 B A' (Tm.len l') l') (h2 : B ≤ w1.heap.size) => valid_any p' l' A' c' B w1 h1 h2
  have C1 := Lib.hid fun (hv : Tm.validB p l = true) (w1 : World) (h1 : ArgsB w1 B A (Tm.len l) l) (h2 : B ≤ w1.heap.size) => canonical_any p l A c B w1 h1 (Tm.good_of_valid hv) h2
  have C2 := Lib.hid fun (hv : Tm.validB p' l' = true) (w1 : World) (h1 : ArgsB w1 B A' (Tm.len l') l') (h2 : B ≤ w1.heap.size) => canonical_any p' l' A' c' B w1 h1 (Tm.good_of_valid hv) h2
  unfold Tm.variantB
  obtain ⟨n, hn⟩ : ∃ n, n = Tm.len l := ⟨_, rfl⟩
  obtain ⟨n', hn'⟩ : ∃ n', n' = Tm.len l' := ⟨_, rfl⟩
  rw [← hn] at hA C1 V1 ⊢
  rw [← hn'] at hA' C2 V2 ⊢
  clear hn hn'
  have b0 := two_boxes w (.cells #[.int .i64 p.1, .int .i64 p.2.1, .string p.2.2, .slice A n c] 24) (.cells #[.int .i64 p'.1, .int .i64 p'.2.1, .string p'.2.2, .slice A' n' c'] 24)
  have hta : TermAt ((w.alloc (.cells #[.int .i64 p.1, .int .i64 p.2.1, .string p.2.2, .slice A n c] 24)).alloc (.cells #[.int .i64 p'.1, .int .i64 p'.2.1, .string p'.2.2, .slice A' n' c'] 24)) w.heap.size p A n c := (TermAt.new w p A n c 24).below (B := w.heap.size + 1) ((Below.refl _ _).alloc (by simp) _) (by omega)
  have hta' : TermAt ((w.alloc (.cells #[.int .i64 p.1, .int .i64 p.2.1, .string p.2.2, .slice A n c] 24)).alloc (.cells #[.int .i64 p'.1, .int .i64 p'.2.1, .string p'.2.2, .slice A' n' c'] 24)) (w.heap.size + 1) p' A' n' c' := by
    have := TermAt.new (w.alloc (.cells #[.int .i64 p.1, .int .i64 p.2.1, .string p.2.2, .slice A n c] 24)) p' A' n' c' 24
    rw [World.size_alloc] at this
    exact this
  have hsz : ((w.alloc (.cells #[.int .i64 p.1, .int .i64 p.2.1, .string p.2.2, .slice A n c] 24)).alloc (.cells #[.int .i64 p'.1, .int .i64 p'.2.1, .string p'.2.2, .slice A' n' c'] 24)).heap.size = w.heap.size + 2 := by simp
  have KT := Lib.hid hta
  have KT' := Lib.hid hta'
  have KB := Lib.hid b0
  have KS := Lib.hid hsz
  have KA := Lib.hid (hA.below b0 hB)
  have KA' := Lib.hid (hA'.below b0 hB)
  clear hA hA' hta hta' b0 hsz
  rw [hv] at V1 ⊢
  rw [hv'] at V2 ⊢
  clear hv hv' C1 C2
  go_enter Try.func17, Try.ntmps17
  go_wp2_with fail
  generalize ((w.alloc (.cells #[.int .i64 p.1, .int .i64 p.2.1, .string p.2.2, .slice A n c] 24)).alloc (.cells #[.int .i64 p'.1, .int .i64 p'.2.1, .string p'.2.2, .slice A' n' c'] 24)) = W0 at KT KT' KB KS KA KA' ⊢
  have HT := Lib.hid KT.out
  have HT' := Lib.hid KT'.out
  have hs0 : w.heap.size < W0.heap.size := by rw [KS.out]; omega
  have hs1 : w.heap.size + 1 < W0.heap.size := by rw [KS.out]; omega
  have hB0 : B ≤ W0.heap.size := by rw [KS.out]; omega
  have H0 := Lib.hid (Below.refl W0.heap.size W0)
  have y0 := HT.out.kind
  have y1 := HT.out.num
  have y2 := HT.out.name
  have y3 := HT.out.args
  have z0 := HT'.out.kind
  have z1 := HT'.out.num
  have z2 := HT'.out.name
  have z3 := HT'.out.args
  go_region_with
      (first
      | (go_at_call 10
         refine (V1.out _ ?_ ?_).mono ?_
         · exact (KA.out.below H0.out hB0).keep (fun _ _ => rfl)
         · exact Nat.le_trans hB0 H0.out.size
         rintro e w1 ⟨rfl, hb⟩
         have hc := hb.mono H0.out.size
         have hd1 : Below W0.heap.size W0 w1 := ⟨hc.os.trans H0.out.os, hc.tape.trans H0.out.tape, hc.output.trans H0.out.output, Nat.le_trans H0.out.size hc.size, fun k hk => (hc.block k hk).trans (H0.out.block k hk)⟩
         clear hc
         have y10 := (HT.out.below hd1 hs0).kind; have y11 := (HT.out.below hd1 hs0).num; have y12 := (HT.out.below hd1 hs0).name; have y13 := (HT.out.below hd1 hs0).args
         have z10 := (HT'.out.below hd1 hs1).kind; have z11 := (HT'.out.below hd1 hs1).num; have z12 := (HT'.out.below hd1 hs1).name; have z13 := (HT'.out.below hd1 hs1).args
         have H1 := Lib.hid hd1
         clear hb hd1)
      | (go_at_call 10
         refine (V2.out _ ?_ ?_).mono ?_
         · exact (KA'.out.below H1.out hB0).keep (fun _ _ => rfl)
         · exact Nat.le_trans hB0 H1.out.size
         rintro e w2 ⟨rfl, hb⟩
         have hc := hb.mono H1.out.size
         have hd2 : Below W0.heap.size W0 w2 := ⟨hc.os.trans H1.out.os, hc.tape.trans H1.out.tape, hc.output.trans H1.out.output, Nat.le_trans H1.out.size hc.size, fun k hk => (hc.block k hk).trans (H1.out.block k hk)⟩
         clear hc
         have y20 := (HT.out.below hd2 hs0).kind; have y21 := (HT.out.below hd2 hs0).num; have y22 := (HT.out.below hd2 hs0).name; have y23 := (HT.out.below hd2 hs0).args
         have z20 := (HT'.out.below hd2 hs1).kind; have z21 := (HT'.out.below hd2 hs1).num; have z22 := (HT'.out.below hd2 hs1).name; have z23 := (HT'.out.below hd2 hs1).args
         have H2 := Lib.hid hd2
         clear hb hd2))
  all_goals (
    go_wp2_with fail
    go_ret
    exact ⟨rfl, KB.out.trans (H2.out.mono (by omega))⟩)
end Go.Proofs.Ytmljkhofahgelaa
