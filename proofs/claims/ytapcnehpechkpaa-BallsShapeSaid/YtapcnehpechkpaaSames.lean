/-
  The two Sames, and the law's same, tell whether two terms are valid and the same.
-/
import Derived.Test.YtapcnehpechkpaaAlike
namespace Go.Proofs.Ytapcnehpechkpaa
set_option linter.unusedVariables false
set_option linter.unusedSimpArgs false
set_option maxRecDepth 100000
open Go.RowKit

set_option maxHeartbeats 1000000 in
set_option maxHeartbeats 1000000 in
theorem rsame_any (p : Pay) (l : Fo) (A : Option Addr) (c : Nat) (p' : Pay) (l' : Fo) (A' : Option Addr) (c' B : Nat) (w : World) (hA : ArgsB w B A (Tm.len l) l) (hA' : ArgsB w B A' (Tm.len l') l') (hB : B ≤ w.heap.size) :
    Calls Try.prog 69 #[tv p A (Tm.len l) c, tv p' A' (Tm.len l') c'] w fun e w' => e = .returned (.bool (Tm.validB p l && Tm.sameT p l p' l')) ∧ Below w.heap.size w w' := by
  have V1 := Lib.hid fun (w1 : World) (h1 : ArgsB w1 B A (Tm.len l) l) (h2 : B ≤ w1.heap.size) => rvalid_any p l A c B w1 h1 h2
  have V2 := Lib.hid fun (w1 : World) (h1 : ArgsB w1 B A' (Tm.len l') l') (h2 : B ≤ w1.heap.size) => rvalid_any p' l' A' c' B w1 h1 h2
  have C1 := Lib.hid fun (w1 : World) (h1 : ArgsB w1 B A (Tm.len l) l) (h2 : ArgsB w1 B A' (Tm.len l') l') (h3 : B ≤ w1.heap.size) => ridentical_up (Tm.size l + 1) p l A c p' l' A' c' B w1 (by omega) h1 h2 h3
  have hv2 : Tm.validB p l = true → Tm.validB p' l' = false → Tm.sameT p l p' l' = false := by
    intro h1 h2
    cases hs : Tm.sameT p l p' l' with
    | false => rfl
    | true =>
      obtain ⟨rfl, rfl⟩ := (Tm.sameT_eq _ _ _ _).1 hs
      rw [h1] at h2; cases h2
  obtain ⟨n, hn⟩ : ∃ n, n = Tm.len l := ⟨_, rfl⟩
  obtain ⟨n', hn'⟩ : ∃ n', n' = Tm.len l' := ⟨_, rfl⟩
  rw [← hn] at hA C1 V1 ⊢
  rw [← hn'] at hA' C1 V2 ⊢
  have HA := Lib.hid hA
  have HA' := Lib.hid hA'
  have b0 := two_boxes w
  have BX := Lib.hid b0
  clear hA hA' hn hn' b0
  cases hv : Tm.validB p l
  · rw [hv] at V1
    clear hv hv2
    go_enter Try.func69, Try.ntmps69
    go_wp2_with fail
    refine (V1.out _ ?_ ?_).mono ?_
    · exact HA.out.below (BX.out _ _) hB
    · simp; omega
    rintro e w1 ⟨rfl, hb1⟩
    have HB1 := Lib.hid ((BX.out _ _).trans (hb1.mono (by simp; omega)) : Below w.heap.size w w1)
    clear hb1
    go_wp2_with fail
    go_ret
    exact ⟨rfl, HB1.out⟩
  rw [hv] at V1
  cases hv' : Tm.validB p' l'
  · have hs := hv2 hv hv'
    rw [hs]
    rw [hv'] at V2
    clear hv hv2 hv' hs
    go_enter Try.func69, Try.ntmps69
    go_wp2_with fail
    refine (V1.out _ ?_ ?_).mono ?_
    · exact HA.out.below (BX.out _ _) hB
    · simp; omega
    rintro e w1 ⟨rfl, hb1⟩
    have hta' : TermAt w1 (w.heap.size + 1) p' A' n' c' := (by simpa using TermAt.new (w.alloc _) p' A' n' c' 24 : TermAt ((w.alloc _).alloc _) (w.heap.size + 1) p' A' n' c').below hb1 (by simp)
    have y0 := hta'.kind
    have y1 := hta'.num
    have y2 := hta'.name
    have y3 := hta'.args
    have hws : w.heap.size + 1 < w1.heap.size := by have := hb1.size; simp at this; omega
    have HB1 := Lib.hid ((BX.out _ _).trans (hb1.mono (by simp; omega)) : Below w.heap.size w w1)
    clear hb1 hta'
    go_wp2_with fail
    refine (V2.out _ ?_ ?_).mono ?_
    · exact HA'.out.below HB1.out hB
    · omega
    rintro e w2 ⟨rfl, hb2⟩
    have HB2 := Lib.hid (HB1.out.trans (hb2.mono (by omega)))
    clear hb2
    go_wp2_with fail
    go_ret
    exact ⟨rfl, HB2.out⟩
  rw [hv'] at V2
  clear hv hv2 hv'
  go_enter Try.func69, Try.ntmps69
  go_wp2_with fail
  refine (V1.out _ ?_ ?_).mono ?_
  · exact HA.out.below (BX.out _ _) hB
  · simp; omega
  rintro e w1 ⟨rfl, hb1⟩
  have hta : TermAt w1 w.heap.size p A n c := ((TermAt.new w p A n c 24).below (B := w.heap.size + 1) ((Below.refl _ _).alloc (by simp) _) (by omega)).below hb1 (by simp; omega)
  have hta' : TermAt w1 (w.heap.size + 1) p' A' n' c' := (by simpa using TermAt.new (w.alloc _) p' A' n' c' 24 : TermAt ((w.alloc _).alloc _) (w.heap.size + 1) p' A' n' c').below hb1 (by simp)
  have y0 := hta'.kind
  have y1 := hta'.num
  have y2 := hta'.name
  have y3 := hta'.args
  have z0 := hta.kind
  have z1 := hta.num
  have z2 := hta.name
  have z3 := hta.args
  have hws : w.heap.size + 1 < w1.heap.size := by have := hb1.size; simp at this; omega
  have HB1 := Lib.hid ((BX.out _ _).trans (hb1.mono (by simp; omega)) : Below w.heap.size w w1)
  have HT := Lib.hid hta
  have HT' := Lib.hid hta'
  clear hb1 hta hta'
  clear z0 z1 z2 z3
  go_wp2_with fail
  refine (V2.out _ ?_ ?_).mono ?_
  · exact HA'.out.below HB1.out hB
  · omega
  rintro e w2 ⟨rfl, hb2⟩
  have hws2 : w.heap.size + 1 < w2.heap.size := by have := hb2.size; omega
  clear y0 y1 y2 y3
  have y0 := (HT'.out.below hb2 hws).kind
  have y1 := (HT'.out.below hb2 hws).num
  have y2 := (HT'.out.below hb2 hws).name
  have y3 := (HT'.out.below hb2 hws).args
  have z0 := (HT.out.below hb2 (by omega)).kind
  have z1 := (HT.out.below hb2 (by omega)).num
  have z2 := (HT.out.below hb2 (by omega)).name
  have z3 := (HT.out.below hb2 (by omega)).args
  have HB2 := Lib.hid (HB1.out.trans (hb2.mono (by omega)))
  clear hb2
  go_wp2_with fail
  refine (C1.out _ ?_ ?_ ?_).mono ?_
  · exact HA.out.below HB2.out hB
  · exact HA'.out.below HB2.out hB
  · omega
  rintro e w3 ⟨rfl, hb3⟩
  have HB3 := Lib.hid (HB2.out.trans (hb3.mono (by omega)))
  clear hb3
  go_wp2_with fail
  go_ret
  exact ⟨rfl, HB3.out⟩

end Go.Proofs.Ytapcnehpechkpaa
