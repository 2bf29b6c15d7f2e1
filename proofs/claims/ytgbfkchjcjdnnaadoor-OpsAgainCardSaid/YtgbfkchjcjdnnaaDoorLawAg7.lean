/-
  The walk of OpsAgain: it returns true.
-/
import Derived.Test.YtgbfkchjcjdnnaaDoorLawSL7
import Derived.Test.YtgbfkchjcjdnnaaDoorMathL7
namespace Go.Proofs.YtgbfkchjcjdnnaaDoor
set_option linter.unusedVariables false
set_option linter.unusedSimpArgs false
open Go.RowKit Q

theorem again_long (A : Option Addr) (n cap : Nat) (p t : Int) (nm : ByteArray) (w : World) (hn : 300 < n) (hm : n ≤ 9223372036854775807) (hT : Tabs w) :
    Calls Tryd.prog 9 #[.slice A n cap, .int .i64 p, .int .i64 t, .string nm] w fun e w' => e = .returned (.bool true) ∧ Below w.heap.size w w' := by
  have HA := Lib.hid (awake_true w hT)
  clear hT
  go_enter Tryd.func9, Tryd.ntmps9
  go_wp2_with fail
  refine HA.out.mono ?_
  rintro e w1 ⟨rfl, hb1⟩
  go_wp2_with fail
  go_ret
  exact ⟨rfl, hb1⟩

set_option maxHeartbeats 4000000 in
theorem again_short (A : Option Addr) (cap : Nat) (p t : Int) (nm : ByteArray) (L : List Ent) (w : World) (hn : L.length ≤ 300) (hT : Tabs w) (h : OpsIn w w.heap.size A L.length L) :
    Calls Tryd.prog 9 #[.slice A L.length cap, .int .i64 p, .int .i64 t, .string nm] w fun e w' => e = .returned (.bool true) ∧ Below w.heap.size w w' := by
  have hST := fun (W : World) (hW : Below w.heap.size w W) (ho : OpsIn W W.heap.size A L.length L) => set_any A L.length cap p t nm L W (hT.below hW) (by omega) ho
  have HA := Lib.hid (hAwake hT)
  have HB := Lib.hid (Below.refl w.heap.size w)
  have HL := Lib.hid h
  unfold ResEnd at hST
  by_cases herr : errM L p t nm = 0
  · have hall : argB L p t nm = true ∧ mayB L p (cls t) nm = true ∧ fullB L p (cls t) nm = false := by
      unfold errM at herr
      cases h1 : argB L p t nm
      · rw [h1] at herr; cases herr
      · rw [h1] at herr
        cases h2 : mayB L p (cls t) nm
        · rw [h2] at herr; cases herr
        · rw [h2] at herr
          cases h3 : fullB L p (cls t) nm
          · exact ⟨rfl, rfl, rfl⟩
          · rw [h3] at herr; cases herr
    obtain ⟨h1, h2, h3⟩ := hall
    have hg := (argB_yes h1).1
    have hc := (argB_yes h1).2.2.1
    have hM : resM L p t nm = setM L p t nm := (err_ok h1 h2 h3).2
    obtain ⟨e1, e2⟩ := err_again h1 h2 h3
    have r1 : resM (setM L p t nm) p t nm = setM L p t nm := by unfold resM; rw [e1, if_pos rfl, set_again]
    have r2 : resM (setM L p t nm) 0 t nm = setM (setM L p t nm) 0 t nm := by unfold resM; rw [e2, if_pos rfl]
    have r3 : findM L (cls t) nm = none → setM (setM L p t nm) 0 t nm = L := fun hx => set_back hx
    have hlen := res_len L p t nm
    rw [herr, hM] at hST
    rw [hM] at hlen
    have hSA := fun (A1 : Option Addr) (c1 : Nat) (W : World) (hW : Below w.heap.size w W) (ho : OpsIn W W.heap.size A1 (setM L p t nm).length (setM L p t nm)) => set_any A1 (setM L p t nm).length c1 p t nm (setM L p t nm) W (hT.below hW) (by omega) ho
    have hSZ := fun (A1 : Option Addr) (c1 : Nat) (W : World) (hW : Below w.heap.size w W) (ho : OpsIn W W.heap.size A1 (setM L p t nm).length (setM L p t nm)) => set_any A1 (setM L p t nm).length c1 0 t nm (setM L p t nm) W (hT.below hW) (by omega) ho
    unfold ResEnd at hSA hSZ
    rw [e1, r1] at hSA
    rw [e2, r2] at hSZ
    have hS1 := hSame (setM L p t nm) hlen
    have hHad : lookB L (cls t) nm = (findM L (cls t) nm).isSome := by unfold lookB lookM; rw [hg, if_pos rfl]
    have hC : ∀ W : World, Calls Tryd.prog 32 #[.int .i64 t] W fun e w' => e = .returned (.int .i64 (cls t)) ∧ W = w' := fun W => rclass_any t W
    have hF := fun (W : World) (hW : Below w.heap.size w W) (ho : OpsIn W W.heap.size A L.length L) => lfind_any A L.length cap nm (cls t) (by have := cls_range t; omega) L W (hT.below hW) (by omega) ho
    unfold LookEnd opV at hF
    obtain ⟨⟨xa, xb, xc⟩, hx⟩ : ∃ x, x = lookE L (cls t) nm := ⟨_, rfl⟩
    rw [← hx] at hF
    clear hx
    have HST := Lib.hid hST
    have HSA := Lib.hid hSA
    have HS1 := Lib.hid hS1
    have HC := Lib.hid hC
    cases hf : findM L (cls t) nm
    · have hz := r3 hf
      rw [hz] at hSZ
      rw [hHad, hf] at hF
      have HS2 := Lib.hid (hSame L (by omega))
      have HSZ := Lib.hid hSZ
      have HF := Lib.hid hF
      clear hST hSA hSZ hS1 hC hF hHad r1 r2 r3 e1 e2 h1 h2 h3 hM herr hg hc hf hz hlen h hT
      generalize setM L p t nm = M at *
      generalize cls t = d at *
      go_enter Tryd.func9, Tryd.ntmps9
      go_wp2_with fail
      refine (HST.out _ HB.out HL.out).mono ?_
      rintro e w1 ⟨⟨A2, c2, rfl, ho2⟩, hb⟩
      replace HB := Lib.hid (HB.out.trans (hb.mono HB.out.size))
      replace HL := Lib.hid (HL.out.on hb hb.size)
      have HO2 := Lib.hid ho2
      clear ho2
      clear hb
      go_wp2_with fail
      refine (HSA.out _ _ _ HB.out HO2.out).mono ?_
      rintro e w2 ⟨⟨A3, c3, rfl, ho3⟩, hb⟩
      replace HB := Lib.hid (HB.out.trans (hb.mono HB.out.size))
      replace HL := Lib.hid (HL.out.on hb hb.size)
      replace HO2 := Lib.hid (HO2.out.on hb hb.size)
      have HO3 := Lib.hid ho3
      clear ho3
      clear hb
      go_wp2_with fail
      refine (HSZ.out _ _ _ HB.out HO2.out).mono ?_
      rintro e w3 ⟨⟨A4, c4, rfl, ho4⟩, hb⟩
      replace HB := Lib.hid (HB.out.trans (hb.mono HB.out.size))
      replace HL := Lib.hid (HL.out.on hb hb.size)
      replace HO2 := Lib.hid (HO2.out.on hb hb.size)
      replace HO3 := Lib.hid (HO3.out.on hb hb.size)
      have HO4 := Lib.hid ho4
      clear ho4
      clear hb
      go_wp2_with fail
      refine (HC.out _).mono ?_
      rintro e w9 ⟨rfl, rfl⟩
      go_wp2_with fail
      refine (HF.out _ HB.out HL.out).mono ?_
      rintro e w4 ⟨rfl, hb⟩
      replace HB := Lib.hid (HB.out.trans (hb.mono HB.out.size))
      replace HL := Lib.hid (HL.out.on hb hb.size)
      replace HO2 := Lib.hid (HO2.out.on hb hb.size)
      replace HO3 := Lib.hid (HO3.out.on hb hb.size)
      replace HO4 := Lib.hid (HO4.out.on hb hb.size)
      clear hb
      go_wp2_with (refine wpList_store_own rfl 26 (.tmp 15) (.tmp 53) rfl w4.heap.size #[.string xa, .int .i64 xb, .int .i64 xc] rfl rfl 26 _ (heap_alloc_new w4 _) op_size rfl (one3 _ _ _) w4.heap.size w4 ((Below.refl _ _).alloc (Nat.le_refl _) _) (Nat.le_refl _) ?_; intro w5 hg hb hs)
      replace HB := Lib.hid (HB.out.trans (hb.out.mono HB.out.size))
      replace HL := Lib.hid (HL.out.on hb.out hb.out.size)
      replace HO2 := Lib.hid (HO2.out.on hb.out hb.out.size)
      replace HO3 := Lib.hid (HO3.out.on hb.out hb.out.size)
      replace HO4 := Lib.hid (HO4.out.on hb.out hb.out.size)
      have X1 := Lib.hid (show Box w5 w4.heap.size (xa, xb, xc) from ⟨by rw [hs.out]; simp, hg.out⟩)
      clear hg hb hs
      refine (HS1.out _ _ _ _ _ HO2.out HO3.out).mono ?_
      rintro e w6 ⟨rfl, hb⟩
      replace HB := Lib.hid (HB.out.trans (hb.mono HB.out.size))
      replace HL := Lib.hid (HL.out.on hb hb.size)
      replace HO2 := Lib.hid (HO2.out.on hb hb.size)
      replace HO3 := Lib.hid (HO3.out.on hb hb.size)
      replace HO4 := Lib.hid (HO4.out.on hb hb.size)
      replace X1 := Lib.hid (X1.out.on hb)
      clear hb
      go_wp2_with fail
      refine (HS2.out _ _ _ _ _ HO4.out HL.out).mono ?_
      rintro e w7 ⟨rfl, hb⟩
      replace HB := Lib.hid (HB.out.trans (hb.mono HB.out.size))
      replace HL := Lib.hid (HL.out.on hb hb.size)
      replace HO2 := Lib.hid (HO2.out.on hb hb.size)
      replace HO3 := Lib.hid (HO3.out.on hb hb.size)
      replace HO4 := Lib.hid (HO4.out.on hb hb.size)
      replace X1 := Lib.hid (X1.out.on hb)
      clear hb
      go_wp2_with fail
      refine (HA.out _ HB.out).mono ?_
      rintro e w8 ⟨rfl, hb⟩
      replace HB := Lib.hid (HB.out.trans (hb.mono HB.out.size))
      replace HL := Lib.hid (HL.out.on hb hb.size)
      replace HO2 := Lib.hid (HO2.out.on hb hb.size)
      replace HO3 := Lib.hid (HO3.out.on hb hb.size)
      replace HO4 := Lib.hid (HO4.out.on hb hb.size)
      replace X1 := Lib.hid (X1.out.on hb)
      clear hb
      go_wp2_with fail
      go_ret
      exact ⟨rfl, HB.out⟩
    · rw [hHad, hf] at hF
      have HSZ := Lib.hid hSZ
      have HF := Lib.hid hF
      clear hST hSA hSZ hS1 hC hF hHad r1 r2 r3 e1 e2 h1 h2 h3 hM herr hg hc hf hlen h hT
      generalize setM (setM L p t nm) 0 t nm = M0 at *
      generalize setM L p t nm = M at *
      generalize cls t = d at *
      go_enter Tryd.func9, Tryd.ntmps9
      go_wp2_with fail
      refine (HST.out _ HB.out HL.out).mono ?_
      rintro e w1 ⟨⟨A2, c2, rfl, ho2⟩, hb⟩
      replace HB := Lib.hid (HB.out.trans (hb.mono HB.out.size))
      replace HL := Lib.hid (HL.out.on hb hb.size)
      have HO2 := Lib.hid ho2
      clear ho2
      clear hb
      go_wp2_with fail
      refine (HSA.out _ _ _ HB.out HO2.out).mono ?_
      rintro e w2 ⟨⟨A3, c3, rfl, ho3⟩, hb⟩
      replace HB := Lib.hid (HB.out.trans (hb.mono HB.out.size))
      replace HL := Lib.hid (HL.out.on hb hb.size)
      replace HO2 := Lib.hid (HO2.out.on hb hb.size)
      have HO3 := Lib.hid ho3
      clear ho3
      clear hb
      go_wp2_with fail
      refine (HSZ.out _ _ _ HB.out HO2.out).mono ?_
      rintro e w3 ⟨⟨A4, c4, rfl, ho4⟩, hb⟩
      replace HB := Lib.hid (HB.out.trans (hb.mono HB.out.size))
      replace HL := Lib.hid (HL.out.on hb hb.size)
      replace HO2 := Lib.hid (HO2.out.on hb hb.size)
      replace HO3 := Lib.hid (HO3.out.on hb hb.size)
      have HO4 := Lib.hid ho4
      clear ho4
      clear hb
      go_wp2_with fail
      refine (HC.out _).mono ?_
      rintro e w9 ⟨rfl, rfl⟩
      go_wp2_with fail
      refine (HF.out _ HB.out HL.out).mono ?_
      rintro e w4 ⟨rfl, hb⟩
      replace HB := Lib.hid (HB.out.trans (hb.mono HB.out.size))
      replace HL := Lib.hid (HL.out.on hb hb.size)
      replace HO2 := Lib.hid (HO2.out.on hb hb.size)
      replace HO3 := Lib.hid (HO3.out.on hb hb.size)
      replace HO4 := Lib.hid (HO4.out.on hb hb.size)
      clear hb
      go_wp2_with (refine wpList_store_own rfl 26 (.tmp 15) (.tmp 53) rfl w4.heap.size #[.string xa, .int .i64 xb, .int .i64 xc] rfl rfl 26 _ (heap_alloc_new w4 _) op_size rfl (one3 _ _ _) w4.heap.size w4 ((Below.refl _ _).alloc (Nat.le_refl _) _) (Nat.le_refl _) ?_; intro w5 hg hb hs)
      replace HB := Lib.hid (HB.out.trans (hb.out.mono HB.out.size))
      replace HL := Lib.hid (HL.out.on hb.out hb.out.size)
      replace HO2 := Lib.hid (HO2.out.on hb.out hb.out.size)
      replace HO3 := Lib.hid (HO3.out.on hb.out hb.out.size)
      replace HO4 := Lib.hid (HO4.out.on hb.out hb.out.size)
      have X1 := Lib.hid (show Box w5 w4.heap.size (xa, xb, xc) from ⟨by rw [hs.out]; simp, hg.out⟩)
      clear hg hb hs
      refine (HS1.out _ _ _ _ _ HO2.out HO3.out).mono ?_
      rintro e w6 ⟨rfl, hb⟩
      replace HB := Lib.hid (HB.out.trans (hb.mono HB.out.size))
      replace HL := Lib.hid (HL.out.on hb hb.size)
      replace HO2 := Lib.hid (HO2.out.on hb hb.size)
      replace HO3 := Lib.hid (HO3.out.on hb hb.size)
      replace HO4 := Lib.hid (HO4.out.on hb hb.size)
      replace X1 := Lib.hid (X1.out.on hb)
      clear hb
      go_wp2_with fail
      refine (HA.out _ HB.out).mono ?_
      rintro e w7 ⟨rfl, hb⟩
      replace HB := Lib.hid (HB.out.trans (hb.mono HB.out.size))
      replace HL := Lib.hid (HL.out.on hb hb.size)
      replace HO2 := Lib.hid (HO2.out.on hb hb.size)
      replace HO3 := Lib.hid (HO3.out.on hb hb.size)
      replace HO4 := Lib.hid (HO4.out.on hb hb.size)
      replace X1 := Lib.hid (X1.out.on hb)
      clear hb
      go_wp2_with fail
      go_ret
      exact ⟨rfl, HB.out⟩
  · obtain ⟨z, hz⟩ : ∃ z, z = errM L p t nm := ⟨_, rfl⟩
    rw [← hz] at hST herr
    have hzb : (z == 0) = false := by rw [beq_eq_false_iff_ne]; exact herr
    have hzn : (z != 0) = true := by rw [bne_iff_ne]; exact herr
    have HST := Lib.hid hST
    clear hST herr hz h hT
    go_enter Tryd.func9, Tryd.ntmps9
    go_wp2_with fail
    refine (HST.out _ HB.out HL.out).mono ?_
    rintro e w1 ⟨⟨A2, c2, rfl, ho2⟩, hb⟩
    replace HB := Lib.hid (HB.out.trans (hb.mono HB.out.size))
    replace HL := Lib.hid (HL.out.on hb hb.size)
    clear ho2
    clear hb
    go_wp2_with fail
    refine (HA.out _ HB.out).mono ?_
    rintro e w2 ⟨rfl, hb⟩
    replace HB := Lib.hid (HB.out.trans (hb.mono HB.out.size))
    replace HL := Lib.hid (HL.out.on hb hb.size)
    clear hb
    go_wp2_with fail
    go_ret
    exact ⟨rfl, HB.out⟩

theorem walk_again (A : Option Addr) (n cap : Nat) (p t : Int) (nm : ByteArray) (L : List Ent) (w : World) (hm : n ≤ 9223372036854775807) (h : OpsIn w w.heap.size A n L) (hT : Tabs w) :
    Calls Tryd.prog 9 #[.slice A n cap, .int .i64 p, .int .i64 t, .string nm] w fun e w' => e = .returned (.bool true) ∧ Below w.heap.size w w' := by
  by_cases hn : 300 < n
  · exact again_long A n cap p t nm w hn hm hT
  · have hl := h.len
    subst hl
    exact again_short A cap p t nm L w (by omega) hT h
end Go.Proofs.YtgbfkchjcjdnnaaDoor
