/-
  The walk of OpsChanges: it returns true.
-/
import Derived.Test.YtgbfkchjcjdnnaaDoorLawSL7
import Derived.Test.YtgbfkchjcjdnnaaDoorMathL7
namespace Go.Proofs.YtgbfkchjcjdnnaaDoor
set_option linter.unusedVariables false
set_option linter.unusedSimpArgs false
open Go.RowKit Q

theorem changes_long (A : Option Addr) (n cap : Nat) (p t : Int) (nm other : ByteArray) (k : Int) (w : World) (hn : 300 < n) (hm : n ≤ 9223372036854775807) (hT : Tabs w) :
    Calls Tryd.prog 8 #[.slice A n cap, .int .i64 p, .int .i64 t, .string nm, .string other, .int .i64 k] w fun e w' => e = .returned (.bool true) ∧ Below w.heap.size w w' := by
  have HA := Lib.hid (awake_true w hT)
  clear hT
  go_enter Tryd.func8, Tryd.ntmps8
  go_wp2_with fail
  refine HA.out.mono ?_
  rintro e w1 ⟨rfl, hb1⟩
  go_wp2_with fail
  go_ret
  exact ⟨rfl, hb1⟩

set_option maxHeartbeats 16000000 in
theorem changes_short (A : Option Addr) (cap : Nat) (p t : Int) (nm other : ByteArray) (k : Int) (L : List Ent) (w : World) (hn : L.length ≤ 300) (hT : Tabs w) (h : OpsIn w w.heap.size A L.length L) :
    Calls Tryd.prog 8 #[.slice A L.length cap, .int .i64 p, .int .i64 t, .string nm, .string other, .int .i64 k] w fun e w' => e = .returned (.bool true) ∧ Below w.heap.size w w' := by
  have hST := fun (W : World) (hW : Below w.heap.size w W) (ho : OpsIn W W.heap.size A L.length L) => set_any A L.length cap p t nm L W (hT.below hW) (by omega) ho
  have HA := Lib.hid (hAwake hT)
  have HB := Lib.hid (Below.refl w.heap.size w)
  have HL := Lib.hid h
  unfold ResEnd at hST
  by_cases herr : errM L p t nm = 0
  · have hall : argB L p t nm = true ∧ mayB L p (cls t) nm = true ∧ fullB L p (cls t) nm = false := by
      unfold errM at herr
      cases h1 : argB L p t nm
      · rw [h1] at herr; cases herr
      · rw [h1] at herr
        cases h2 : mayB L p (cls t) nm
        · rw [h2] at herr; cases herr
        · rw [h2] at herr
          cases h3 : fullB L p (cls t) nm
          · exact ⟨rfl, rfl, rfl⟩
          · rw [h3] at herr; cases herr
    obtain ⟨h1, h2, h3⟩ := hall
    have hg := (argB_yes h1).1
    have hc := (argB_yes h1).2.2.1
    have hd3 : cls t = 1 ∨ cls t = 2 ∨ cls t = 3 := by have := cls_range t; omega
    have hM : resM L p t nm = setM L p t nm := (err_ok h1 h2 h3).2
    have hv := set_valid h1 h2 h3
    have hlen := res_len L p t nm
    rw [herr, hM] at hST
    rw [hM] at hlen
    have hmine : lookM (setM L p t nm) (cls t) nm = if 0 < p then some (nm, t, p) else none := by unfold lookM; rw [hv, if_pos rfl]; exact set_mine p t nm
    have hsame : ¬ (k = cls t ∧ other = nm) → lookE L k other = lookE (setM L p t nm) k other ∧ lookB L k other = lookB (setM L p t nm) k other := fun hne => by
      unfold lookE lookB lookM
      rw [hv, hg, if_pos rfl, if_pos rfl, set_other p t nm hne]
      exact ⟨rfl, rfl⟩
    have hC : ∀ W : World, Calls Tryd.prog 32 #[.int .i64 t] W fun e w' => e = .returned (.int .i64 (cls t)) ∧ W = w' := fun W => rclass_any t W
    have hV := fun (A1 : Option Addr) (c1 : Nat) (W : World) (hW : Below w.heap.size w W) (ho : OpsIn W W.heap.size A1 (setM L p t nm).length (setM L p t nm)) => valid_any A1 (setM L p t nm).length c1 (setM L p t nm) W (hT.below hW) (by omega) ho
    rw [hv] at hV
    have hFM := fun (A1 : Option Addr) (c1 : Nat) (W : World) (hW : Below w.heap.size w W) (ho : OpsIn W W.heap.size A1 (setM L p t nm).length (setM L p t nm)) => lfind_any A1 (setM L p t nm).length c1 nm (cls t) hd3 (setM L p t nm) W (hT.below hW) (by omega) ho
    have HF1F := Lib.hid (fun (k : Int) (hk : k = 1 ∨ k = 2 ∨ k = 3) (W : World) (hW : Below w.heap.size w W) (ho : OpsIn W W.heap.size A L.length L) => lfind_any A L.length cap other k hk L W (hT.below hW) (by omega) ho)
    have HF2F := Lib.hid (fun (k : Int) (hk : k = 1 ∨ k = 2 ∨ k = 3) (A1 : Option Addr) (c1 : Nat) (W : World) (hW : Below w.heap.size w W) (ho : OpsIn W W.heap.size A1 (setM L p t nm).length (setM L p t nm)) => lfind_any A1 (setM L p t nm).length c1 other k hk (setM L p t nm) W (hT.below hW) (by omega) ho)
    unfold LookEnd lookE lookB opV at hFM
    rw [hmine] at hFM
    have HST := Lib.hid hST
    have HC := Lib.hid hC
    have HV := Lib.hid hV
    have hgu := guardOff
    have hko : (other.toList == nm.toList) = decide (other = nm) := eqC other nm
    clear hST hC hV h1 h2 h3 hM herr hg hc hd3 hv hlen hmine h hT
    generalize setM L p t nm = M at *
    generalize cls t = d at *
    by_cases hp : 0 < p
    · rw [if_pos hp] at hFM
      obtain ⟨ma, hma⟩ : ∃ x, x = nm := ⟨_, rfl⟩
      obtain ⟨mb, hmb⟩ : ∃ x, x = t := ⟨_, rfl⟩
      obtain ⟨mc, hmc⟩ : ∃ x, x = p := ⟨_, rfl⟩
      have hnq := neq_op ma nm mb t mc p
      rw [decide_eq_true (by rw [hma, hmb, hmc])] at hnq
      have hFM2 : ∀ (A1 : Option Addr) (c1 : Nat) (W : World), Below w.heap.size w W → OpsIn W W.heap.size A1 M.length M → Calls Tryd.prog 33 #[.slice A1 M.length c1, .int .i64 d, .string nm] W fun e w' => e = .returned (.tuple #[.agg #[.string ma, .int .i64 mb, .int .i64 mc], .bool true]) ∧ Below W.heap.size W w' := by rw [hma, hmb, hmc]; exact hFM
      have HFM := Lib.hid hFM2
      clear hFM hFM2 hma hmb hmc
      by_cases hlo : k < 1
      · clear hsame hko
        go_enter Tryd.func8, Tryd.ntmps8
        go_wp2_with fail
        refine (HST.out _ HB.out HL.out).mono ?_
        rintro e w1 ⟨⟨A2, c2, rfl, ho2⟩, hb⟩
        replace HB := Lib.hid (HB.out.trans (hb.mono HB.out.size))
        replace HL := Lib.hid (HL.out.on hb hb.size)
        have HO2 := Lib.hid ho2
        clear ho2
        clear hb
        go_wp2_with fail
        refine (HC.out _).mono ?_
        rintro e w9 ⟨rfl, rfl⟩
        go_wp2_with fail
        refine (HFM.out _ _ _ HB.out HO2.out).mono ?_
        rintro e w2 ⟨rfl, hb⟩
        replace HB := Lib.hid (HB.out.trans (hb.mono HB.out.size))
        replace HL := Lib.hid (HL.out.on hb hb.size)
        replace HO2 := Lib.hid (HO2.out.on hb hb.size)
        clear hb
        go_wp2_with (refine wpList_store_own rfl 26 (.tmp 16) (.tmp 49) rfl w2.heap.size #[.string ma, .int .i64 mb, .int .i64 mc] rfl rfl 26 _ (heap_alloc_new w2 _) op_size rfl (one3 _ _ _) w2.heap.size w2 ((Below.refl _ _).alloc (Nat.le_refl _) _) (Nat.le_refl _) ?_; intro w3 hg hb hs)
        replace HB := Lib.hid (HB.out.trans (hb.out.mono HB.out.size))
        replace HL := Lib.hid (HL.out.on hb.out hb.out.size)
        replace HO2 := Lib.hid (HO2.out.on hb.out hb.out.size)
        have X1 := Lib.hid (show Box w3 w2.heap.size (ma, mb, mc) from ⟨by rw [hs.out]; simp, hg.out⟩)
        clear hg hb hs
        refine (HV.out _ _ _ HB.out HO2.out).mono ?_
        rintro e w4 ⟨rfl, hb⟩
        replace HB := Lib.hid (HB.out.trans (hb.mono HB.out.size))
        replace HL := Lib.hid (HL.out.on hb hb.size)
        replace HO2 := Lib.hid (HO2.out.on hb hb.size)
        replace X1 := Lib.hid (X1.out.on hb)
        clear hb
        have x0 := X1.out.c0
        have x1 := X1.out.c1
        have x2 := X1.out.c2
        simp only at x0 x1 x2
        go_wp2_with fail
        clear x0 x1 x2
        refine (HA.out _ HB.out).mono ?_
        rintro e w5 ⟨rfl, hb⟩
        replace HB := Lib.hid (HB.out.trans (hb.mono HB.out.size))
        replace HL := Lib.hid (HL.out.on hb hb.size)
        replace HO2 := Lib.hid (HO2.out.on hb hb.size)
        replace X1 := Lib.hid (X1.out.on hb)
        clear hb
        go_wp2_with fail
        go_ret
        exact ⟨rfl, HB.out⟩
      by_cases hhi : 3 < k
      · clear hsame hko
        go_enter Tryd.func8, Tryd.ntmps8
        go_wp2_with fail
        refine (HST.out _ HB.out HL.out).mono ?_
        rintro e w1 ⟨⟨A2, c2, rfl, ho2⟩, hb⟩
        replace HB := Lib.hid (HB.out.trans (hb.mono HB.out.size))
        replace HL := Lib.hid (HL.out.on hb hb.size)
        have HO2 := Lib.hid ho2
        clear ho2
        clear hb
        go_wp2_with fail
        refine (HC.out _).mono ?_
        rintro e w9 ⟨rfl, rfl⟩
        go_wp2_with fail
        refine (HFM.out _ _ _ HB.out HO2.out).mono ?_
        rintro e w2 ⟨rfl, hb⟩
        replace HB := Lib.hid (HB.out.trans (hb.mono HB.out.size))
        replace HL := Lib.hid (HL.out.on hb hb.size)
        replace HO2 := Lib.hid (HO2.out.on hb hb.size)
        clear hb
        go_wp2_with (refine wpList_store_own rfl 26 (.tmp 16) (.tmp 49) rfl w2.heap.size #[.string ma, .int .i64 mb, .int .i64 mc] rfl rfl 26 _ (heap_alloc_new w2 _) op_size rfl (one3 _ _ _) w2.heap.size w2 ((Below.refl _ _).alloc (Nat.le_refl _) _) (Nat.le_refl _) ?_; intro w3 hg hb hs)
        replace HB := Lib.hid (HB.out.trans (hb.out.mono HB.out.size))
        replace HL := Lib.hid (HL.out.on hb.out hb.out.size)
        replace HO2 := Lib.hid (HO2.out.on hb.out hb.out.size)
        have X1 := Lib.hid (show Box w3 w2.heap.size (ma, mb, mc) from ⟨by rw [hs.out]; simp, hg.out⟩)
        clear hg hb hs
        refine (HV.out _ _ _ HB.out HO2.out).mono ?_
        rintro e w4 ⟨rfl, hb⟩
        replace HB := Lib.hid (HB.out.trans (hb.mono HB.out.size))
        replace HL := Lib.hid (HL.out.on hb hb.size)
        replace HO2 := Lib.hid (HO2.out.on hb hb.size)
        replace X1 := Lib.hid (X1.out.on hb)
        clear hb
        have x0 := X1.out.c0
        have x1 := X1.out.c1
        have x2 := X1.out.c2
        simp only at x0 x1 x2
        go_wp2_with fail
        clear x0 x1 x2
        refine (HA.out _ HB.out).mono ?_
        rintro e w5 ⟨rfl, hb⟩
        replace HB := Lib.hid (HB.out.trans (hb.mono HB.out.size))
        replace HL := Lib.hid (HL.out.on hb hb.size)
        replace HO2 := Lib.hid (HO2.out.on hb hb.size)
        replace X1 := Lib.hid (X1.out.on hb)
        clear hb
        go_wp2_with fail
        go_ret
        exact ⟨rfl, HB.out⟩
      have hk3 : k = 1 ∨ k = 2 ∨ k = 3 := by omega
      have HF1' := HF1F.out k hk3
      have HF2' := HF2F.out k hk3
      by_cases hkc : k = d
      · have hkb : (k == d) = true := by rw [beq_iff_eq]; exact hkc
        by_cases hon : other = nm
        · rw [decide_eq_true hon] at hko
          clear hsame hkc hon HF1' HF2' hk3
          go_enter Tryd.func8, Tryd.ntmps8
          go_wp2_with fail
          refine (HST.out _ HB.out HL.out).mono ?_
          rintro e w1 ⟨⟨A2, c2, rfl, ho2⟩, hb⟩
          replace HB := Lib.hid (HB.out.trans (hb.mono HB.out.size))
          replace HL := Lib.hid (HL.out.on hb hb.size)
          have HO2 := Lib.hid ho2
          clear ho2
          clear hb
          go_wp2_with fail
          refine (HC.out _).mono ?_
          rintro e w9 ⟨rfl, rfl⟩
          go_wp2_with fail
          refine (HFM.out _ _ _ HB.out HO2.out).mono ?_
          rintro e w2 ⟨rfl, hb⟩
          replace HB := Lib.hid (HB.out.trans (hb.mono HB.out.size))
          replace HL := Lib.hid (HL.out.on hb hb.size)
          replace HO2 := Lib.hid (HO2.out.on hb hb.size)
          clear hb
          go_wp2_with (refine wpList_store_own rfl 26 (.tmp 16) (.tmp 49) rfl w2.heap.size #[.string ma, .int .i64 mb, .int .i64 mc] rfl rfl 26 _ (heap_alloc_new w2 _) op_size rfl (one3 _ _ _) w2.heap.size w2 ((Below.refl _ _).alloc (Nat.le_refl _) _) (Nat.le_refl _) ?_; intro w3 hg hb hs)
          replace HB := Lib.hid (HB.out.trans (hb.out.mono HB.out.size))
          replace HL := Lib.hid (HL.out.on hb.out hb.out.size)
          replace HO2 := Lib.hid (HO2.out.on hb.out hb.out.size)
          have X1 := Lib.hid (show Box w3 w2.heap.size (ma, mb, mc) from ⟨by rw [hs.out]; simp, hg.out⟩)
          clear hg hb hs
          refine (HV.out _ _ _ HB.out HO2.out).mono ?_
          rintro e w4 ⟨rfl, hb⟩
          replace HB := Lib.hid (HB.out.trans (hb.mono HB.out.size))
          replace HL := Lib.hid (HL.out.on hb hb.size)
          replace HO2 := Lib.hid (HO2.out.on hb hb.size)
          replace X1 := Lib.hid (X1.out.on hb)
          clear hb
          have x0 := X1.out.c0
          have x1 := X1.out.c1
          have x2 := X1.out.c2
          simp only at x0 x1 x2
          go_wp2_with fail
          clear x0 x1 x2
          refine (HA.out _ HB.out).mono ?_
          rintro e w5 ⟨rfl, hb⟩
          replace HB := Lib.hid (HB.out.trans (hb.mono HB.out.size))
          replace HL := Lib.hid (HL.out.on hb hb.size)
          replace HO2 := Lib.hid (HO2.out.on hb hb.size)
          replace X1 := Lib.hid (X1.out.on hb)
          clear hb
          go_wp2_with fail
          go_ret
          exact ⟨rfl, HB.out⟩
        · rw [decide_eq_false hon] at hko
          have hs2 := hsame fun h => hon h.2
          unfold LookEnd opV at HF1' HF2'
          rw [← hs2.1, ← hs2.2] at HF2'
          obtain ⟨⟨ya, yb, yc⟩, hy⟩ : ∃ x, x = lookE L k other := ⟨_, rfl⟩
          obtain ⟨yv, hyv⟩ : ∃ x, x = lookB L k other := ⟨_, rfl⟩
          rw [← hy, ← hyv] at HF1' HF2'
          have HF1 := Lib.hid HF1'
          have HF2 := Lib.hid HF2'
          have hq := eq_yes ya yb yc
          clear hsame hkc hon hs2 hy hyv HF1' HF2' hk3
          go_enter Tryd.func8, Tryd.ntmps8
          go_wp2_with fail
          refine (HST.out _ HB.out HL.out).mono ?_
          rintro e w1 ⟨⟨A2, c2, rfl, ho2⟩, hb⟩
          replace HB := Lib.hid (HB.out.trans (hb.mono HB.out.size))
          replace HL := Lib.hid (HL.out.on hb hb.size)
          have HO2 := Lib.hid ho2
          clear ho2
          clear hb
          go_wp2_with fail
          refine (HC.out _).mono ?_
          rintro e w9 ⟨rfl, rfl⟩
          go_wp2_with fail
          refine (HFM.out _ _ _ HB.out HO2.out).mono ?_
          rintro e w2 ⟨rfl, hb⟩
          replace HB := Lib.hid (HB.out.trans (hb.mono HB.out.size))
          replace HL := Lib.hid (HL.out.on hb hb.size)
          replace HO2 := Lib.hid (HO2.out.on hb hb.size)
          clear hb
          go_wp2_with (refine wpList_store_own rfl 26 (.tmp 16) (.tmp 49) rfl w2.heap.size #[.string ma, .int .i64 mb, .int .i64 mc] rfl rfl 26 _ (heap_alloc_new w2 _) op_size rfl (one3 _ _ _) w2.heap.size w2 ((Below.refl _ _).alloc (Nat.le_refl _) _) (Nat.le_refl _) ?_; intro w3 hg hb hs)
          replace HB := Lib.hid (HB.out.trans (hb.out.mono HB.out.size))
          replace HL := Lib.hid (HL.out.on hb.out hb.out.size)
          replace HO2 := Lib.hid (HO2.out.on hb.out hb.out.size)
          have X1 := Lib.hid (show Box w3 w2.heap.size (ma, mb, mc) from ⟨by rw [hs.out]; simp, hg.out⟩)
          clear hg hb hs
          refine (HV.out _ _ _ HB.out HO2.out).mono ?_
          rintro e w4 ⟨rfl, hb⟩
          replace HB := Lib.hid (HB.out.trans (hb.mono HB.out.size))
          replace HL := Lib.hid (HL.out.on hb hb.size)
          replace HO2 := Lib.hid (HO2.out.on hb hb.size)
          replace X1 := Lib.hid (X1.out.on hb)
          clear hb
          have x0 := X1.out.c0
          have x1 := X1.out.c1
          have x2 := X1.out.c2
          simp only at x0 x1 x2
          go_wp2_with fail
          clear x0 x1 x2
          refine (HF1.out _ HB.out HL.out).mono ?_
          rintro e w5 ⟨rfl, hb⟩
          replace HB := Lib.hid (HB.out.trans (hb.mono HB.out.size))
          replace HL := Lib.hid (HL.out.on hb hb.size)
          replace HO2 := Lib.hid (HO2.out.on hb hb.size)
          replace X1 := Lib.hid (X1.out.on hb)
          clear hb
          go_wp2_with (refine wpList_store_own rfl 26 (.tmp 18) (.tmp 93) rfl w5.heap.size #[.string ya, .int .i64 yb, .int .i64 yc] rfl rfl 26 _ (heap_alloc_new w5 _) op_size rfl (one3 _ _ _) w5.heap.size w5 ((Below.refl _ _).alloc (Nat.le_refl _) _) (Nat.le_refl _) ?_; intro w6 hg hb hs)
          replace HB := Lib.hid (HB.out.trans (hb.out.mono HB.out.size))
          replace HL := Lib.hid (HL.out.on hb.out hb.out.size)
          replace HO2 := Lib.hid (HO2.out.on hb.out hb.out.size)
          replace X1 := Lib.hid (X1.out.on hb.out)
          have X2 := Lib.hid (show Box w6 w5.heap.size (ya, yb, yc) from ⟨by rw [hs.out]; simp, hg.out⟩)
          clear hg hb hs
          refine (HF2.out _ _ _ HB.out HO2.out).mono ?_
          rintro e w7 ⟨rfl, hb⟩
          replace HB := Lib.hid (HB.out.trans (hb.mono HB.out.size))
          replace HL := Lib.hid (HL.out.on hb hb.size)
          replace HO2 := Lib.hid (HO2.out.on hb hb.size)
          replace X1 := Lib.hid (X1.out.on hb)
          replace X2 := Lib.hid (X2.out.on hb)
          clear hb
          go_wp2_with (refine wpList_store_own rfl 26 (.tmp 20) (.tmp 100) rfl w7.heap.size #[.string ya, .int .i64 yb, .int .i64 yc] rfl rfl 26 _ (heap_alloc_new w7 _) op_size rfl (one3 _ _ _) w7.heap.size w7 ((Below.refl _ _).alloc (Nat.le_refl _) _) (Nat.le_refl _) ?_; intro w8 hg hb hs; have z0 := cell_heap (i := 0) hg.out rfl; have z1 := cell_heap (i := 1) hg.out rfl; have z2 := cell_heap (i := 2) hg.out rfl; have x20 := (X2.out.on hb.out).c0; simp only at x20; have x21 := (X2.out.on hb.out).c1; simp only at x21; have x22 := (X2.out.on hb.out).c2; simp only at x22)
          replace HB := Lib.hid (HB.out.trans (hb.out.mono HB.out.size))
          replace HL := Lib.hid (HL.out.on hb.out hb.out.size)
          replace HO2 := Lib.hid (HO2.out.on hb.out hb.out.size)
          replace X1 := Lib.hid (X1.out.on hb.out)
          replace X2 := Lib.hid (X2.out.on hb.out)
          have X3 := Lib.hid (show Box w8 w7.heap.size (ya, yb, yc) from ⟨by rw [hs.out]; simp, hg.out⟩)
          clear hg hb hs z0 z1 z2 x20 x21 x22
          refine (HA.out _ HB.out).mono ?_
          rintro e w9 ⟨rfl, hb⟩
          replace HB := Lib.hid (HB.out.trans (hb.mono HB.out.size))
          replace HL := Lib.hid (HL.out.on hb hb.size)
          replace HO2 := Lib.hid (HO2.out.on hb hb.size)
          replace X1 := Lib.hid (X1.out.on hb)
          replace X2 := Lib.hid (X2.out.on hb)
          replace X3 := Lib.hid (X3.out.on hb)
          clear hb
          go_wp2_with fail
          go_ret
          exact ⟨rfl, HB.out⟩
      · have hkb : (k == d) = false := by rw [beq_eq_false_iff_ne]; exact hkc
        have hs2 := hsame fun h => hkc h.1
        unfold LookEnd opV at HF1' HF2'
        rw [← hs2.1, ← hs2.2] at HF2'
        obtain ⟨⟨ya, yb, yc⟩, hy⟩ : ∃ x, x = lookE L k other := ⟨_, rfl⟩
        obtain ⟨yv, hyv⟩ : ∃ x, x = lookB L k other := ⟨_, rfl⟩
        rw [← hy, ← hyv] at HF1' HF2'
        have HF1 := Lib.hid HF1'
        have HF2 := Lib.hid HF2'
        have hq := eq_yes ya yb yc
        clear hsame hkc hko hs2 hy hyv HF1' HF2' hk3
        go_enter Tryd.func8, Tryd.ntmps8
        go_wp2_with fail
        refine (HST.out _ HB.out HL.out).mono ?_
        rintro e w1 ⟨⟨A2, c2, rfl, ho2⟩, hb⟩
        replace HB := Lib.hid (HB.out.trans (hb.mono HB.out.size))
        replace HL := Lib.hid (HL.out.on hb hb.size)
        have HO2 := Lib.hid ho2
        clear ho2
        clear hb
        go_wp2_with fail
        refine (HC.out _).mono ?_
        rintro e w9 ⟨rfl, rfl⟩
        go_wp2_with fail
        refine (HFM.out _ _ _ HB.out HO2.out).mono ?_
        rintro e w2 ⟨rfl, hb⟩
        replace HB := Lib.hid (HB.out.trans (hb.mono HB.out.size))
        replace HL := Lib.hid (HL.out.on hb hb.size)
        replace HO2 := Lib.hid (HO2.out.on hb hb.size)
        clear hb
        go_wp2_with (refine wpList_store_own rfl 26 (.tmp 16) (.tmp 49) rfl w2.heap.size #[.string ma, .int .i64 mb, .int .i64 mc] rfl rfl 26 _ (heap_alloc_new w2 _) op_size rfl (one3 _ _ _) w2.heap.size w2 ((Below.refl _ _).alloc (Nat.le_refl _) _) (Nat.le_refl _) ?_; intro w3 hg hb hs)
        replace HB := Lib.hid (HB.out.trans (hb.out.mono HB.out.size))
        replace HL := Lib.hid (HL.out.on hb.out hb.out.size)
        replace HO2 := Lib.hid (HO2.out.on hb.out hb.out.size)
        have X1 := Lib.hid (show Box w3 w2.heap.size (ma, mb, mc) from ⟨by rw [hs.out]; simp, hg.out⟩)
        clear hg hb hs
        refine (HV.out _ _ _ HB.out HO2.out).mono ?_
        rintro e w4 ⟨rfl, hb⟩
        replace HB := Lib.hid (HB.out.trans (hb.mono HB.out.size))
        replace HL := Lib.hid (HL.out.on hb hb.size)
        replace HO2 := Lib.hid (HO2.out.on hb hb.size)
        replace X1 := Lib.hid (X1.out.on hb)
        clear hb
        have x0 := X1.out.c0
        have x1 := X1.out.c1
        have x2 := X1.out.c2
        simp only at x0 x1 x2
        go_wp2_with fail
        clear x0 x1 x2
        refine (HF1.out _ HB.out HL.out).mono ?_
        rintro e w5 ⟨rfl, hb⟩
        replace HB := Lib.hid (HB.out.trans (hb.mono HB.out.size))
        replace HL := Lib.hid (HL.out.on hb hb.size)
        replace HO2 := Lib.hid (HO2.out.on hb hb.size)
        replace X1 := Lib.hid (X1.out.on hb)
        clear hb
        go_wp2_with (refine wpList_store_own rfl 26 (.tmp 18) (.tmp 93) rfl w5.heap.size #[.string ya, .int .i64 yb, .int .i64 yc] rfl rfl 26 _ (heap_alloc_new w5 _) op_size rfl (one3 _ _ _) w5.heap.size w5 ((Below.refl _ _).alloc (Nat.le_refl _) _) (Nat.le_refl _) ?_; intro w6 hg hb hs)
        replace HB := Lib.hid (HB.out.trans (hb.out.mono HB.out.size))
        replace HL := Lib.hid (HL.out.on hb.out hb.out.size)
        replace HO2 := Lib.hid (HO2.out.on hb.out hb.out.size)
        replace X1 := Lib.hid (X1.out.on hb.out)
        have X2 := Lib.hid (show Box w6 w5.heap.size (ya, yb, yc) from ⟨by rw [hs.out]; simp, hg.out⟩)
        clear hg hb hs
        refine (HF2.out _ _ _ HB.out HO2.out).mono ?_
        rintro e w7 ⟨rfl, hb⟩
        replace HB := Lib.hid (HB.out.trans (hb.mono HB.out.size))
        replace HL := Lib.hid (HL.out.on hb hb.size)
        replace HO2 := Lib.hid (HO2.out.on hb hb.size)
        replace X1 := Lib.hid (X1.out.on hb)
        replace X2 := Lib.hid (X2.out.on hb)
        clear hb
        go_wp2_with (refine wpList_store_own rfl 26 (.tmp 20) (.tmp 100) rfl w7.heap.size #[.string ya, .int .i64 yb, .int .i64 yc] rfl rfl 26 _ (heap_alloc_new w7 _) op_size rfl (one3 _ _ _) w7.heap.size w7 ((Below.refl _ _).alloc (Nat.le_refl _) _) (Nat.le_refl _) ?_; intro w8 hg hb hs; have z0 := cell_heap (i := 0) hg.out rfl; have z1 := cell_heap (i := 1) hg.out rfl; have z2 := cell_heap (i := 2) hg.out rfl; have x20 := (X2.out.on hb.out).c0; simp only at x20; have x21 := (X2.out.on hb.out).c1; simp only at x21; have x22 := (X2.out.on hb.out).c2; simp only at x22)
        replace HB := Lib.hid (HB.out.trans (hb.out.mono HB.out.size))
        replace HL := Lib.hid (HL.out.on hb.out hb.out.size)
        replace HO2 := Lib.hid (HO2.out.on hb.out hb.out.size)
        replace X1 := Lib.hid (X1.out.on hb.out)
        replace X2 := Lib.hid (X2.out.on hb.out)
        have X3 := Lib.hid (show Box w8 w7.heap.size (ya, yb, yc) from ⟨by rw [hs.out]; simp, hg.out⟩)
        clear hg hb hs z0 z1 z2 x20 x21 x22
        refine (HA.out _ HB.out).mono ?_
        rintro e w9 ⟨rfl, hb⟩
        replace HB := Lib.hid (HB.out.trans (hb.mono HB.out.size))
        replace HL := Lib.hid (HL.out.on hb hb.size)
        replace HO2 := Lib.hid (HO2.out.on hb hb.size)
        replace X1 := Lib.hid (X1.out.on hb)
        replace X2 := Lib.hid (X2.out.on hb)
        replace X3 := Lib.hid (X3.out.on hb)
        clear hb
        go_wp2_with fail
        go_ret
        exact ⟨rfl, HB.out⟩
    · rw [if_neg hp] at hFM
      obtain ⟨ma, hma⟩ : ∃ x, x = (⟨#[]⟩ : ByteArray) := ⟨_, rfl⟩
      obtain ⟨mb, hmb⟩ : ∃ x, x = (0 : Int) := ⟨_, rfl⟩
      obtain ⟨mc, hmc⟩ : ∃ x, x = (0 : Int) := ⟨_, rfl⟩
      have hFM2 : ∀ (A1 : Option Addr) (c1 : Nat) (W : World), Below w.heap.size w W → OpsIn W W.heap.size A1 M.length M → Calls Tryd.prog 33 #[.slice A1 M.length c1, .int .i64 d, .string nm] W fun e w' => e = .returned (.tuple #[.agg #[.string ma, .int .i64 mb, .int .i64 mc], .bool false]) ∧ Below W.heap.size W w' := by rw [hma, hmb, hmc]; exact hFM
      have HFM := Lib.hid hFM2
      clear hFM hFM2 hma hmb hmc
      by_cases hlo : k < 1
      · clear hsame hko
        go_enter Tryd.func8, Tryd.ntmps8
        go_wp2_with fail
        refine (HST.out _ HB.out HL.out).mono ?_
        rintro e w1 ⟨⟨A2, c2, rfl, ho2⟩, hb⟩
        replace HB := Lib.hid (HB.out.trans (hb.mono HB.out.size))
        replace HL := Lib.hid (HL.out.on hb hb.size)
        have HO2 := Lib.hid ho2
        clear ho2
        clear hb
        go_wp2_with fail
        refine (HC.out _).mono ?_
        rintro e w9 ⟨rfl, rfl⟩
        go_wp2_with fail
        refine (HFM.out _ _ _ HB.out HO2.out).mono ?_
        rintro e w2 ⟨rfl, hb⟩
        replace HB := Lib.hid (HB.out.trans (hb.mono HB.out.size))
        replace HL := Lib.hid (HL.out.on hb hb.size)
        replace HO2 := Lib.hid (HO2.out.on hb hb.size)
        clear hb
        go_wp2_with (refine wpList_store_own rfl 26 (.tmp 16) (.tmp 49) rfl w2.heap.size #[.string ma, .int .i64 mb, .int .i64 mc] rfl rfl 26 _ (heap_alloc_new w2 _) op_size rfl (one3 _ _ _) w2.heap.size w2 ((Below.refl _ _).alloc (Nat.le_refl _) _) (Nat.le_refl _) ?_; intro w3 hg hb hs)
        replace HB := Lib.hid (HB.out.trans (hb.out.mono HB.out.size))
        replace HL := Lib.hid (HL.out.on hb.out hb.out.size)
        replace HO2 := Lib.hid (HO2.out.on hb.out hb.out.size)
        have X1 := Lib.hid (show Box w3 w2.heap.size (ma, mb, mc) from ⟨by rw [hs.out]; simp, hg.out⟩)
        clear hg hb hs
        refine (HV.out _ _ _ HB.out HO2.out).mono ?_
        rintro e w4 ⟨rfl, hb⟩
        replace HB := Lib.hid (HB.out.trans (hb.mono HB.out.size))
        replace HL := Lib.hid (HL.out.on hb hb.size)
        replace HO2 := Lib.hid (HO2.out.on hb hb.size)
        replace X1 := Lib.hid (X1.out.on hb)
        clear hb
        go_wp2_with fail
        refine (HA.out _ HB.out).mono ?_
        rintro e w5 ⟨rfl, hb⟩
        replace HB := Lib.hid (HB.out.trans (hb.mono HB.out.size))
        replace HL := Lib.hid (HL.out.on hb hb.size)
        replace HO2 := Lib.hid (HO2.out.on hb hb.size)
        replace X1 := Lib.hid (X1.out.on hb)
        clear hb
        go_wp2_with fail
        go_ret
        exact ⟨rfl, HB.out⟩
      by_cases hhi : 3 < k
      · clear hsame hko
        go_enter Tryd.func8, Tryd.ntmps8
        go_wp2_with fail
        refine (HST.out _ HB.out HL.out).mono ?_
        rintro e w1 ⟨⟨A2, c2, rfl, ho2⟩, hb⟩
        replace HB := Lib.hid (HB.out.trans (hb.mono HB.out.size))
        replace HL := Lib.hid (HL.out.on hb hb.size)
        have HO2 := Lib.hid ho2
        clear ho2
        clear hb
        go_wp2_with fail
        refine (HC.out _).mono ?_
        rintro e w9 ⟨rfl, rfl⟩
        go_wp2_with fail
        refine (HFM.out _ _ _ HB.out HO2.out).mono ?_
        rintro e w2 ⟨rfl, hb⟩
        replace HB := Lib.hid (HB.out.trans (hb.mono HB.out.size))
        replace HL := Lib.hid (HL.out.on hb hb.size)
        replace HO2 := Lib.hid (HO2.out.on hb hb.size)
        clear hb
        go_wp2_with (refine wpList_store_own rfl 26 (.tmp 16) (.tmp 49) rfl w2.heap.size #[.string ma, .int .i64 mb, .int .i64 mc] rfl rfl 26 _ (heap_alloc_new w2 _) op_size rfl (one3 _ _ _) w2.heap.size w2 ((Below.refl _ _).alloc (Nat.le_refl _) _) (Nat.le_refl _) ?_; intro w3 hg hb hs)
        replace HB := Lib.hid (HB.out.trans (hb.out.mono HB.out.size))
        replace HL := Lib.hid (HL.out.on hb.out hb.out.size)
        replace HO2 := Lib.hid (HO2.out.on hb.out hb.out.size)
        have X1 := Lib.hid (show Box w3 w2.heap.size (ma, mb, mc) from ⟨by rw [hs.out]; simp, hg.out⟩)
        clear hg hb hs
        refine (HV.out _ _ _ HB.out HO2.out).mono ?_
        rintro e w4 ⟨rfl, hb⟩
        replace HB := Lib.hid (HB.out.trans (hb.mono HB.out.size))
        replace HL := Lib.hid (HL.out.on hb hb.size)
        replace HO2 := Lib.hid (HO2.out.on hb hb.size)
        replace X1 := Lib.hid (X1.out.on hb)
        clear hb
        go_wp2_with fail
        refine (HA.out _ HB.out).mono ?_
        rintro e w5 ⟨rfl, hb⟩
        replace HB := Lib.hid (HB.out.trans (hb.mono HB.out.size))
        replace HL := Lib.hid (HL.out.on hb hb.size)
        replace HO2 := Lib.hid (HO2.out.on hb hb.size)
        replace X1 := Lib.hid (X1.out.on hb)
        clear hb
        go_wp2_with fail
        go_ret
        exact ⟨rfl, HB.out⟩
      have hk3 : k = 1 ∨ k = 2 ∨ k = 3 := by omega
      have HF1' := HF1F.out k hk3
      have HF2' := HF2F.out k hk3
      by_cases hkc : k = d
      · have hkb : (k == d) = true := by rw [beq_iff_eq]; exact hkc
        by_cases hon : other = nm
        · rw [decide_eq_true hon] at hko
          clear hsame hkc hon HF1' HF2' hk3
          go_enter Tryd.func8, Tryd.ntmps8
          go_wp2_with fail
          refine (HST.out _ HB.out HL.out).mono ?_
          rintro e w1 ⟨⟨A2, c2, rfl, ho2⟩, hb⟩
          replace HB := Lib.hid (HB.out.trans (hb.mono HB.out.size))
          replace HL := Lib.hid (HL.out.on hb hb.size)
          have HO2 := Lib.hid ho2
          clear ho2
          clear hb
          go_wp2_with fail
          refine (HC.out _).mono ?_
          rintro e w9 ⟨rfl, rfl⟩
          go_wp2_with fail
          refine (HFM.out _ _ _ HB.out HO2.out).mono ?_
          rintro e w2 ⟨rfl, hb⟩
          replace HB := Lib.hid (HB.out.trans (hb.mono HB.out.size))
          replace HL := Lib.hid (HL.out.on hb hb.size)
          replace HO2 := Lib.hid (HO2.out.on hb hb.size)
          clear hb
          go_wp2_with (refine wpList_store_own rfl 26 (.tmp 16) (.tmp 49) rfl w2.heap.size #[.string ma, .int .i64 mb, .int .i64 mc] rfl rfl 26 _ (heap_alloc_new w2 _) op_size rfl (one3 _ _ _) w2.heap.size w2 ((Below.refl _ _).alloc (Nat.le_refl _) _) (Nat.le_refl _) ?_; intro w3 hg hb hs)
          replace HB := Lib.hid (HB.out.trans (hb.out.mono HB.out.size))
          replace HL := Lib.hid (HL.out.on hb.out hb.out.size)
          replace HO2 := Lib.hid (HO2.out.on hb.out hb.out.size)
          have X1 := Lib.hid (show Box w3 w2.heap.size (ma, mb, mc) from ⟨by rw [hs.out]; simp, hg.out⟩)
          clear hg hb hs
          refine (HV.out _ _ _ HB.out HO2.out).mono ?_
          rintro e w4 ⟨rfl, hb⟩
          replace HB := Lib.hid (HB.out.trans (hb.mono HB.out.size))
          replace HL := Lib.hid (HL.out.on hb hb.size)
          replace HO2 := Lib.hid (HO2.out.on hb hb.size)
          replace X1 := Lib.hid (X1.out.on hb)
          clear hb
          go_wp2_with fail
          refine (HA.out _ HB.out).mono ?_
          rintro e w5 ⟨rfl, hb⟩
          replace HB := Lib.hid (HB.out.trans (hb.mono HB.out.size))
          replace HL := Lib.hid (HL.out.on hb hb.size)
          replace HO2 := Lib.hid (HO2.out.on hb hb.size)
          replace X1 := Lib.hid (X1.out.on hb)
          clear hb
          go_wp2_with fail
          go_ret
          exact ⟨rfl, HB.out⟩
        · rw [decide_eq_false hon] at hko
          have hs2 := hsame fun h => hon h.2
          unfold LookEnd opV at HF1' HF2'
          rw [← hs2.1, ← hs2.2] at HF2'
          obtain ⟨⟨ya, yb, yc⟩, hy⟩ : ∃ x, x = lookE L k other := ⟨_, rfl⟩
          obtain ⟨yv, hyv⟩ : ∃ x, x = lookB L k other := ⟨_, rfl⟩
          rw [← hy, ← hyv] at HF1' HF2'
          have HF1 := Lib.hid HF1'
          have HF2 := Lib.hid HF2'
          have hq := eq_yes ya yb yc
          clear hsame hkc hon hs2 hy hyv HF1' HF2' hk3
          go_enter Tryd.func8, Tryd.ntmps8
          go_wp2_with fail
          refine (HST.out _ HB.out HL.out).mono ?_
          rintro e w1 ⟨⟨A2, c2, rfl, ho2⟩, hb⟩
          replace HB := Lib.hid (HB.out.trans (hb.mono HB.out.size))
          replace HL := Lib.hid (HL.out.on hb hb.size)
          have HO2 := Lib.hid ho2
          clear ho2
          clear hb
          go_wp2_with fail
          refine (HC.out _).mono ?_
          rintro e w9 ⟨rfl, rfl⟩
          go_wp2_with fail
          refine (HFM.out _ _ _ HB.out HO2.out).mono ?_
          rintro e w2 ⟨rfl, hb⟩
          replace HB := Lib.hid (HB.out.trans (hb.mono HB.out.size))
          replace HL := Lib.hid (HL.out.on hb hb.size)
          replace HO2 := Lib.hid (HO2.out.on hb hb.size)
          clear hb
          go_wp2_with (refine wpList_store_own rfl 26 (.tmp 16) (.tmp 49) rfl w2.heap.size #[.string ma, .int .i64 mb, .int .i64 mc] rfl rfl 26 _ (heap_alloc_new w2 _) op_size rfl (one3 _ _ _) w2.heap.size w2 ((Below.refl _ _).alloc (Nat.le_refl _) _) (Nat.le_refl _) ?_; intro w3 hg hb hs)
          replace HB := Lib.hid (HB.out.trans (hb.out.mono HB.out.size))
          replace HL := Lib.hid (HL.out.on hb.out hb.out.size)
          replace HO2 := Lib.hid (HO2.out.on hb.out hb.out.size)
          have X1 := Lib.hid (show Box w3 w2.heap.size (ma, mb, mc) from ⟨by rw [hs.out]; simp, hg.out⟩)
          clear hg hb hs
          refine (HV.out _ _ _ HB.out HO2.out).mono ?_
          rintro e w4 ⟨rfl, hb⟩
          replace HB := Lib.hid (HB.out.trans (hb.mono HB.out.size))
          replace HL := Lib.hid (HL.out.on hb hb.size)
          replace HO2 := Lib.hid (HO2.out.on hb hb.size)
          replace X1 := Lib.hid (X1.out.on hb)
          clear hb
          go_wp2_with fail
          refine (HF1.out _ HB.out HL.out).mono ?_
          rintro e w5 ⟨rfl, hb⟩
          replace HB := Lib.hid (HB.out.trans (hb.mono HB.out.size))
          replace HL := Lib.hid (HL.out.on hb hb.size)
          replace HO2 := Lib.hid (HO2.out.on hb hb.size)
          replace X1 := Lib.hid (X1.out.on hb)
          clear hb
          go_wp2_with (refine wpList_store_own rfl 26 (.tmp 18) (.tmp 93) rfl w5.heap.size #[.string ya, .int .i64 yb, .int .i64 yc] rfl rfl 26 _ (heap_alloc_new w5 _) op_size rfl (one3 _ _ _) w5.heap.size w5 ((Below.refl _ _).alloc (Nat.le_refl _) _) (Nat.le_refl _) ?_; intro w6 hg hb hs)
          replace HB := Lib.hid (HB.out.trans (hb.out.mono HB.out.size))
          replace HL := Lib.hid (HL.out.on hb.out hb.out.size)
          replace HO2 := Lib.hid (HO2.out.on hb.out hb.out.size)
          replace X1 := Lib.hid (X1.out.on hb.out)
          have X2 := Lib.hid (show Box w6 w5.heap.size (ya, yb, yc) from ⟨by rw [hs.out]; simp, hg.out⟩)
          clear hg hb hs
          refine (HF2.out _ _ _ HB.out HO2.out).mono ?_
          rintro e w7 ⟨rfl, hb⟩
          replace HB := Lib.hid (HB.out.trans (hb.mono HB.out.size))
          replace HL := Lib.hid (HL.out.on hb hb.size)
          replace HO2 := Lib.hid (HO2.out.on hb hb.size)
          replace X1 := Lib.hid (X1.out.on hb)
          replace X2 := Lib.hid (X2.out.on hb)
          clear hb
          go_wp2_with (refine wpList_store_own rfl 26 (.tmp 20) (.tmp 100) rfl w7.heap.size #[.string ya, .int .i64 yb, .int .i64 yc] rfl rfl 26 _ (heap_alloc_new w7 _) op_size rfl (one3 _ _ _) w7.heap.size w7 ((Below.refl _ _).alloc (Nat.le_refl _) _) (Nat.le_refl _) ?_; intro w8 hg hb hs; have z0 := cell_heap (i := 0) hg.out rfl; have z1 := cell_heap (i := 1) hg.out rfl; have z2 := cell_heap (i := 2) hg.out rfl; have x20 := (X2.out.on hb.out).c0; simp only at x20; have x21 := (X2.out.on hb.out).c1; simp only at x21; have x22 := (X2.out.on hb.out).c2; simp only at x22)
          replace HB := Lib.hid (HB.out.trans (hb.out.mono HB.out.size))
          replace HL := Lib.hid (HL.out.on hb.out hb.out.size)
          replace HO2 := Lib.hid (HO2.out.on hb.out hb.out.size)
          replace X1 := Lib.hid (X1.out.on hb.out)
          replace X2 := Lib.hid (X2.out.on hb.out)
          have X3 := Lib.hid (show Box w8 w7.heap.size (ya, yb, yc) from ⟨by rw [hs.out]; simp, hg.out⟩)
          clear hg hb hs z0 z1 z2 x20 x21 x22
          refine (HA.out _ HB.out).mono ?_
          rintro e w9 ⟨rfl, hb⟩
          replace HB := Lib.hid (HB.out.trans (hb.mono HB.out.size))
          replace HL := Lib.hid (HL.out.on hb hb.size)
          replace HO2 := Lib.hid (HO2.out.on hb hb.size)
          replace X1 := Lib.hid (X1.out.on hb)
          replace X2 := Lib.hid (X2.out.on hb)
          replace X3 := Lib.hid (X3.out.on hb)
          clear hb
          go_wp2_with fail
          go_ret
          exact ⟨rfl, HB.out⟩
      · have hkb : (k == d) = false := by rw [beq_eq_false_iff_ne]; exact hkc
        have hs2 := hsame fun h => hkc h.1
        unfold LookEnd opV at HF1' HF2'
        rw [← hs2.1, ← hs2.2] at HF2'
        obtain ⟨⟨ya, yb, yc⟩, hy⟩ : ∃ x, x = lookE L k other := ⟨_, rfl⟩
        obtain ⟨yv, hyv⟩ : ∃ x, x = lookB L k other := ⟨_, rfl⟩
        rw [← hy, ← hyv] at HF1' HF2'
        have HF1 := Lib.hid HF1'
        have HF2 := Lib.hid HF2'
        have hq := eq_yes ya yb yc
        clear hsame hkc hko hs2 hy hyv HF1' HF2' hk3
        go_enter Tryd.func8, Tryd.ntmps8
        go_wp2_with fail
        refine (HST.out _ HB.out HL.out).mono ?_
        rintro e w1 ⟨⟨A2, c2, rfl, ho2⟩, hb⟩
        replace HB := Lib.hid (HB.out.trans (hb.mono HB.out.size))
        replace HL := Lib.hid (HL.out.on hb hb.size)
        have HO2 := Lib.hid ho2
        clear ho2
        clear hb
        go_wp2_with fail
        refine (HC.out _).mono ?_
        rintro e w9 ⟨rfl, rfl⟩
        go_wp2_with fail
        refine (HFM.out _ _ _ HB.out HO2.out).mono ?_
        rintro e w2 ⟨rfl, hb⟩
        replace HB := Lib.hid (HB.out.trans (hb.mono HB.out.size))
        replace HL := Lib.hid (HL.out.on hb hb.size)
        replace HO2 := Lib.hid (HO2.out.on hb hb.size)
        clear hb
        go_wp2_with (refine wpList_store_own rfl 26 (.tmp 16) (.tmp 49) rfl w2.heap.size #[.string ma, .int .i64 mb, .int .i64 mc] rfl rfl 26 _ (heap_alloc_new w2 _) op_size rfl (one3 _ _ _) w2.heap.size w2 ((Below.refl _ _).alloc (Nat.le_refl _) _) (Nat.le_refl _) ?_; intro w3 hg hb hs)
        replace HB := Lib.hid (HB.out.trans (hb.out.mono HB.out.size))
        replace HL := Lib.hid (HL.out.on hb.out hb.out.size)
        replace HO2 := Lib.hid (HO2.out.on hb.out hb.out.size)
        have X1 := Lib.hid (show Box w3 w2.heap.size (ma, mb, mc) from ⟨by rw [hs.out]; simp, hg.out⟩)
        clear hg hb hs
        refine (HV.out _ _ _ HB.out HO2.out).mono ?_
        rintro e w4 ⟨rfl, hb⟩
        replace HB := Lib.hid (HB.out.trans (hb.mono HB.out.size))
        replace HL := Lib.hid (HL.out.on hb hb.size)
        replace HO2 := Lib.hid (HO2.out.on hb hb.size)
        replace X1 := Lib.hid (X1.out.on hb)
        clear hb
        go_wp2_with fail
        refine (HF1.out _ HB.out HL.out).mono ?_
        rintro e w5 ⟨rfl, hb⟩
        replace HB := Lib.hid (HB.out.trans (hb.mono HB.out.size))
        replace HL := Lib.hid (HL.out.on hb hb.size)
        replace HO2 := Lib.hid (HO2.out.on hb hb.size)
        replace X1 := Lib.hid (X1.out.on hb)
        clear hb
        go_wp2_with (refine wpList_store_own rfl 26 (.tmp 18) (.tmp 93) rfl w5.heap.size #[.string ya, .int .i64 yb, .int .i64 yc] rfl rfl 26 _ (heap_alloc_new w5 _) op_size rfl (one3 _ _ _) w5.heap.size w5 ((Below.refl _ _).alloc (Nat.le_refl _) _) (Nat.le_refl _) ?_; intro w6 hg hb hs)
        replace HB := Lib.hid (HB.out.trans (hb.out.mono HB.out.size))
        replace HL := Lib.hid (HL.out.on hb.out hb.out.size)
        replace HO2 := Lib.hid (HO2.out.on hb.out hb.out.size)
        replace X1 := Lib.hid (X1.out.on hb.out)
        have X2 := Lib.hid (show Box w6 w5.heap.size (ya, yb, yc) from ⟨by rw [hs.out]; simp, hg.out⟩)
        clear hg hb hs
        refine (HF2.out _ _ _ HB.out HO2.out).mono ?_
        rintro e w7 ⟨rfl, hb⟩
        replace HB := Lib.hid (HB.out.trans (hb.mono HB.out.size))
        replace HL := Lib.hid (HL.out.on hb hb.size)
        replace HO2 := Lib.hid (HO2.out.on hb hb.size)
        replace X1 := Lib.hid (X1.out.on hb)
        replace X2 := Lib.hid (X2.out.on hb)
        clear hb
        go_wp2_with (refine wpList_store_own rfl 26 (.tmp 20) (.tmp 100) rfl w7.heap.size #[.string ya, .int .i64 yb, .int .i64 yc] rfl rfl 26 _ (heap_alloc_new w7 _) op_size rfl (one3 _ _ _) w7.heap.size w7 ((Below.refl _ _).alloc (Nat.le_refl _) _) (Nat.le_refl _) ?_; intro w8 hg hb hs; have z0 := cell_heap (i := 0) hg.out rfl; have z1 := cell_heap (i := 1) hg.out rfl; have z2 := cell_heap (i := 2) hg.out rfl; have x20 := (X2.out.on hb.out).c0; simp only at x20; have x21 := (X2.out.on hb.out).c1; simp only at x21; have x22 := (X2.out.on hb.out).c2; simp only at x22)
        replace HB := Lib.hid (HB.out.trans (hb.out.mono HB.out.size))
        replace HL := Lib.hid (HL.out.on hb.out hb.out.size)
        replace HO2 := Lib.hid (HO2.out.on hb.out hb.out.size)
        replace X1 := Lib.hid (X1.out.on hb.out)
        replace X2 := Lib.hid (X2.out.on hb.out)
        have X3 := Lib.hid (show Box w8 w7.heap.size (ya, yb, yc) from ⟨by rw [hs.out]; simp, hg.out⟩)
        clear hg hb hs z0 z1 z2 x20 x21 x22
        refine (HA.out _ HB.out).mono ?_
        rintro e w9 ⟨rfl, hb⟩
        replace HB := Lib.hid (HB.out.trans (hb.mono HB.out.size))
        replace HL := Lib.hid (HL.out.on hb hb.size)
        replace HO2 := Lib.hid (HO2.out.on hb hb.size)
        replace X1 := Lib.hid (X1.out.on hb)
        replace X2 := Lib.hid (X2.out.on hb)
        replace X3 := Lib.hid (X3.out.on hb)
        clear hb
        go_wp2_with fail
        go_ret
        exact ⟨rfl, HB.out⟩
  · obtain ⟨z, hz⟩ : ∃ z, z = errM L p t nm := ⟨_, rfl⟩
    have hr : resM L p t nm = [] := by unfold resM; rw [if_neg herr]
    rw [hr] at hST
    rw [← hz] at hST herr
    have hzb : (z == 0) = false := by rw [beq_eq_false_iff_ne]; exact herr
    have hzn : (z != 0) = true := by rw [bne_iff_ne]; exact herr
    have HST := Lib.hid hST
    clear hST herr hz hr h hT
    go_enter Tryd.func8, Tryd.ntmps8
    go_wp2_with fail
    refine (HST.out _ HB.out HL.out).mono ?_
    rintro e w1 ⟨⟨A2, c2, rfl, ho2⟩, hb⟩
    replace HB := Lib.hid (HB.out.trans (hb.mono HB.out.size))
    replace HL := Lib.hid (HL.out.on hb hb.size)
    clear ho2
    clear hb
    go_wp2_with fail
    refine (HA.out _ HB.out).mono ?_
    rintro e w2 ⟨rfl, hb⟩
    replace HB := Lib.hid (HB.out.trans (hb.mono HB.out.size))
    replace HL := Lib.hid (HL.out.on hb hb.size)
    clear hb
    go_wp2_with fail
    go_ret
    exact ⟨rfl, HB.out⟩

theorem walk_changes (A : Option Addr) (n cap : Nat) (p t : Int) (nm other : ByteArray) (k : Int) (L : List Ent) (w : World) (hm : n ≤ 9223372036854775807) (h : OpsIn w w.heap.size A n L) (hT : Tabs w) :
    Calls Tryd.prog 8 #[.slice A n cap, .int .i64 p, .int .i64 t, .string nm, .string other, .int .i64 k] w fun e w' => e = .returned (.bool true) ∧ Below w.heap.size w w' := by
  by_cases hn : 300 < n
  · exact changes_long A n cap p t nm other k w hn hm hT
  · have hl := h.len
    subst hl
    exact changes_short A cap p t nm other k L w (by omega) hT h
end Go.Proofs.YtgbfkchjcjdnnaaDoor
