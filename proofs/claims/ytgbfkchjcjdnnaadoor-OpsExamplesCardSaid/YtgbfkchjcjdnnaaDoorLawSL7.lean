/-
  The walks of OpsSets and OpsLookups: they return true.
-/
import Derived.Test.YtgbfkchjcjdnnaaDoorLawDT7
namespace Go.Proofs.YtgbfkchjcjdnnaaDoor
set_option linter.unusedVariables false
set_option linter.unusedSimpArgs false
open Go.RowKit Q

/-- An operator in a block of its own. -/
def Box (w : World) (g : Nat) (e : Ent) : Prop := g < w.heap.size ∧ w.heap[g]? = some (.cells #[.string e.1, .int .i64 e.2.1, .int .i64 e.2.2] 26 (0, 0))
theorem Box.on {w w' : World} {g : Nat} {e : Ent} (h : Box w g e) (hb : Below w.heap.size w w') : Box w' g e := ⟨Nat.lt_of_lt_of_le h.1 hb.size, (hb.block g h.1).trans h.2⟩
theorem Box.c0 {w : World} {g : Nat} {e : Ent} (h : Box w g e) : w.cell? ⟨g, 0, none⟩ = some (.string e.1) := cell_heap h.2 rfl
theorem Box.c1 {w : World} {g : Nat} {e : Ent} (h : Box w g e) : w.cell? ⟨g, 1, none⟩ = some (.int .i64 e.2.1) := cell_heap h.2 rfl
theorem Box.c2 {w : World} {g : Nat} {e : Ent} (h : Box w g e) : w.cell? ⟨g, 2, none⟩ = some (.int .i64 e.2.2) := cell_heap h.2 rfl
theorem eq_yes (s : ByteArray) (t p : Int) (w : World) : (binOp .eql 26 (.agg #[.string s, .int .i64 t, .int .i64 p]) (.agg #[.string s, .int .i64 t, .int .i64 p])).run Tryd.prog w = .ok (.bool true) w := by
  rw [eq_op, decide_eq_true rfl]
theorem hAwake {w : World} (hT : Tabs w) : ∀ W : World, Below w.heap.size w W → Calls Tryd.prog 11 #[] W fun e w' => e = .returned (.bool true) ∧ Below W.heap.size W w' := fun W hW => awake_true W (hT.below hW)
theorem hSame (L : List Ent) (hl : L.length ≤ 1000) : ∀ (A A' : Option Addr) (c c' : Nat) (W : World), OpsIn W W.heap.size A L.length L → OpsIn W W.heap.size A' L.length L → Calls Tryd.prog 21 #[.slice A L.length c, .slice A' L.length c'] W fun e w' => e = .returned (.bool true) ∧ Below W.heap.size W w' := fun A A' c c' W h h' => by
  have := same_any A A' L.length L.length c c' L L W hl hl h h'
  rwa [show sameB L L = true from decide_eq_true rfl] at this
theorem res_len (L : List Ent) (p t : Int) (nm : ByteArray) : (resM L p t nm).length ≤ 1000 := by
  unfold resM
  split
  · rename_i h
    unfold errM at h
    cases h1 : argB L p t nm
    · rw [h1] at h; cases h
    · rw [h1] at h
      cases h2 : mayB L p (cls t) nm
      · rw [h2] at h; cases h
      · rw [h2] at h
        cases h3 : fullB L p (cls t) nm
        · have hg := goodB_iff.1 (argB_yes h1).1
          rw [full_iff hg.sorted hg.1] at h3
          have := of_decide_eq_false h3
          omega
        · rw [h3] at h; cases h
  · exact Nat.zero_le _

theorem sets_long (A : Option Addr) (n cap : Nat) (p t : Int) (nm : ByteArray) (w : World) (hn : 300 < n) (hm : n ≤ 9223372036854775807) (hT : Tabs w) :
    Calls Tryd.prog 6 #[.slice A n cap, .int .i64 p, .int .i64 t, .string nm] w fun e w' => e = .returned (.bool true) ∧ Below w.heap.size w w' := by
  have HA := Lib.hid (awake_true w hT)
  clear hT
  go_enter Tryd.func6, Tryd.ntmps6
  go_wp2_with fail
  refine HA.out.mono ?_
  rintro e w1 ⟨rfl, hb1⟩
  go_wp2_with fail
  go_ret
  exact ⟨rfl, hb1⟩

set_option maxHeartbeats 4000000 in
theorem sets_short (A : Option Addr) (cap : Nat) (p t : Int) (nm : ByteArray) (L : List Ent) (w : World) (hn : L.length ≤ 300) (hA : A = none → L.length = 0 ∧ cap = 0) (hT : Tabs w) (h : OpsIn w w.heap.size A L.length L) :
    Calls Tryd.prog 6 #[.slice A L.length cap, .int .i64 p, .int .i64 t, .string nm] w fun e w' => e = .returned (.bool true) ∧ Below w.heap.size w w' := by
  have HCL := Lib.hid (fun (W : World) (hW : Below w.heap.size w W) (ho : OpsIn W W.heap.size A L.length L) => clone_any A L.length cap L W (by omega) hA ho)
  have HST := Lib.hid (fun (A1 : Option Addr) (c1 : Nat) (W : World) (hW : Below w.heap.size w W) (ho : OpsIn W W.heap.size A1 L.length L) => set_any A1 L.length c1 p t nm L W (hT.below hW) (by omega) ho)
  have HRS := Lib.hid (fun (W : World) (hW : Below w.heap.size w W) (ho : OpsIn W W.heap.size A L.length L) => rset_any A L.length cap p t nm L W (by omega) ho)
  have HS1 := hSame (resM L p t nm) (res_len L p t nm)
  have HS2 := Lib.hid (hSame L (by omega))
  have HA := Lib.hid (hAwake hT)
  have HB := Lib.hid (Below.refl w.heap.size w)
  have HL := Lib.hid h
  unfold ResEnd at HST HRS
  generalize resM L p t nm = R at *
  generalize errM L p t nm = z at *
  have HS1 := Lib.hid HS1
  clear hT h hA
  go_enter Tryd.func6, Tryd.ntmps6
  go_wp2_with fail
  refine (HCL.out _ HB.out HL.out).mono ?_
  rintro e w1 ⟨⟨A1, c1, rfl, hc1, ho1⟩, hb⟩
  replace HB := Lib.hid (HB.out.trans (hb.mono HB.out.size))
  replace HL := Lib.hid (HL.out.on hb hb.size)
  have HO1 := Lib.hid ho1
  clear ho1
  clear hb
  go_wp2_with fail
  refine (HST.out _ _ _ HB.out HO1.out).mono ?_
  rintro e w2 ⟨⟨A2, c2, rfl, ho2⟩, hb⟩
  replace HB := Lib.hid (HB.out.trans (hb.mono HB.out.size))
  replace HL := Lib.hid (HL.out.on hb hb.size)
  replace HO1 := Lib.hid (HO1.out.on hb hb.size)
  have HO2 := Lib.hid ho2
  clear ho2
  clear hb
  go_wp2_with fail
  refine (HRS.out _ HB.out HL.out).mono ?_
  rintro e w3 ⟨⟨A3, c3, rfl, ho3⟩, hb⟩
  replace HB := Lib.hid (HB.out.trans (hb.mono HB.out.size))
  replace HL := Lib.hid (HL.out.on hb hb.size)
  replace HO1 := Lib.hid (HO1.out.on hb hb.size)
  replace HO2 := Lib.hid (HO2.out.on hb hb.size)
  have HO3 := Lib.hid ho3
  clear ho3
  clear hb
  go_wp2_with fail
  refine (HS1.out _ _ _ _ _ HO2.out HO3.out).mono ?_
  rintro e w4 ⟨rfl, hb⟩
  replace HB := Lib.hid (HB.out.trans (hb.mono HB.out.size))
  replace HL := Lib.hid (HL.out.on hb hb.size)
  replace HO1 := Lib.hid (HO1.out.on hb hb.size)
  replace HO2 := Lib.hid (HO2.out.on hb hb.size)
  replace HO3 := Lib.hid (HO3.out.on hb hb.size)
  clear hb
  go_wp2_with fail
  refine (HS2.out _ _ _ _ _ HO1.out HL.out).mono ?_
  rintro e w5 ⟨rfl, hb⟩
  replace HB := Lib.hid (HB.out.trans (hb.mono HB.out.size))
  replace HL := Lib.hid (HL.out.on hb hb.size)
  replace HO1 := Lib.hid (HO1.out.on hb hb.size)
  replace HO2 := Lib.hid (HO2.out.on hb hb.size)
  replace HO3 := Lib.hid (HO3.out.on hb hb.size)
  clear hb
  go_wp2_with fail
  refine (HA.out _ HB.out).mono ?_
  rintro e w6 ⟨rfl, hb⟩
  replace HB := Lib.hid (HB.out.trans (hb.mono HB.out.size))
  replace HL := Lib.hid (HL.out.on hb hb.size)
  replace HO1 := Lib.hid (HO1.out.on hb hb.size)
  replace HO2 := Lib.hid (HO2.out.on hb hb.size)
  replace HO3 := Lib.hid (HO3.out.on hb hb.size)
  clear hb
  go_wp2_with fail
  go_ret
  exact ⟨rfl, HB.out⟩

theorem walk_sets (A : Option Addr) (n cap : Nat) (p t : Int) (nm : ByteArray) (L : List Ent) (w : World) (hA : A = none → n = 0 ∧ cap = 0) (hm : n ≤ 9223372036854775807) (h : OpsIn w w.heap.size A n L) (hT : Tabs w) :
    Calls Tryd.prog 6 #[.slice A n cap, .int .i64 p, .int .i64 t, .string nm] w fun e w' => e = .returned (.bool true) ∧ Below w.heap.size w w' := by
  by_cases hn : 300 < n
  · exact sets_long A n cap p t nm w hn hm hT
  · have hl := h.len
    subst hl
    exact sets_short A cap p t nm L w (by omega) hA hT h

theorem lookups_long (A : Option Addr) (n cap : Nat) (nm : ByteArray) (w : World) (hn : 300 < n) (hm : n ≤ 9223372036854775807) (hT : Tabs w) :
    Calls Tryd.prog 5 #[.slice A n cap, .string nm] w fun e w' => e = .returned (.bool true) ∧ Below w.heap.size w w' := by
  have HA := Lib.hid (awake_true w hT)
  clear hT
  go_enter Tryd.func5, Tryd.ntmps5
  go_wp2_with fail
  refine HA.out.mono ?_
  rintro e w1 ⟨rfl, hb1⟩
  go_wp2_with fail
  go_ret
  exact ⟨rfl, hb1⟩

theorem is_same {L : List Ent} (nm : ByteArray) : (goodB L && nameIn L nm) = (lookB L 1 nm || lookB L 2 nm || lookB L 3 nm) := by
  have hb : ∀ c, lookB L c nm = (goodB L && L.any fun e => isB c nm e) := fun c => by
    unfold lookB lookM findM
    cases goodB L
    · rfl
    · rw [if_pos rfl, Bool.true_and, Bool.eq_iff_iff, List.find?_isSome, List.any_eq_true]
  rw [hb, hb, hb]
  cases hg : goodB L
  · rfl
  · simp only [Bool.true_and]
    rw [Bool.eq_iff_iff, Bool.or_eq_true, Bool.or_eq_true, List.any_eq_true, List.any_eq_true, List.any_eq_true]
    unfold nameIn
    rw [List.any_eq_true]
    constructor
    · rintro ⟨e, he, hn⟩
      obtain ⟨j, hj, rfl⟩ := List.getElem_of_mem he
      have hk := ((goodB_iff.1 hg).2 j hj).1
      rw [ent_at hj] at hk
      have hcl := okE_cls hk
      have hn' := of_decide_eq_true hn
      rcases cls_range (L[j]).2.1 with h0 | h0 | h0 | h0
      · exact absurd h0 hcl
      · exact .inl (.inl ⟨_, he, by unfold isB; rw [decide_eq_true h0, hn]; rfl⟩)
      · exact .inl (.inr ⟨_, he, by unfold isB; rw [decide_eq_true h0, hn]; rfl⟩)
      · exact .inr ⟨_, he, by unfold isB; rw [decide_eq_true h0, hn]; rfl⟩
    · rintro ((⟨e, he, hi⟩ | ⟨e, he, hi⟩) | ⟨e, he, hi⟩) <;>
        (unfold isB at hi; simp only [Bool.and_eq_true] at hi; exact ⟨e, he, hi.2⟩)

set_option maxHeartbeats 8000000 in
theorem lookups_short (A : Option Addr) (cap : Nat) (nm : ByteArray) (L : List Ent) (w : World) (hn : L.length ≤ 300) (hA : A = none → L.length = 0 ∧ cap = 0) (hT : Tabs w) (h : OpsIn w w.heap.size A L.length L) :
    Calls Tryd.prog 5 #[.slice A L.length cap, .string nm] w fun e w' => e = .returned (.bool true) ∧ Below w.heap.size w w' := by
  have HCL := Lib.hid (fun (W : World) (hW : Below w.heap.size w W) (ho : OpsIn W W.heap.size A L.length L) => clone_any A L.length cap L W (by omega) hA ho)
  have hI := fun (A1 : Option Addr) (c1 : Nat) (W : World) (hW : Below w.heap.size w W) (ho : OpsIn W W.heap.size A1 L.length L) => is_any A1 L.length c1 nm L W (hT.below hW) (by omega) ho
  have hRI := fun (W : World) (hW : Below w.heap.size w W) (ho : OpsIn W W.heap.size A L.length L) => ris_any A L.length cap nm L W (by omega) ho
  have hV := fun (A1 : Option Addr) (c1 : Nat) (W : World) (hW : Below w.heap.size w W) (ho : OpsIn W W.heap.size A1 L.length L) => valid_any A1 L.length c1 L W (hT.below hW) (by omega) ho
  have hRV := fun (W : World) (hW : Below w.heap.size w W) (ho : OpsIn W W.heap.size A L.length L) => rvalid_any A L.length cap L W (by omega) ho
  rw [is_same] at hI
  generalize (lookB L 1 nm || lookB L 2 nm || lookB L 3 nm) = vi at hI hRI
  generalize goodB L = vg at hV hRV
  have hF1 := fun (A1 : Option Addr) (c1 : Nat) (W : World) (hW : Below w.heap.size w W) (ho : OpsIn W W.heap.size A1 L.length L) => prefix_any A1 L.length c1 nm L W (hT.below hW) (by omega) ho
  have hR1 := fun (W : World) (hW : Below w.heap.size w W) (ho : OpsIn W W.heap.size A L.length L) => rfind_any A L.length cap 1 nm L W (by omega) ho
  unfold LookEnd opV at hF1 hR1
  have hF2 := fun (A1 : Option Addr) (c1 : Nat) (W : World) (hW : Below w.heap.size w W) (ho : OpsIn W W.heap.size A1 L.length L) => infix_any A1 L.length c1 nm L W (hT.below hW) (by omega) ho
  have hR2 := fun (W : World) (hW : Below w.heap.size w W) (ho : OpsIn W W.heap.size A L.length L) => rfind_any A L.length cap 2 nm L W (by omega) ho
  unfold LookEnd opV at hF2 hR2
  have hF3 := fun (A1 : Option Addr) (c1 : Nat) (W : World) (hW : Below w.heap.size w W) (ho : OpsIn W W.heap.size A1 L.length L) => postfix_any A1 L.length c1 nm L W (hT.below hW) (by omega) ho
  have hR3 := fun (W : World) (hW : Below w.heap.size w W) (ho : OpsIn W W.heap.size A L.length L) => rfind_any A L.length cap 3 nm L W (by omega) ho
  unfold LookEnd opV at hF3 hR3
  obtain ⟨⟨xa1, xb1, xc1⟩, he1⟩ : ∃ x, x = lookE L 1 nm := ⟨_, rfl⟩
  obtain ⟨v1, hv1⟩ : ∃ v, v = lookB L 1 nm := ⟨_, rfl⟩
  rw [← he1] at hF1 hR1
  rw [← hv1] at hF1 hR1
  have q1 := eq_yes xa1 xb1 xc1
  obtain ⟨⟨xa2, xb2, xc2⟩, he2⟩ : ∃ x, x = lookE L 2 nm := ⟨_, rfl⟩
  obtain ⟨v2, hv2⟩ : ∃ v, v = lookB L 2 nm := ⟨_, rfl⟩
  rw [← he2] at hF2 hR2
  rw [← hv2] at hF2 hR2
  have q2 := eq_yes xa2 xb2 xc2
  obtain ⟨⟨xa3, xb3, xc3⟩, he3⟩ : ∃ x, x = lookE L 3 nm := ⟨_, rfl⟩
  obtain ⟨v3, hv3⟩ : ∃ v, v = lookB L 3 nm := ⟨_, rfl⟩
  rw [← he3] at hF3 hR3
  rw [← hv3] at hF3 hR3
  have q3 := eq_yes xa3 xb3 xc3
  have HS2 := Lib.hid (hSame L (by omega))
  have HA := Lib.hid (hAwake hT)
  have HB := Lib.hid (Below.refl w.heap.size w)
  have HL := Lib.hid h
  have HI := Lib.hid hI
  have HRI := Lib.hid hRI
  have HV := Lib.hid hV
  have HRV := Lib.hid hRV
  have HF1 := Lib.hid hF1
  have HF2 := Lib.hid hF2
  have HF3 := Lib.hid hF3
  have HR1 := Lib.hid hR1
  have HR2 := Lib.hid hR2
  have HR3 := Lib.hid hR3
  have hgu := guardOff
  clear hT h hA hI hRI hV hRV hF1 hF2 hF3 hR1 hR2 hR3 he1 he2 he3 hv1 hv2 hv3
  go_enter Tryd.func5, Tryd.ntmps5
  go_wp2_with fail
  refine (HCL.out _ HB.out HL.out).mono ?_
  rintro e w1 ⟨⟨A1, c1, rfl, hc1, ho1⟩, hb⟩
  replace HB := Lib.hid (HB.out.trans (hb.mono HB.out.size))
  replace HL := Lib.hid (HL.out.on hb hb.size)
  have HO1 := Lib.hid ho1
  clear ho1
  clear hb
  go_wp2_with fail
  refine (HF1.out _ _ _ HB.out HO1.out).mono ?_
  rintro e w2 ⟨rfl, hb⟩
  replace HB := Lib.hid (HB.out.trans (hb.mono HB.out.size))
  replace HL := Lib.hid (HL.out.on hb hb.size)
  replace HO1 := Lib.hid (HO1.out.on hb hb.size)
  clear hb
  go_wp2_with (refine wpList_store_own rfl 26 (.tmp 6) (.tmp 28) rfl w2.heap.size #[.string xa1, .int .i64 xb1, .int .i64 xc1] rfl rfl 26 _ (heap_alloc_new w2 _) op_size rfl (one3 _ _ _) w2.heap.size w2 ((Below.refl _ _).alloc (Nat.le_refl _) _) (Nat.le_refl _) ?_; intro w3 hg hb hs)
  replace HB := Lib.hid (HB.out.trans (hb.out.mono HB.out.size))
  replace HL := Lib.hid (HL.out.on hb.out hb.out.size)
  replace HO1 := Lib.hid (HO1.out.on hb.out hb.out.size)
  have X1 := Lib.hid (show Box w3 w2.heap.size (xa1, xb1, xc1) from ⟨by rw [hs.out]; simp, hg.out⟩)
  clear hg hb hs
  refine (HF2.out _ _ _ HB.out HO1.out).mono ?_
  rintro e w4 ⟨rfl, hb⟩
  replace HB := Lib.hid (HB.out.trans (hb.mono HB.out.size))
  replace HL := Lib.hid (HL.out.on hb hb.size)
  replace HO1 := Lib.hid (HO1.out.on hb hb.size)
  replace X1 := Lib.hid (X1.out.on hb)
  clear hb
  go_wp2_with (refine wpList_store_own rfl 26 (.tmp 8) (.tmp 34) rfl w4.heap.size #[.string xa2, .int .i64 xb2, .int .i64 xc2] rfl rfl 26 _ (heap_alloc_new w4 _) op_size rfl (one3 _ _ _) w4.heap.size w4 ((Below.refl _ _).alloc (Nat.le_refl _) _) (Nat.le_refl _) ?_; intro w5 hg hb hs)
  replace HB := Lib.hid (HB.out.trans (hb.out.mono HB.out.size))
  replace HL := Lib.hid (HL.out.on hb.out hb.out.size)
  replace HO1 := Lib.hid (HO1.out.on hb.out hb.out.size)
  replace X1 := Lib.hid (X1.out.on hb.out)
  have X2 := Lib.hid (show Box w5 w4.heap.size (xa2, xb2, xc2) from ⟨by rw [hs.out]; simp, hg.out⟩)
  clear hg hb hs
  refine (HF3.out _ _ _ HB.out HO1.out).mono ?_
  rintro e w6 ⟨rfl, hb⟩
  replace HB := Lib.hid (HB.out.trans (hb.mono HB.out.size))
  replace HL := Lib.hid (HL.out.on hb hb.size)
  replace HO1 := Lib.hid (HO1.out.on hb hb.size)
  replace X1 := Lib.hid (X1.out.on hb)
  replace X2 := Lib.hid (X2.out.on hb)
  clear hb
  go_wp2_with (refine wpList_store_own rfl 26 (.tmp 10) (.tmp 40) rfl w6.heap.size #[.string xa3, .int .i64 xb3, .int .i64 xc3] rfl rfl 26 _ (heap_alloc_new w6 _) op_size rfl (one3 _ _ _) w6.heap.size w6 ((Below.refl _ _).alloc (Nat.le_refl _) _) (Nat.le_refl _) ?_; intro w7 hg hb hs)
  replace HB := Lib.hid (HB.out.trans (hb.out.mono HB.out.size))
  replace HL := Lib.hid (HL.out.on hb.out hb.out.size)
  replace HO1 := Lib.hid (HO1.out.on hb.out hb.out.size)
  replace X1 := Lib.hid (X1.out.on hb.out)
  replace X2 := Lib.hid (X2.out.on hb.out)
  have X3 := Lib.hid (show Box w7 w6.heap.size (xa3, xb3, xc3) from ⟨by rw [hs.out]; simp, hg.out⟩)
  clear hg hb hs
  refine (HR1.out _ HB.out HL.out).mono ?_
  rintro e w8 ⟨rfl, hb⟩
  replace HB := Lib.hid (HB.out.trans (hb.mono HB.out.size))
  replace HL := Lib.hid (HL.out.on hb hb.size)
  replace HO1 := Lib.hid (HO1.out.on hb hb.size)
  replace X1 := Lib.hid (X1.out.on hb)
  replace X2 := Lib.hid (X2.out.on hb)
  replace X3 := Lib.hid (X3.out.on hb)
  clear hb
  go_wp2_with (refine wpList_store_own rfl 26 (.tmp 12) (.tmp 46) rfl w8.heap.size #[.string xa1, .int .i64 xb1, .int .i64 xc1] rfl rfl 26 _ (heap_alloc_new w8 _) op_size rfl (one3 _ _ _) w8.heap.size w8 ((Below.refl _ _).alloc (Nat.le_refl _) _) (Nat.le_refl _) ?_; intro w9 hg hb hs)
  replace HB := Lib.hid (HB.out.trans (hb.out.mono HB.out.size))
  replace HL := Lib.hid (HL.out.on hb.out hb.out.size)
  replace HO1 := Lib.hid (HO1.out.on hb.out hb.out.size)
  replace X1 := Lib.hid (X1.out.on hb.out)
  replace X2 := Lib.hid (X2.out.on hb.out)
  replace X3 := Lib.hid (X3.out.on hb.out)
  have Y1 := Lib.hid (show Box w9 w8.heap.size (xa1, xb1, xc1) from ⟨by rw [hs.out]; simp, hg.out⟩)
  clear hg hb hs
  refine (HR2.out _ HB.out HL.out).mono ?_
  rintro e w10 ⟨rfl, hb⟩
  replace HB := Lib.hid (HB.out.trans (hb.mono HB.out.size))
  replace HL := Lib.hid (HL.out.on hb hb.size)
  replace HO1 := Lib.hid (HO1.out.on hb hb.size)
  replace X1 := Lib.hid (X1.out.on hb)
  replace X2 := Lib.hid (X2.out.on hb)
  replace X3 := Lib.hid (X3.out.on hb)
  replace Y1 := Lib.hid (Y1.out.on hb)
  clear hb
  go_wp2_with (refine wpList_store_own rfl 26 (.tmp 14) (.tmp 52) rfl w10.heap.size #[.string xa2, .int .i64 xb2, .int .i64 xc2] rfl rfl 26 _ (heap_alloc_new w10 _) op_size rfl (one3 _ _ _) w10.heap.size w10 ((Below.refl _ _).alloc (Nat.le_refl _) _) (Nat.le_refl _) ?_; intro w11 hg hb hs)
  replace HB := Lib.hid (HB.out.trans (hb.out.mono HB.out.size))
  replace HL := Lib.hid (HL.out.on hb.out hb.out.size)
  replace HO1 := Lib.hid (HO1.out.on hb.out hb.out.size)
  replace X1 := Lib.hid (X1.out.on hb.out)
  replace X2 := Lib.hid (X2.out.on hb.out)
  replace X3 := Lib.hid (X3.out.on hb.out)
  replace Y1 := Lib.hid (Y1.out.on hb.out)
  have Y2 := Lib.hid (show Box w11 w10.heap.size (xa2, xb2, xc2) from ⟨by rw [hs.out]; simp, hg.out⟩)
  clear hg hb hs
  refine (HR3.out _ HB.out HL.out).mono ?_
  rintro e w12 ⟨rfl, hb⟩
  replace HB := Lib.hid (HB.out.trans (hb.mono HB.out.size))
  replace HL := Lib.hid (HL.out.on hb hb.size)
  replace HO1 := Lib.hid (HO1.out.on hb hb.size)
  replace X1 := Lib.hid (X1.out.on hb)
  replace X2 := Lib.hid (X2.out.on hb)
  replace X3 := Lib.hid (X3.out.on hb)
  replace Y1 := Lib.hid (Y1.out.on hb)
  replace Y2 := Lib.hid (Y2.out.on hb)
  clear hb
  go_wp2_with (refine wpList_store_own rfl 26 (.tmp 16) (.tmp 58) rfl w12.heap.size #[.string xa3, .int .i64 xb3, .int .i64 xc3] rfl rfl 26 _ (heap_alloc_new w12 _) op_size rfl (one3 _ _ _) w12.heap.size w12 ((Below.refl _ _).alloc (Nat.le_refl _) _) (Nat.le_refl _) ?_; intro w13 hg hb hs)
  replace HB := Lib.hid (HB.out.trans (hb.out.mono HB.out.size))
  replace HL := Lib.hid (HL.out.on hb.out hb.out.size)
  replace HO1 := Lib.hid (HO1.out.on hb.out hb.out.size)
  replace X1 := Lib.hid (X1.out.on hb.out)
  replace X2 := Lib.hid (X2.out.on hb.out)
  replace X3 := Lib.hid (X3.out.on hb.out)
  replace Y1 := Lib.hid (Y1.out.on hb.out)
  replace Y2 := Lib.hid (Y2.out.on hb.out)
  have Y3 := Lib.hid (show Box w13 w12.heap.size (xa3, xb3, xc3) from ⟨by rw [hs.out]; simp, hg.out⟩)
  clear hg hb hs
  refine (HV.out _ _ _ HB.out HO1.out).mono ?_
  rintro e w14 ⟨rfl, hb⟩
  replace HB := Lib.hid (HB.out.trans (hb.mono HB.out.size))
  replace HL := Lib.hid (HL.out.on hb hb.size)
  replace HO1 := Lib.hid (HO1.out.on hb hb.size)
  replace X1 := Lib.hid (X1.out.on hb)
  replace X2 := Lib.hid (X2.out.on hb)
  replace X3 := Lib.hid (X3.out.on hb)
  replace Y1 := Lib.hid (Y1.out.on hb)
  replace Y2 := Lib.hid (Y2.out.on hb)
  replace Y3 := Lib.hid (Y3.out.on hb)
  clear hb
  go_wp2_with fail
  refine (HRV.out _ HB.out HL.out).mono ?_
  rintro e w15 ⟨rfl, hb⟩
  replace HB := Lib.hid (HB.out.trans (hb.mono HB.out.size))
  replace HL := Lib.hid (HL.out.on hb hb.size)
  replace HO1 := Lib.hid (HO1.out.on hb hb.size)
  replace X1 := Lib.hid (X1.out.on hb)
  replace X2 := Lib.hid (X2.out.on hb)
  replace X3 := Lib.hid (X3.out.on hb)
  replace Y1 := Lib.hid (Y1.out.on hb)
  replace Y2 := Lib.hid (Y2.out.on hb)
  replace Y3 := Lib.hid (Y3.out.on hb)
  clear hb
  go_wp2_with fail
  refine (HI.out _ _ _ HB.out HO1.out).mono ?_
  rintro e w16 ⟨rfl, hb⟩
  replace HB := Lib.hid (HB.out.trans (hb.mono HB.out.size))
  replace HL := Lib.hid (HL.out.on hb hb.size)
  replace HO1 := Lib.hid (HO1.out.on hb hb.size)
  replace X1 := Lib.hid (X1.out.on hb)
  replace X2 := Lib.hid (X2.out.on hb)
  replace X3 := Lib.hid (X3.out.on hb)
  replace Y1 := Lib.hid (Y1.out.on hb)
  replace Y2 := Lib.hid (Y2.out.on hb)
  replace Y3 := Lib.hid (Y3.out.on hb)
  clear hb
  go_wp2_with fail
  refine (HRI.out _ HB.out HL.out).mono ?_
  rintro e w17 ⟨rfl, hb⟩
  replace HB := Lib.hid (HB.out.trans (hb.mono HB.out.size))
  replace HL := Lib.hid (HL.out.on hb hb.size)
  replace HO1 := Lib.hid (HO1.out.on hb hb.size)
  replace X1 := Lib.hid (X1.out.on hb)
  replace X2 := Lib.hid (X2.out.on hb)
  replace X3 := Lib.hid (X3.out.on hb)
  replace Y1 := Lib.hid (Y1.out.on hb)
  replace Y2 := Lib.hid (Y2.out.on hb)
  replace Y3 := Lib.hid (Y3.out.on hb)
  clear hb
  have x10 := X1.out.c0
  have x11 := X1.out.c1
  have x12 := X1.out.c2
  have x20 := X2.out.c0
  have x21 := X2.out.c1
  have x22 := X2.out.c2
  have x30 := X3.out.c0
  have x31 := X3.out.c1
  have x32 := X3.out.c2
  have y10 := Y1.out.c0
  have y11 := Y1.out.c1
  have y12 := Y1.out.c2
  have y20 := Y2.out.c0
  have y21 := Y2.out.c1
  have y22 := Y2.out.c2
  have y30 := Y3.out.c0
  have y31 := Y3.out.c1
  have y32 := Y3.out.c2
  simp only at x10 x11 x12 x20 x21 x22 x30 x31 x32 y10 y11 y12 y20 y21 y22 y30 y31 y32
  go_wp2_with fail
  clear x10 x11 x12 x20 x21 x22 x30 x31 x32 y10 y11 y12 y20 y21 y22 y30 y31 y32
  refine (HS2.out _ _ _ _ _ HO1.out HL.out).mono ?_
  rintro e w18 ⟨rfl, hb⟩
  replace HB := Lib.hid (HB.out.trans (hb.mono HB.out.size))
  replace HL := Lib.hid (HL.out.on hb hb.size)
  replace HO1 := Lib.hid (HO1.out.on hb hb.size)
  replace X1 := Lib.hid (X1.out.on hb)
  replace X2 := Lib.hid (X2.out.on hb)
  replace X3 := Lib.hid (X3.out.on hb)
  replace Y1 := Lib.hid (Y1.out.on hb)
  replace Y2 := Lib.hid (Y2.out.on hb)
  replace Y3 := Lib.hid (Y3.out.on hb)
  clear hb
  go_wp2_with fail
  refine (HA.out _ HB.out).mono ?_
  rintro e w19 ⟨rfl, hb⟩
  replace HB := Lib.hid (HB.out.trans (hb.mono HB.out.size))
  replace HL := Lib.hid (HL.out.on hb hb.size)
  replace HO1 := Lib.hid (HO1.out.on hb hb.size)
  replace X1 := Lib.hid (X1.out.on hb)
  replace X2 := Lib.hid (X2.out.on hb)
  replace X3 := Lib.hid (X3.out.on hb)
  replace Y1 := Lib.hid (Y1.out.on hb)
  replace Y2 := Lib.hid (Y2.out.on hb)
  replace Y3 := Lib.hid (Y3.out.on hb)
  clear hb
  go_wp2_with fail
  go_ret
  exact ⟨rfl, HB.out⟩

theorem walk_lookups (A : Option Addr) (n cap : Nat) (nm : ByteArray) (L : List Ent) (w : World) (hA : A = none → n = 0 ∧ cap = 0) (hm : n ≤ 9223372036854775807) (h : OpsIn w w.heap.size A n L) (hT : Tabs w) :
    Calls Tryd.prog 5 #[.slice A n cap, .string nm] w fun e w' => e = .returned (.bool true) ∧ Below w.heap.size w w' := by
  by_cases hn : 300 < n
  · exact lookups_long A n cap nm w hn hm hT
  · have hl := h.len
    subst hl
    exact lookups_short A cap nm L w (by omega) hA hT h
end Go.Proofs.YtgbfkchjcjdnnaaDoor
