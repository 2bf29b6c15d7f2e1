/-
  Prefix, Infix, Postfix and Is of package ops; the statements' own find.
-/
import Derived.Test.YtgbfkchjcjdnnaaDoorLook7
namespace Go.Proofs.YtgbfkchjcjdnnaaDoor
set_option linter.unusedVariables false
set_option linter.unusedSimpArgs false
open Go.RowKit Q

theorem alloc_zero (w : World) : Below w.heap.size w (w.alloc (.cells #[.string ⟨#[]⟩, .int .i64 0, .int .i64 0] 26)) := (Below.refl _ _).alloc (Nat.le_refl _) _

set_option maxHeartbeats 1000000 in
theorem prefix_any (A : Option Addr) (n cap : Nat) (nm : ByteArray) (L : List Ent) (w : World) (hT : Tabs w) (hm : n ≤ 9223372036854775807) (h : OpsIn w w.heap.size A n L) :
    Calls Tryd.prog 17 #[.slice A n cap, .string nm] w fun e w' => LookEnd L 1 nm e ∧ Below w.heap.size w w' := by
  have hC := lookUp_any A n cap nm 1 L _ (hT.below (alloc_zero w)) hm (h.on (alloc_zero w) (alloc_zero w).size)
  have HNEW := Lib.hid (show (w.alloc (.cells #[.string ⟨#[]⟩, .int .i64 0, .int .i64 0] 26)).heap[w.heap.size]? = some (.cells #[.string ⟨#[]⟩, .int .i64 0, .int .i64 0] 26 (0, 0)) from heap_alloc_new w _)
  have HLT := Lib.hid (show w.heap.size < (w.alloc (.cells #[.string ⟨#[]⟩, .int .i64 0, .int .i64 0] 26)).heap.size by simp)
  unfold LookEnd at hC ⊢
  obtain ⟨x, hx⟩ : ∃ x, x = lookE L 1 nm := ⟨_, rfl⟩
  obtain ⟨v, hv⟩ : ∃ v, v = lookB L 1 nm := ⟨_, rfl⟩
  rw [← hx, ← hv] at hC ⊢
  obtain ⟨x0, x1, x2⟩ := x
  unfold opV at hC ⊢
  have HC := Lib.hid hC
  have HB := Lib.hid (alloc_zero w)
  clear hC hx hv h hT
  go_enter Tryd.func17, Tryd.ntmps17
  go_wp2_with fail
  refine HC.out.mono ?_
  rintro e w1 ⟨rfl, hb1⟩
  have HB1 := Lib.hid (HB.out.trans (hb1.mono HB.out.size))
  have HN1 := Lib.hid ((hb1.block _ HLT.out).trans HNEW.out)
  clear hb1
  go_wp2_with (refine wpList_store_own rfl 26 (.tmp 4) (.tmp 9) rfl w.heap.size #[.string x0, .int .i64 x1, .int .i64 x2] rfl rfl 26 _ HN1.out op_size rfl (one3 _ _ _) w.heap.size w HB1.out (Nat.le_refl _) ?_; intro w2 hg2 hb2 hs2)
  exact ret_op rfl rfl rfl rfl hg2.out ⟨rfl, hb2.out⟩

set_option maxHeartbeats 1000000 in
theorem infix_any (A : Option Addr) (n cap : Nat) (nm : ByteArray) (L : List Ent) (w : World) (hT : Tabs w) (hm : n ≤ 9223372036854775807) (h : OpsIn w w.heap.size A n L) :
    Calls Tryd.prog 16 #[.slice A n cap, .string nm] w fun e w' => LookEnd L 2 nm e ∧ Below w.heap.size w w' := by
  have hC := lookUp_any A n cap nm 2 L _ (hT.below (alloc_zero w)) hm (h.on (alloc_zero w) (alloc_zero w).size)
  have HNEW := Lib.hid (show (w.alloc (.cells #[.string ⟨#[]⟩, .int .i64 0, .int .i64 0] 26)).heap[w.heap.size]? = some (.cells #[.string ⟨#[]⟩, .int .i64 0, .int .i64 0] 26 (0, 0)) from heap_alloc_new w _)
  have HLT := Lib.hid (show w.heap.size < (w.alloc (.cells #[.string ⟨#[]⟩, .int .i64 0, .int .i64 0] 26)).heap.size by simp)
  unfold LookEnd at hC ⊢
  obtain ⟨x, hx⟩ : ∃ x, x = lookE L 2 nm := ⟨_, rfl⟩
  obtain ⟨v, hv⟩ : ∃ v, v = lookB L 2 nm := ⟨_, rfl⟩
  rw [← hx, ← hv] at hC ⊢
  obtain ⟨x0, x1, x2⟩ := x
  unfold opV at hC ⊢
  have HC := Lib.hid hC
  have HB := Lib.hid (alloc_zero w)
  clear hC hx hv h hT
  go_enter Tryd.func16, Tryd.ntmps16
  go_wp2_with fail
  refine HC.out.mono ?_
  rintro e w1 ⟨rfl, hb1⟩
  have HB1 := Lib.hid (HB.out.trans (hb1.mono HB.out.size))
  have HN1 := Lib.hid ((hb1.block _ HLT.out).trans HNEW.out)
  clear hb1
  go_wp2_with (refine wpList_store_own rfl 26 (.tmp 4) (.tmp 9) rfl w.heap.size #[.string x0, .int .i64 x1, .int .i64 x2] rfl rfl 26 _ HN1.out op_size rfl (one3 _ _ _) w.heap.size w HB1.out (Nat.le_refl _) ?_; intro w2 hg2 hb2 hs2)
  exact ret_op rfl rfl rfl rfl hg2.out ⟨rfl, hb2.out⟩

set_option maxHeartbeats 1000000 in
theorem postfix_any (A : Option Addr) (n cap : Nat) (nm : ByteArray) (L : List Ent) (w : World) (hT : Tabs w) (hm : n ≤ 9223372036854775807) (h : OpsIn w w.heap.size A n L) :
    Calls Tryd.prog 13 #[.slice A n cap, .string nm] w fun e w' => LookEnd L 3 nm e ∧ Below w.heap.size w w' := by
  have hC := lookUp_any A n cap nm 3 L _ (hT.below (alloc_zero w)) hm (h.on (alloc_zero w) (alloc_zero w).size)
  have HNEW := Lib.hid (show (w.alloc (.cells #[.string ⟨#[]⟩, .int .i64 0, .int .i64 0] 26)).heap[w.heap.size]? = some (.cells #[.string ⟨#[]⟩, .int .i64 0, .int .i64 0] 26 (0, 0)) from heap_alloc_new w _)
  have HLT := Lib.hid (show w.heap.size < (w.alloc (.cells #[.string ⟨#[]⟩, .int .i64 0, .int .i64 0] 26)).heap.size by simp)
  unfold LookEnd at hC ⊢
  obtain ⟨x, hx⟩ : ∃ x, x = lookE L 3 nm := ⟨_, rfl⟩
  obtain ⟨v, hv⟩ : ∃ v, v = lookB L 3 nm := ⟨_, rfl⟩
  rw [← hx, ← hv] at hC ⊢
  obtain ⟨x0, x1, x2⟩ := x
  unfold opV at hC ⊢
  have HC := Lib.hid hC
  have HB := Lib.hid (alloc_zero w)
  clear hC hx hv h hT
  go_enter Tryd.func13, Tryd.ntmps13
  go_wp2_with fail
  refine HC.out.mono ?_
  rintro e w1 ⟨rfl, hb1⟩
  have HB1 := Lib.hid (HB.out.trans (hb1.mono HB.out.size))
  have HN1 := Lib.hid ((hb1.block _ HLT.out).trans HNEW.out)
  clear hb1
  go_wp2_with (refine wpList_store_own rfl 26 (.tmp 4) (.tmp 9) rfl w.heap.size #[.string x0, .int .i64 x1, .int .i64 x2] rfl rfl 26 _ HN1.out op_size rfl (one3 _ _ _) w.heap.size w HB1.out (Nat.le_refl _) ?_; intro w2 hg2 hb2 hs2)
  exact ret_op rfl rfl rfl rfl hg2.out ⟨rfl, hb2.out⟩

set_option maxHeartbeats 1000000 in
theorem lfind_1 (A : Option Addr) (n cap : Nat) (nm : ByteArray) (L : List Ent) (w : World) (hT : Tabs w) (hm : n ≤ 9223372036854775807) (h : OpsIn w w.heap.size A n L) :
    Calls Tryd.prog 33 #[.slice A n cap, .int .i64 1, .string nm] w fun e w' => LookEnd L 1 nm e ∧ Below w.heap.size w w' := by
  have hC := prefix_any A n cap nm L _ (hT.below (alloc_zero w)) hm (h.on (alloc_zero w) (alloc_zero w).size)
  have HNEW := Lib.hid (show (w.alloc (.cells #[.string ⟨#[]⟩, .int .i64 0, .int .i64 0] 26)).heap[w.heap.size]? = some (.cells #[.string ⟨#[]⟩, .int .i64 0, .int .i64 0] 26 (0, 0)) from heap_alloc_new w _)
  have HLT := Lib.hid (show w.heap.size < (w.alloc (.cells #[.string ⟨#[]⟩, .int .i64 0, .int .i64 0] 26)).heap.size by simp)
  unfold LookEnd at hC ⊢
  obtain ⟨x, hx⟩ : ∃ x, x = lookE L 1 nm := ⟨_, rfl⟩
  obtain ⟨v, hv⟩ : ∃ v, v = lookB L 1 nm := ⟨_, rfl⟩
  rw [← hx, ← hv] at hC ⊢
  obtain ⟨x0, x1, x2⟩ := x
  unfold opV at hC ⊢
  have HC := Lib.hid hC
  have HB := Lib.hid (alloc_zero w)
  clear hC hx hv h hT
  go_enter Tryd.func33, Tryd.ntmps33
  go_wp2_with fail
  refine HC.out.mono ?_
  rintro e w1 ⟨rfl, hb1⟩
  have HB1 := Lib.hid (HB.out.trans (hb1.mono HB.out.size))
  have HN1 := Lib.hid ((hb1.block _ HLT.out).trans HNEW.out)
  clear hb1
  go_wp2_with (refine wpList_store_own rfl 26 (.tmp 6) (.tmp 13) rfl w.heap.size #[.string x0, .int .i64 x1, .int .i64 x2] rfl rfl 26 _ HN1.out op_size rfl (one3 _ _ _) w.heap.size w HB1.out (Nat.le_refl _) ?_; intro w2 hg2 hb2 hs2)
  exact ret_op rfl rfl rfl rfl hg2.out ⟨rfl, hb2.out⟩

set_option maxHeartbeats 1000000 in
theorem lfind_2 (A : Option Addr) (n cap : Nat) (nm : ByteArray) (L : List Ent) (w : World) (hT : Tabs w) (hm : n ≤ 9223372036854775807) (h : OpsIn w w.heap.size A n L) :
    Calls Tryd.prog 33 #[.slice A n cap, .int .i64 2, .string nm] w fun e w' => LookEnd L 2 nm e ∧ Below w.heap.size w w' := by
  have hC := infix_any A n cap nm L _ (hT.below (alloc_zero w)) hm (h.on (alloc_zero w) (alloc_zero w).size)
  have HNEW := Lib.hid (show (w.alloc (.cells #[.string ⟨#[]⟩, .int .i64 0, .int .i64 0] 26)).heap[w.heap.size]? = some (.cells #[.string ⟨#[]⟩, .int .i64 0, .int .i64 0] 26 (0, 0)) from heap_alloc_new w _)
  have HLT := Lib.hid (show w.heap.size < (w.alloc (.cells #[.string ⟨#[]⟩, .int .i64 0, .int .i64 0] 26)).heap.size by simp)
  unfold LookEnd at hC ⊢
  obtain ⟨x, hx⟩ : ∃ x, x = lookE L 2 nm := ⟨_, rfl⟩
  obtain ⟨v, hv⟩ : ∃ v, v = lookB L 2 nm := ⟨_, rfl⟩
  rw [← hx, ← hv] at hC ⊢
  obtain ⟨x0, x1, x2⟩ := x
  unfold opV at hC ⊢
  have HC := Lib.hid hC
  have HB := Lib.hid (alloc_zero w)
  clear hC hx hv h hT
  go_enter Tryd.func33, Tryd.ntmps33
  go_wp2_with fail
  refine HC.out.mono ?_
  rintro e w1 ⟨rfl, hb1⟩
  have HB1 := Lib.hid (HB.out.trans (hb1.mono HB.out.size))
  have HN1 := Lib.hid ((hb1.block _ HLT.out).trans HNEW.out)
  clear hb1
  go_wp2_with (refine wpList_store_own rfl 26 (.tmp 6) (.tmp 20) rfl w.heap.size #[.string x0, .int .i64 x1, .int .i64 x2] rfl rfl 26 _ HN1.out op_size rfl (one3 _ _ _) w.heap.size w HB1.out (Nat.le_refl _) ?_; intro w2 hg2 hb2 hs2)
  exact ret_op rfl rfl rfl rfl hg2.out ⟨rfl, hb2.out⟩

set_option maxHeartbeats 1000000 in
theorem lfind_3 (A : Option Addr) (n cap : Nat) (nm : ByteArray) (L : List Ent) (w : World) (hT : Tabs w) (hm : n ≤ 9223372036854775807) (h : OpsIn w w.heap.size A n L) :
    Calls Tryd.prog 33 #[.slice A n cap, .int .i64 3, .string nm] w fun e w' => LookEnd L 3 nm e ∧ Below w.heap.size w w' := by
  have hC := postfix_any A n cap nm L _ (hT.below (alloc_zero w)) hm (h.on (alloc_zero w) (alloc_zero w).size)
  have HNEW := Lib.hid (show (w.alloc (.cells #[.string ⟨#[]⟩, .int .i64 0, .int .i64 0] 26)).heap[w.heap.size]? = some (.cells #[.string ⟨#[]⟩, .int .i64 0, .int .i64 0] 26 (0, 0)) from heap_alloc_new w _)
  have HLT := Lib.hid (show w.heap.size < (w.alloc (.cells #[.string ⟨#[]⟩, .int .i64 0, .int .i64 0] 26)).heap.size by simp)
  unfold LookEnd at hC ⊢
  obtain ⟨x, hx⟩ : ∃ x, x = lookE L 3 nm := ⟨_, rfl⟩
  obtain ⟨v, hv⟩ : ∃ v, v = lookB L 3 nm := ⟨_, rfl⟩
  rw [← hx, ← hv] at hC ⊢
  obtain ⟨x0, x1, x2⟩ := x
  unfold opV at hC ⊢
  have HC := Lib.hid hC
  have HB := Lib.hid (alloc_zero w)
  clear hC hx hv h hT
  go_enter Tryd.func33, Tryd.ntmps33
  go_wp2_with fail
  refine HC.out.mono ?_
  rintro e w1 ⟨rfl, hb1⟩
  have HB1 := Lib.hid (HB.out.trans (hb1.mono HB.out.size))
  have HN1 := Lib.hid ((hb1.block _ HLT.out).trans HNEW.out)
  clear hb1
  go_wp2_with (refine wpList_store_own rfl 26 (.tmp 6) (.tmp 25) rfl w.heap.size #[.string x0, .int .i64 x1, .int .i64 x2] rfl rfl 26 _ HN1.out op_size rfl (one3 _ _ _) w.heap.size w HB1.out (Nat.le_refl _) ?_; intro w2 hg2 hb2 hs2)
  exact ret_op rfl rfl rfl rfl hg2.out ⟨rfl, hb2.out⟩
theorem lfind_any (A : Option Addr) (n cap : Nat) (nm : ByteArray) (c : Int) (hc : c = 1 ∨ c = 2 ∨ c = 3) (L : List Ent) (w : World) (hT : Tabs w) (hm : n ≤ 9223372036854775807) (h : OpsIn w w.heap.size A n L) :
    Calls Tryd.prog 33 #[.slice A n cap, .int .i64 c, .string nm] w fun e w' => LookEnd L c nm e ∧ Below w.heap.size w w' := by
  rcases hc with rfl | rfl | rfl
  · exact lfind_1 A n cap nm L w hT hm h
  · exact lfind_2 A n cap nm L w hT hm h
  · exact lfind_3 A n cap nm L w hT hm h

/-! ### Is -/
def nameIn (L : List Ent) (nm : ByteArray) : Bool := L.any fun e => decide (e.1 = nm)
theorem isname_any (s : ByteArray) (t p : Int) (nm : ByteArray) (a : Addr) (w : World) (ha : a.block < w.heap.size) (hc : w.cell? a = some (.string nm)) :
    Calls Tryd.prog 43 #[.agg #[.string s, .int .i64 t, .int .i64 p], .pointer (some a)] w fun e' w' => e' = .returned (.bool (decide (s = nm))) ∧ Below w.heap.size w w' := by
  have hb := (Below.refl w.heap.size w).alloc (Nat.le_refl _) (.cells #[.string s, .int .i64 t, .int .i64 p] 26)
  have hx : (w.alloc (.cells #[.string s, .int .i64 t, .int .i64 p] 26)).cell? a = some (.string nm) := (hb.cell ha).trans hc
  have HB := Lib.hid hb
  clear hb ha hc
  rw [← eqC]
  go_enter Tryd.func43, Tryd.ntmps43
  go_wp2_with fail
  go_ret
  exact ⟨rfl, HB.out⟩
/-- The first place with the name, or -1. -/
def idxM (L : List Ent) (nm : ByteArray) (e : Ending) : Prop := ∃ i : Int, e = .returned (.int .i64 i) ∧ decide (0 ≤ i) = nameIn L nm

set_option maxHeartbeats 2000000 in
theorem indexFunc_any (A : Option Addr) (n cap : Nat) (nm : ByteArray) (ad : Addr) (L : List Ent) (w : World) (had : ad.block < w.heap.size) (hcl : w.cell? ad = some (.string nm)) (hn : n ≤ 100) (h : OpsIn w w.heap.size A n L) :
    Calls Tryd.prog 57 #[.slice A n cap, .func (.func 43) #[] #[.pointer (some ad)]] w fun e w' => idxM L nm e ∧ Below w.heap.size w w' := by
  have hP : ∀ (s : ByteArray) (t p : Int) (W : World), Below w.heap.size w W → Calls Tryd.prog 43 #[.agg #[.string s, .int .i64 t, .int .i64 p], .pointer (some ad)] W fun e' w' => e' = .returned (.bool (decide (s = nm))) ∧ Below W.heap.size W w' :=
    fun s t p W h => isname_any s t p nm ad W (Nat.lt_of_lt_of_le had h.size) ((h.cell had).trans hcl)
  have HP := Lib.hid hP
  have HL := Lib.hid h.len
  have HO := Lib.hid h.cells
  clear hP h had hcl
  go_enter Tryd.func57, Tryd.ntmps57
  go_wp2_with fail
  go_loopw [8] (fun i wr => ∃ k : Nat, k ≤ n ∧ i = .int .i64 k ∧ (∀ j, j < k → decide ((ent L j).1 = nm) = false) ∧ Below w.heap.size w wr) (fun i _ => n - (intOf i).toNat)
  case atStart => exact ⟨0, by omega, rfl, fun j hj => absurd hj (by omega), Below.refl _ _⟩
  case round =>
    obtain ⟨k, hk, rfl, hno, hbl⟩ := hrel
    have HNO := Lib.hid hno
    have HB := Lib.hid hbl
    clear hno hbl
    by_cases hlt : k < n
    · obtain ⟨b, off, rfl, hb', hc⟩ := HO.out (by omega)
      have q0 := (HB.out.cell (p := ⟨b, off + k * 3, none⟩) hb').trans (hc k hlt).1
      have q1 := (HB.out.cell (p := ⟨b, off + k * 3 + 1, none⟩) hb').trans (hc k hlt).2.1
      have q2 := (HB.out.cell (p := ⟨b, off + k * 3 + 2, none⟩) hb').trans (hc k hlt).2.2
      have HI := Lib.hid (ent_at (L := L) (j := k) (by have := HL.out; omega))
      obtain ⟨x, hx⟩ : ∃ x, x = ent L k := ⟨_, rfl⟩
      obtain ⟨x0, x1, x2⟩ := x
      rw [← hx] at q0 q1 q2
      have HX := Lib.hid hx
      clear hc hx
      simp only at q0 q1 q2
      have hX := HP.out x0 x1 x2 wr HB.out
      obtain ⟨v, hv⟩ : ∃ v, v = decide (x0 = nm) := ⟨_, rfl⟩
      rw [← hv] at hX
      have HXX := Lib.hid hX
      have HV := Lib.hid hv
      clear hX hv
      cases v
      · go_wp2_with fail
        refine HXX.out.mono ?_
        rintro e w1 ⟨rfl, hb1⟩
        go_wp2_with fail
        refine ⟨⟨k + 1, by omega, by go_num, fun j hj => ?_, HB.out.trans (hb1.mono HB.out.size)⟩, by simp [intOf]; omega⟩
        by_cases hjk : j = k
        · subst hjk; rw [← HX.out]; exact HV.out.symm
        · exact HNO.out j (by omega)
      · go_wp2_with fail
        refine HXX.out.mono ?_
        rintro e w1 ⟨rfl, hb1⟩
        go_wp2_with fail
        go_ret
        refine ⟨⟨k, rfl, ?_⟩, HB.out.trans (hb1.mono HB.out.size)⟩
        rw [decide_eq_true (show (0 : Int) ≤ (k : Int) by omega)]
        symm
        unfold nameIn
        rw [List.any_eq_true]
        refine ⟨L[k]'(by have := HL.out; omega), List.getElem_mem _, ?_⟩
        rw [← HI.out, ← HX.out]
        exact HV.out.symm
    · obtain rfl : k = n := by omega
      go_wp2_with fail
      go_ret
      refine ⟨⟨-1, rfl, ?_⟩, HB.out⟩
      symm
      show nameIn L nm = false
      unfold nameIn
      rw [List.any_eq_false]
      intro e he
      obtain ⟨j, hj, rfl⟩ := List.getElem_of_mem he
      rw [← ent_at hj, HNO.out j (by have := HL.out; omega)]
      exact Bool.false_ne_true

theorem contains_any (A : Option Addr) (n cap : Nat) (nm : ByteArray) (ad : Addr) (L : List Ent) (w : World) (had : ad.block < w.heap.size) (hcl : w.cell? ad = some (.string nm)) (hn : n ≤ 100) (h : OpsIn w w.heap.size A n L) :
    Calls Tryd.prog 42 #[.slice A n cap, .func (.func 43) #[] #[.pointer (some ad)]] w fun e w' => e = .returned (.bool (nameIn L nm)) ∧ Below w.heap.size w w' := by
  have HX := Lib.hid (indexFunc_any A n cap nm ad L w had hcl hn h)
  clear h had hcl
  go_enter Tryd.func42, Tryd.ntmps42
  go_wp2_with fail
  refine HX.out.mono ?_
  rintro e w1 ⟨⟨i, rfl, hi⟩, hb1⟩
  have HI := Lib.hid hi
  clear hi
  go_wp2_with fail
  go_ret
  exact ⟨by rw [← HI.out]; rfl, hb1⟩

set_option maxHeartbeats 1000000 in
theorem is_any (A : Option Addr) (n cap : Nat) (nm : ByteArray) (L : List Ent) (w : World) (hT : Tabs w) (hm : n ≤ 9223372036854775807) (h : OpsIn w w.heap.size A n L) :
    Calls Tryd.prog 20 #[.slice A n cap, .string nm] w fun e w' => e = .returned (.bool (goodB L && nameIn L nm)) ∧ Below w.heap.size w w' := by
  have hb : Below w.heap.size w (w.alloc (.cells #[.string nm] 9)) := (Below.refl _ _).alloc (Nat.le_refl _) _
  have hV := valid_any A n cap L _ (hT.below hb) hm (h.on hb hb.size)
  have hc : (w.alloc (.cells #[.string nm] 9)).cell? ⟨w.heap.size, 0, none⟩ = some (.string nm) := cell_new w _ _ 0
  have hlt : w.heap.size < (w.alloc (.cells #[.string nm] 9)).heap.size := by simp
  have HC := Lib.hid hc
  have HLT := Lib.hid hlt
  have HB := Lib.hid hb
  have HP := Lib.hid h
  clear hb h hT hc hlt
  cases hg : goodB L
  · rw [hg] at hV
    have HV := Lib.hid hV
    clear hV hg
    go_enter Tryd.func20, Tryd.ntmps20
    go_wp2_with fail
    refine HV.out.mono ?_
    rintro e w1 ⟨rfl, hb1⟩
    go_wp2_with fail
    go_ret
    exact ⟨rfl, HB.out.trans (hb1.mono HB.out.size)⟩
  · rw [hg] at hV
    have HV := Lib.hid hV
    have hn : n ≤ 100 := by have := (goodB_iff.1 hg).1; have := HP.out.len; omega
    clear hV hg
    go_enter Tryd.func20, Tryd.ntmps20
    go_wp2_with fail
    refine HV.out.mono ?_
    rintro e w1 ⟨rfl, hb1⟩
    have HB1 := Lib.hid (HB.out.trans (hb1.mono HB.out.size))
    have HX := Lib.hid (contains_any A n cap nm ⟨w.heap.size, 0, none⟩ L w1 (Nat.lt_of_lt_of_le HLT.out hb1.size) ((hb1.cell (p := ⟨w.heap.size, 0, none⟩) HLT.out).trans HC.out) hn (HP.out.on HB1.out HB1.out.size))
    clear hb1
    go_wp2_with fail
    refine HX.out.mono ?_
    rintro e w2 ⟨rfl, hb2⟩
    go_wp2_with fail
    go_ret
    exact ⟨rfl, HB1.out.trans (hb2.mono HB1.out.size)⟩
end Go.Proofs.YtgbfkchjcjdnnaaDoor
