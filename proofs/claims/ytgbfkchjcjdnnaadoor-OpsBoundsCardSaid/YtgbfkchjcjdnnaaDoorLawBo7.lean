/-
  The walk of OpsBounds: it returns true.
-/
import Derived.Test.YtgbfkchjcjdnnaaDoorLawSL7
import Derived.Test.YtgbfkchjcjdnnaaDoorMathL7
namespace Go.Proofs.YtgbfkchjcjdnnaaDoor
set_option linter.unusedVariables false
set_option linter.unusedSimpArgs false
open Go.RowKit Q

theorem bounds_long (A : Option Addr) (n cap : Nat) (nm : ByteArray) (w : World) (hn : 300 < n) (hm : n ≤ 9223372036854775807) (hT : Tabs w) :
    Calls Tryd.prog 10 #[.slice A n cap, .string nm] w fun e w' => e = .returned (.bool true) ∧ Below w.heap.size w w' := by
  have HA := Lib.hid (awake_true w hT)
  clear hT
  go_enter Tryd.func10, Tryd.ntmps10
  go_wp2_with fail
  refine HA.out.mono ?_
  rintro e w1 ⟨rfl, hb1⟩
  go_wp2_with fail
  go_ret
  exact ⟨rfl, hb1⟩

theorem look_ok {L : List Ent} {c : Int} {nm : ByteArray} (h : lookB L c nm = true) : okE (lookE L c nm) = true ∧ cls (lookE L c nm).2.1 = c := by
  unfold lookB lookM at h
  cases hg : goodB L
  · rw [hg] at h; cases h
  · rw [hg, if_pos rfl] at h
    unfold lookE lookM
    rw [hg, if_pos rfl]
    cases hf : findM L c nm with
    | none => rw [hf] at h; cases h
    | some e =>
      obtain ⟨h1, h2, _⟩ := good_find hg hf
      exact ⟨h1, h2⟩

set_option maxHeartbeats 8000000 in
theorem bounds_short (A : Option Addr) (cap : Nat) (nm : ByteArray) (L : List Ent) (w : World) (hn : L.length ≤ 300) (hT : Tabs w) (h : OpsIn w w.heap.size A L.length L) :
    Calls Tryd.prog 10 #[.slice A L.length cap, .string nm] w fun e w' => e = .returned (.bool true) ∧ Below w.heap.size w w' := by
  have HA := Lib.hid (hAwake hT)
  have HL0 := Lib.hid h
  have HF0 := Lib.hid (fun (c : Int) (hc : c = 1 ∨ c = 2 ∨ c = 3) (W : World) (hW : Below w.heap.size w W) (ho : OpsIn W W.heap.size A L.length L) => lfind_any A L.length cap nm c hc L W (hT.below hW) (by omega) ho)
  clear hT h
  go_enter Tryd.func10, Tryd.ntmps10
  go_wp2_with fail
  go_loopw [5] (fun i wr => ∃ k : Nat, 1 ≤ k ∧ k ≤ 4 ∧ i = .int .i64 k ∧ Below w.heap.size w wr) (fun i _ => 4 - (intOf i).toNat)
  case atStart => exact ⟨1, by omega, by omega, rfl, Below.refl _ _⟩
  case round =>
    obtain ⟨k, hk1, hk4, rfl, hbl⟩ := hrel
    by_cases hlt : k ≤ 3
    · have hF := HF0.out (k : Int) (by omega)
      have hks : k = 1 ∨ k = 2 ∨ k = 3 := by omega
      unfold LookEnd opV at hF
      have hlk := @look_ok L (k : Int) nm
      obtain ⟨⟨xa, xb, xc⟩, hx⟩ : ∃ x, x = lookE L (k : Int) nm := ⟨_, rfl⟩
      obtain ⟨v, hv⟩ : ∃ v, v = lookB L (k : Int) nm := ⟨_, rfl⟩
      rw [← hx, ← hv] at hF hlk
      have HF := Lib.hid hF
      have HL := Lib.hid (HL0.out.on hbl hbl.size)
      have HB := Lib.hid hbl
      have hk3 : (k : Int) ≤ 3 := by omega
      clear hF hx hv hbl
      cases v
      · clear hlk hks
        go_wp2_with fail
        refine (HF.out _ HB.out HL.out).mono ?_
        rintro e w21 ⟨rfl, hb⟩
        replace HB := Lib.hid (HB.out.trans (hb.mono HB.out.size))
        replace HL := Lib.hid (HL.out.on hb hb.size)
        clear hb
        go_wp2_with (refine wpList_store_own rfl 26 (.tmp 6) (.tmp 23) rfl w21.heap.size #[.string xa, .int .i64 xb, .int .i64 xc] rfl rfl 26 _ (heap_alloc_new w21 _) op_size rfl (one3 _ _ _) w21.heap.size w21 ((Below.refl _ _).alloc (Nat.le_refl _) _) (Nat.le_refl _) ?_; intro w22 hg hb hs)
        replace HB := Lib.hid (HB.out.trans (hb.out.mono HB.out.size))
        replace HL := Lib.hid (HL.out.on hb.out hb.out.size)
        have X1 := Lib.hid (show Box w22 w21.heap.size (xa, xb, xc) from ⟨by rw [hs.out]; simp, hg.out⟩)
        clear hg hb hs
        exact ⟨⟨k + 1, by omega, by omega, by go_num, HB.out⟩, by simp [intOf]; omega⟩
      · obtain ⟨hok, hcl⟩ := hlk rfl
        have hsb := sides_bound hok
        have hS := fun W => sides_any xa xb xc W
        unfold SidesEnd at hS
        simp only at hsb hcl
        rw [hcl] at hsb
        obtain ⟨sl, hsl⟩ : ∃ x, x = (sidesM xb xc).1 := ⟨_, rfl⟩
        obtain ⟨sr, hsr⟩ : ∃ x, x = (sidesM xb xc).2 := ⟨_, rfl⟩
        rw [← hsl, ← hsr] at hS hsb
        have HS := Lib.hid hS
        clear hS hsl hsr hok hcl hlk
        obtain ⟨q1, q2, q3, q4, q5, q6, q7⟩ := hsb
        have n1 : ¬ xc < sl := by omega
        have n2 : ¬ xc < sr := by omega
        have n3 : ¬ sl < 0 := by omega
        have n4 : ¬ sr < 0 := by omega
        rcases hks with rfl | rfl | rfl
        · have z1 : sl = 0 := q6 rfl
          subst z1
          clear q1 q2 q3 q4 q5 q6 q7
          go_wp2_with fail
          refine (HF.out _ HB.out HL.out).mono ?_
          rintro e w21 ⟨rfl, hb⟩
          replace HB := Lib.hid (HB.out.trans (hb.mono HB.out.size))
          replace HL := Lib.hid (HL.out.on hb hb.size)
          clear hb
          go_wp2_with (refine wpList_store_own rfl 26 (.tmp 6) (.tmp 23) rfl w21.heap.size #[.string xa, .int .i64 xb, .int .i64 xc] rfl rfl 26 _ (heap_alloc_new w21 _) op_size rfl (one3 _ _ _) w21.heap.size w21 ((Below.refl _ _).alloc (Nat.le_refl _) _) (Nat.le_refl _) ?_; intro w22 hg hb hs; have x0 := cell_heap (i := 0) hg.out rfl; have x1 := cell_heap (i := 1) hg.out rfl; have x2 := cell_heap (i := 2) hg.out rfl)
          replace HB := Lib.hid (HB.out.trans (hb.out.mono HB.out.size))
          replace HL := Lib.hid (HL.out.on hb.out hb.out.size)
          have X1 := Lib.hid (show Box w22 w21.heap.size (xa, xb, xc) from ⟨by rw [hs.out]; simp, hg.out⟩)
          clear hg hb hs x0 x1 x2
          refine (HS.out _).mono ?_
          rintro e w23 ⟨rfl, hb⟩
          replace HB := Lib.hid (HB.out.trans (hb.mono HB.out.size))
          replace HL := Lib.hid (HL.out.on hb hb.size)
          replace X1 := Lib.hid (X1.out.on hb)
          clear hb
          have x2 := X1.out.c2
          simp only at x2
          go_wp2_with fail
          exact ⟨⟨2, by omega, by omega, by go_num, HB.out⟩, by simp [intOf]⟩
        · have z5 := q5 rfl
          by_cases hz : sl = xc
          · have y1 : (sl == xc) = true := by rw [beq_iff_eq]; exact hz
            have y2 : (sr == xc) = false := by rw [beq_eq_false_iff_ne]; exact fun h => z5 ⟨hz, h⟩
            clear q1 q2 q3 q4 q5 q6 q7 z5 hz
            go_wp2_with fail
            refine (HF.out _ HB.out HL.out).mono ?_
            rintro e w21 ⟨rfl, hb⟩
            replace HB := Lib.hid (HB.out.trans (hb.mono HB.out.size))
            replace HL := Lib.hid (HL.out.on hb hb.size)
            clear hb
            go_wp2_with (refine wpList_store_own rfl 26 (.tmp 6) (.tmp 23) rfl w21.heap.size #[.string xa, .int .i64 xb, .int .i64 xc] rfl rfl 26 _ (heap_alloc_new w21 _) op_size rfl (one3 _ _ _) w21.heap.size w21 ((Below.refl _ _).alloc (Nat.le_refl _) _) (Nat.le_refl _) ?_; intro w22 hg hb hs; have x0 := cell_heap (i := 0) hg.out rfl; have x1 := cell_heap (i := 1) hg.out rfl; have x2 := cell_heap (i := 2) hg.out rfl)
            replace HB := Lib.hid (HB.out.trans (hb.out.mono HB.out.size))
            replace HL := Lib.hid (HL.out.on hb.out hb.out.size)
            have X1 := Lib.hid (show Box w22 w21.heap.size (xa, xb, xc) from ⟨by rw [hs.out]; simp, hg.out⟩)
            clear hg hb hs x0 x1 x2
            refine (HS.out _).mono ?_
            rintro e w23 ⟨rfl, hb⟩
            replace HB := Lib.hid (HB.out.trans (hb.mono HB.out.size))
            replace HL := Lib.hid (HL.out.on hb hb.size)
            replace X1 := Lib.hid (X1.out.on hb)
            clear hb
            have x2 := X1.out.c2
            simp only at x2
            go_wp2_with fail
            exact ⟨⟨3, by omega, by omega, by go_num, HB.out⟩, by simp [intOf]⟩
          · have y1 : (sl == xc) = false := by rw [beq_eq_false_iff_ne]; exact hz
            clear q1 q2 q3 q4 q5 q6 q7 z5 hz
            go_wp2_with fail
            refine (HF.out _ HB.out HL.out).mono ?_
            rintro e w21 ⟨rfl, hb⟩
            replace HB := Lib.hid (HB.out.trans (hb.mono HB.out.size))
            replace HL := Lib.hid (HL.out.on hb hb.size)
            clear hb
            go_wp2_with (refine wpList_store_own rfl 26 (.tmp 6) (.tmp 23) rfl w21.heap.size #[.string xa, .int .i64 xb, .int .i64 xc] rfl rfl 26 _ (heap_alloc_new w21 _) op_size rfl (one3 _ _ _) w21.heap.size w21 ((Below.refl _ _).alloc (Nat.le_refl _) _) (Nat.le_refl _) ?_; intro w22 hg hb hs; have x0 := cell_heap (i := 0) hg.out rfl; have x1 := cell_heap (i := 1) hg.out rfl; have x2 := cell_heap (i := 2) hg.out rfl)
            replace HB := Lib.hid (HB.out.trans (hb.out.mono HB.out.size))
            replace HL := Lib.hid (HL.out.on hb.out hb.out.size)
            have X1 := Lib.hid (show Box w22 w21.heap.size (xa, xb, xc) from ⟨by rw [hs.out]; simp, hg.out⟩)
            clear hg hb hs x0 x1 x2
            refine (HS.out _).mono ?_
            rintro e w23 ⟨rfl, hb⟩
            replace HB := Lib.hid (HB.out.trans (hb.mono HB.out.size))
            replace HL := Lib.hid (HL.out.on hb hb.size)
            replace X1 := Lib.hid (X1.out.on hb)
            clear hb
            have x2 := X1.out.c2
            simp only at x2
            go_wp2_with fail
            exact ⟨⟨3, by omega, by omega, by go_num, HB.out⟩, by simp [intOf]⟩
        · have z1 : sr = 0 := q7 rfl
          subst z1
          clear q1 q2 q3 q4 q5 q6 q7
          go_wp2_with fail
          refine (HF.out _ HB.out HL.out).mono ?_
          rintro e w21 ⟨rfl, hb⟩
          replace HB := Lib.hid (HB.out.trans (hb.mono HB.out.size))
          replace HL := Lib.hid (HL.out.on hb hb.size)
          clear hb
          go_wp2_with (refine wpList_store_own rfl 26 (.tmp 6) (.tmp 23) rfl w21.heap.size #[.string xa, .int .i64 xb, .int .i64 xc] rfl rfl 26 _ (heap_alloc_new w21 _) op_size rfl (one3 _ _ _) w21.heap.size w21 ((Below.refl _ _).alloc (Nat.le_refl _) _) (Nat.le_refl _) ?_; intro w22 hg hb hs; have x0 := cell_heap (i := 0) hg.out rfl; have x1 := cell_heap (i := 1) hg.out rfl; have x2 := cell_heap (i := 2) hg.out rfl)
          replace HB := Lib.hid (HB.out.trans (hb.out.mono HB.out.size))
          replace HL := Lib.hid (HL.out.on hb.out hb.out.size)
          have X1 := Lib.hid (show Box w22 w21.heap.size (xa, xb, xc) from ⟨by rw [hs.out]; simp, hg.out⟩)
          clear hg hb hs x0 x1 x2
          refine (HS.out _).mono ?_
          rintro e w23 ⟨rfl, hb⟩
          replace HB := Lib.hid (HB.out.trans (hb.mono HB.out.size))
          replace HL := Lib.hid (HL.out.on hb hb.size)
          replace X1 := Lib.hid (X1.out.on hb)
          clear hb
          have x2 := X1.out.c2
          simp only at x2
          go_wp2_with fail
          exact ⟨⟨4, by omega, by omega, by go_num, HB.out⟩, by simp [intOf]⟩
    · obtain rfl : k = 4 := by omega
      have HB := Lib.hid hbl
      clear hbl
      go_wp2_with fail
      refine (HA.out _ HB.out).mono ?_
      rintro e w1 ⟨rfl, hb⟩
      go_wp2_with fail
      go_ret
      exact ⟨rfl, HB.out.trans (hb.mono HB.out.size)⟩

theorem walk_bounds (A : Option Addr) (n cap : Nat) (nm : ByteArray) (L : List Ent) (w : World) (hm : n ≤ 9223372036854775807) (h : OpsIn w w.heap.size A n L) (hT : Tabs w) :
    Calls Tryd.prog 10 #[.slice A n cap, .string nm] w fun e w' => e = .returned (.bool true) ∧ Below w.heap.size w w' := by
  by_cases hn : 300 < n
  · exact bounds_long A n cap nm w hn hm hT
  · have hl := h.len
    subst hl
    exact bounds_short A cap nm L w (by omega) hT h
end Go.Proofs.YtgbfkchjcjdnnaaDoor
