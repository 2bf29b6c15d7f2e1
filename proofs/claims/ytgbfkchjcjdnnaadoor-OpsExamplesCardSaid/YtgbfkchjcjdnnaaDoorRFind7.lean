/-
  Find and Is of the reference.
-/
import Derived.Test.YtgbfkchjcjdnnaaDoorRVal7
namespace Go.Proofs.YtgbfkchjcjdnnaaDoor
set_option linter.unusedVariables false
set_option linter.unusedSimpArgs false
open Go.RowKit Q

theorem findM_first {L : List Ent} {c : Int} {nm : ByteArray} {k : Nat} (hk : k < L.length) (h : isB c nm (ent L k) = true) (hno : ∀ j, j < k → isB c nm (ent L j) = false) : findM L c nm = some (ent L k) := by
  unfold findM
  rw [List.find?_eq_some_iff_getElem]
  rw [ent_at hk] at h ⊢
  refine ⟨h, k, hk, rfl, fun j hj => ?_⟩
  have := hno j hj
  rw [ent_at (by omega)] at this
  rw [this]
  rfl
theorem findM_none {L : List Ent} {c : Int} {nm : ByteArray} (hno : ∀ j, j < L.length → isB c nm (ent L j) = false) : findM L c nm = none := by
  unfold findM
  rw [List.find?_eq_none]
  intro e he
  obtain ⟨j, hj, rfl⟩ := List.getElem_of_mem he
  rw [← ent_at hj, hno j hj]
  exact Bool.false_ne_true

set_option maxHeartbeats 4000000 in
theorem rfind_any (A : Option Addr) (n cap : Nat) (c : Int) (nm : ByteArray) (L : List Ent) (w : World) (hm : n ≤ 9223372036854775807) (h : OpsIn w w.heap.size A n L) :
    Calls Tryd.prog 25 #[.slice A n cap, .int .i64 c, .string nm] w fun e w' => LookEnd L c nm e ∧ Below w.heap.size w w' := by
  have hV := rvalid_any A n cap L _ hm (h.on (alloc_zero w) (alloc_zero w).size)
  have HB := Lib.hid (alloc_zero w)
  have HP := Lib.hid h
  have HNEW := Lib.hid (show (w.alloc (.cells #[.string ⟨#[]⟩, .int .i64 0, .int .i64 0] 26)).heap[w.heap.size]? = some (.cells #[.string ⟨#[]⟩, .int .i64 0, .int .i64 0] 26 (0, 0)) from heap_alloc_new w _)
  have HLT := Lib.hid (show w.heap.size < (w.alloc (.cells #[.string ⟨#[]⟩, .int .i64 0, .int .i64 0] 26)).heap.size by simp)
  have HLEN := Lib.hid h.len
  clear h
  cases hg : goodB L
  · rw [hg] at hV
    have HV := Lib.hid hV
    have HE := Lib.hid (look_bad hg c nm)
    clear hV hg
    go_enter Tryd.func25, Tryd.ntmps25
    go_wp2_with fail
    refine HV.out.mono ?_
    rintro e w1 ⟨rfl, hb1⟩
    have HB1 := Lib.hid (HB.out.trans (hb1.mono HB.out.size))
    have HN1 := Lib.hid ((hb1.block _ HLT.out).trans HNEW.out)
    clear hb1
    go_wp2_with (refine wpList_store_own rfl 26 (.tmp 6) (.tmp 12) rfl w.heap.size #[.string ⟨#[]⟩, .int .i64 0, .int .i64 0] rfl rfl 26 _ HN1.out op_size rfl (one3 _ _ _) w.heap.size w HB1.out (Nat.le_refl _) ?_; intro w2 hg2 hb2 hs2)
    refine ret_op rfl rfl rfl rfl hg2.out ⟨?_, hb2.out⟩
    unfold LookEnd
    rw [HE.out.1, HE.out.2]
    rfl
  · rw [hg] at hV
    have HV := Lib.hid hV
    have HLK := Lib.hid (show lookM L c nm = findM L c nm by unfold lookM; rw [hg, if_pos rfl])
    have hn : n ≤ 100 := by have := (goodB_iff.1 hg).1; have := HLEN.out; omega
    clear hV hg
    go_enter Tryd.func25, Tryd.ntmps25
    go_wp2_with fail
    refine HV.out.mono ?_
    rintro e w1 ⟨rfl, hb1⟩
    have HB1 := Lib.hid (HB.out.trans (hb1.mono HB.out.size))
    have HN1 := Lib.hid ((hb1.block _ HLT.out).trans HNEW.out)
    clear hb1
    go_wp2_with fail
    go_loop [8] (fun u => ∃ k : Nat, k ≤ n ∧ u = .int .i64 k ∧ ∀ j, j < k → isB c nm (ent L j) = false) (fun u => n - (intOf u).toNat)
    case atStart => exact ⟨0, by omega, rfl, fun j hj => absurd hj (by omega)⟩
    case round =>
      obtain ⟨k, hk, rfl, hno⟩ := hrel
      have HNO := Lib.hid hno
      clear hno
      by_cases hlt : k < n
      · obtain ⟨b, off, rfl, hb', hc⟩ := HP.out.cells (by omega)
        have q0 := (HB1.out.cell (p := ⟨b, off + k * 3, none⟩) hb').trans (hc k hlt).1
        have q1 := (HB1.out.cell (p := ⟨b, off + k * 3 + 1, none⟩) hb').trans (hc k hlt).2.1
        have q2 := (HB1.out.cell (p := ⟨b, off + k * 3 + 2, none⟩) hb').trans (hc k hlt).2.2
        have HI := Lib.hid (show isB c nm (ent L k) = (decide (cls (ent L k).2.1 = c) && decide ((ent L k).1 = nm)) from rfl)
        obtain ⟨x, hx⟩ : ∃ x, x = ent L k := ⟨_, rfl⟩
        rw [← hx] at q0 q1 q2
        have HI2 := HI.out
        rw [← hx] at HI2
        have HI3 := Lib.hid HI2
        obtain ⟨x0, x1, x2⟩ := x
        have HX := Lib.hid hx
        clear hc hx HI2 HI
        simp only at q0 q1 q2
        have hC := rclass_any x1 w1
        obtain ⟨d, hd⟩ : ∃ d, d = cls x1 := ⟨_, rfl⟩
        rw [← hd] at hC
        have HC := Lib.hid hC
        have HD := Lib.hid hd
        clear hC hd
        have hkk : (x0.toList == nm.toList) = decide (x0 = nm) := eqC x0 nm
        by_cases hdc : d = c
        · have hdb : (d == c) = true := by rw [beq_iff_eq]; exact hdc
          have HDC := Lib.hid hdc
          clear hdc
          by_cases hxn : x0 = nm
          · rw [decide_eq_true hxn] at hkk
            have HXN := Lib.hid hxn
            clear hxn
            go_wp2_with fail
            refine HC.out.mono ?_
            rintro e w2 ⟨rfl, rfl⟩
            go_wp2_with (refine wpList_store_own rfl 26 (.tmp 6) (.tmp 39) rfl w.heap.size #[.string x0, .int .i64 x1, .int .i64 x2] rfl rfl 26 _ HN1.out op_size rfl (one3 _ _ _) w.heap.size w HB1.out (Nat.le_refl _) ?_; intro w3 hg3 hb3 hs3)
            refine ret_op rfl rfl rfl rfl hg3.out ⟨?_, hb3.out⟩
            have hb : isB c nm (ent L k) = true := by
              rw [← HX.out, HI3.out]
              show (decide (cls x1 = c) && decide (x0 = nm)) = true
              rw [decide_eq_true (HD.out ▸ HDC.out), decide_eq_true HXN.out]
              rfl
            unfold LookEnd lookE lookB
            rw [HLK.out, findM_first (by have := HLEN.out; omega) hb HNO.out, ← HX.out]
            rfl
          · rw [decide_eq_false hxn] at hkk
            have HXN := Lib.hid hxn
            clear hxn
            go_wp2_with fail
            refine HC.out.mono ?_
            rintro e w2 ⟨rfl, rfl⟩
            go_wp2_with fail
            go_round
            case rel =>
              refine ⟨k + 1, by omega, by go_num, fun j hj => ?_⟩
              by_cases hjk : j = k
              · subst hjk
                rw [← HX.out, HI3.out]
                show (decide (cls x1 = c) && decide (x0 = nm)) = false
                rw [decide_eq_false HXN.out, Bool.and_false]
              · exact HNO.out j (by omega)
            case measure => simp [intOf]; omega
        · have hdb : (d == c) = false := by rw [beq_eq_false_iff_ne]; exact hdc
          have HDC := Lib.hid hdc
          clear hdc
          go_wp2_with fail
          refine HC.out.mono ?_
          rintro e w2 ⟨rfl, rfl⟩
          go_wp2_with fail
          go_round
          case rel =>
            refine ⟨k + 1, by omega, by go_num, fun j hj => ?_⟩
            by_cases hjk : j = k
            · subst hjk
              rw [← HX.out, HI3.out]
              show (decide (cls x1 = c) && decide (x0 = nm)) = false
              rw [decide_eq_false (fun h => HDC.out (HD.out ▸ h)), Bool.false_and]
            · exact HNO.out j (by omega)
          case measure => simp [intOf]; omega
      · obtain rfl : k = n := by omega
        go_wp2_with (refine wpList_store_own rfl 26 (.tmp 6) (.tmp 40) rfl w.heap.size #[.string ⟨#[]⟩, .int .i64 0, .int .i64 0] rfl rfl 26 _ HN1.out op_size rfl (one3 _ _ _) w.heap.size w HB1.out (Nat.le_refl _) ?_; intro w3 hg3 hb3 hs3)
        refine ret_op rfl rfl rfl rfl hg3.out ⟨?_, hb3.out⟩
        unfold LookEnd lookE lookB
        rw [HLK.out, findM_none fun j hj => HNO.out j (by have := HLEN.out; omega)]
        rfl

set_option maxHeartbeats 2000000 in
theorem ris_any (A : Option Addr) (n cap : Nat) (nm : ByteArray) (L : List Ent) (w : World) (hm : n ≤ 9223372036854775807) (h : OpsIn w w.heap.size A n L) :
    Calls Tryd.prog 27 #[.slice A n cap, .string nm] w fun e w' => e = .returned (.bool (lookB L 1 nm || lookB L 2 nm || lookB L 3 nm)) ∧ Below w.heap.size w w' := by
  have hF : ∀ (c : Int) (W : World), Below w.heap.size w W → Calls Tryd.prog 25 #[.slice A n cap, .int .i64 c, .string nm] W fun e w' => e = .returned (.tuple #[opV (lookE L c nm), .bool (lookB L c nm)]) ∧ Below W.heap.size W w' :=
    fun c W hW => rfind_any A n cap c nm L W hm (h.on hW hW.size)
  have hF1 := hF 1
  have hF2 := hF 2
  have hF3 := hF 3
  unfold opV at hF1 hF2 hF3
  obtain ⟨⟨a1, b1, c1⟩, he1⟩ : ∃ x, x = lookE L 1 nm := ⟨_, rfl⟩
  obtain ⟨v1, hv1⟩ : ∃ v, v = lookB L 1 nm := ⟨_, rfl⟩
  rw [← he1, ← hv1] at hF1
  rw [← hv1]
  have HF1 := Lib.hid hF1
  obtain ⟨⟨a2, b2, c2⟩, he2⟩ : ∃ x, x = lookE L 2 nm := ⟨_, rfl⟩
  obtain ⟨v2, hv2⟩ : ∃ v, v = lookB L 2 nm := ⟨_, rfl⟩
  rw [← he2, ← hv2] at hF2
  rw [← hv2]
  have HF2 := Lib.hid hF2
  obtain ⟨⟨a3, b3, c3⟩, he3⟩ : ∃ x, x = lookE L 3 nm := ⟨_, rfl⟩
  obtain ⟨v3, hv3⟩ : ∃ v, v = lookB L 3 nm := ⟨_, rfl⟩
  rw [← he3, ← hv3] at hF3
  rw [← hv3]
  have HF3 := Lib.hid hF3
  clear hF hF1 hF2 hF3 he1 he2 he3 hv1 hv2 hv3 h
  go_enter Tryd.func27, Tryd.ntmps27
  go_wp2_with fail
  refine (HF1.out _ (Below.refl _ _)).mono ?_
  rintro e w1 ⟨rfl, hb1⟩
  have HB1 := Lib.hid hb1
  clear hb1
  go_wp2_with (refine wpList_store_own rfl 26 (.tmp 5) (.tmp 15) rfl w1.heap.size #[.string a1, .int .i64 b1, .int .i64 c1] rfl rfl 26 _ (heap_alloc_new w1 _) op_size rfl (one3 _ _ _) w.heap.size w (HB1.out.alloc HB1.out.size _) HB1.out.size ?_; intro w2 hg2 hb2 hs2)
  refine (HF2.out _ hb2.out).mono ?_
  rintro e w3 ⟨rfl, hb3⟩
  have HB3 := Lib.hid (hb2.out.trans (hb3.mono hb2.out.size))
  clear hb3
  go_wp2_with (refine wpList_store_own rfl 26 (.tmp 7) (.tmp 21) rfl w3.heap.size #[.string a2, .int .i64 b2, .int .i64 c2] rfl rfl 26 _ (heap_alloc_new w3 _) op_size rfl (one3 _ _ _) w.heap.size w (HB3.out.alloc HB3.out.size _) HB3.out.size ?_; intro w4 hg4 hb4 hs4)
  refine (HF3.out _ hb4.out).mono ?_
  rintro e w5 ⟨rfl, hb5⟩
  have HB5 := Lib.hid (hb4.out.trans (hb5.mono hb4.out.size))
  clear hb5
  cases v1
  · cases v2
    · go_wp2_with (refine wpList_store_own rfl 26 (.tmp 9) (.tmp 27) rfl w5.heap.size #[.string a3, .int .i64 b3, .int .i64 c3] rfl rfl 26 _ (heap_alloc_new w5 _) op_size rfl (one3 _ _ _) w.heap.size w (HB5.out.alloc HB5.out.size _) HB5.out.size ?_; intro w6 hg6 hb6 hs6)
      go_ret
      exact ⟨rfl, hb6.out⟩
    · go_wp2_with (refine wpList_store_own rfl 26 (.tmp 9) (.tmp 27) rfl w5.heap.size #[.string a3, .int .i64 b3, .int .i64 c3] rfl rfl 26 _ (heap_alloc_new w5 _) op_size rfl (one3 _ _ _) w.heap.size w (HB5.out.alloc HB5.out.size _) HB5.out.size ?_; intro w6 hg6 hb6 hs6)
      go_ret
      exact ⟨rfl, hb6.out⟩
  · go_wp2_with (refine wpList_store_own rfl 26 (.tmp 9) (.tmp 27) rfl w5.heap.size #[.string a3, .int .i64 b3, .int .i64 c3] rfl rfl 26 _ (heap_alloc_new w5 _) op_size rfl (one3 _ _ _) w.heap.size w (HB5.out.alloc HB5.out.size _) HB5.out.size ?_; intro w6 hg6 hb6 hs6)
    go_ret
    exact ⟨rfl, hb6.out⟩
end Go.Proofs.YtgbfkchjcjdnnaaDoor
