/-
  Set of the reference returns the table or the error that Set of package ops returns.
-/
import Derived.Test.YtgbfkchjcjdnnaaDoorSame7
namespace Go.Proofs.YtgbfkchjcjdnnaaDoor
set_option linter.unusedVariables false
set_option linter.unusedSimpArgs false
open Go.RowKit Q

set_option maxHeartbeats 2000000 in
theorem rset_arg (A : Option Addr) (n cap : Nat) (p t : Int) (nm : ByteArray) (L : List Ent) (w : World) (hm : n ≤ 9223372036854775807) (h : OpsIn w w.heap.size A n L) (hok : argB L p t nm = false) : Calls Tryd.prog 28 #[.slice A n cap, .int .i64 p, .int .i64 t, .string nm] w fun e w' => ResEnd w' L p t nm e ∧ Below w.heap.size w w' := by
  have hC : ∀ W : World, Calls Tryd.prog 32 #[.int .i64 t] W fun e w' => e = .returned (.int .i64 (cls t)) ∧ W = w' := fun W => rclass_any t W
  have hV := rvalid_any A n cap L w hm h
  have HZ := Lib.hid (err_arg hok)
  rcases argB_no hok with h1 | ⟨h1, h2⟩ | ⟨h1, h2, h3⟩ | ⟨h1, h2, h3, h4⟩
  · rw [h1] at hV
    have HV := Lib.hid hV
    have HC := Lib.hid hC
    clear hV hC h hok h1
    go_enter Tryd.func28, Tryd.ntmps28
    go_wp2_with fail
    refine (HC.out _).mono ?_
    rintro e w1 ⟨rfl, rfl⟩
    go_wp2_with fail
    refine HV.out.mono ?_
    rintro e w1 ⟨rfl, hb1⟩
    have HB1 := Lib.hid hb1
    clear hb1
    go_wp2_with fail
    go_ret2
    exact ⟨res_bad HZ.out (by decide) rfl, HB1.out⟩
  · rw [h1] at hV
    have HV := Lib.hid hV
    have HC := Lib.hid hC
    unfold prB at h2
    simp only [Bool.and_eq_false_iff, decide_eq_false_iff_not] at h2
    clear hV hC h hok h1
    by_cases hp : p < 0
    · clear h2
      go_enter Tryd.func28, Tryd.ntmps28
      go_wp2_with fail
      refine (HC.out _).mono ?_
      rintro e w1 ⟨rfl, rfl⟩
      go_wp2_with fail
      refine HV.out.mono ?_
      rintro e w1 ⟨rfl, hb1⟩
      have HB1 := Lib.hid hb1
      clear hb1
      go_wp2_with fail
      go_ret2
      exact ⟨res_bad HZ.out (by decide) rfl, HB1.out⟩
    · have hp' : 1200 < p := by omega
      clear h2
      go_enter Tryd.func28, Tryd.ntmps28
      go_wp2_with fail
      refine (HC.out _).mono ?_
      rintro e w1 ⟨rfl, rfl⟩
      go_wp2_with fail
      refine HV.out.mono ?_
      rintro e w1 ⟨rfl, hb1⟩
      have HB1 := Lib.hid hb1
      clear hb1
      go_wp2_with fail
      go_ret2
      exact ⟨res_bad HZ.out (by decide) rfl, HB1.out⟩
  · rw [h1] at hV
    rw [h3] at hC
    have HV := Lib.hid hV
    have HC := Lib.hid hC
    unfold prB at h2
    simp only [Bool.and_eq_true, decide_eq_true_eq] at h2
    have hp0 : ¬ p < 0 := by omega
    have hp1 : ¬ 1200 < p := by omega
    clear hV hC h hok h1 h3 h2
    go_enter Tryd.func28, Tryd.ntmps28
    go_wp2_with fail
    refine (HC.out _).mono ?_
    rintro e w1 ⟨rfl, rfl⟩
    go_wp2_with fail
    refine HV.out.mono ?_
    rintro e w1 ⟨rfl, hb1⟩
    have HB1 := Lib.hid hb1
    clear hb1
    go_wp2_with fail
    go_ret2
    exact ⟨res_bad HZ.out (by decide) rfl, HB1.out⟩
  · rw [h1] at hV
    obtain ⟨c, hc⟩ : ∃ c, c = cls t := ⟨_, rfl⟩
    rw [← hc] at hC h3
    have hcb : (c == 0) = false := by rw [beq_eq_false_iff_ne]; exact h3
    have HV := Lib.hid hV
    have HC := Lib.hid hC
    unfold prB at h2
    simp only [Bool.and_eq_true, decide_eq_true_eq] at h2
    have hp0 : ¬ p < 0 := by omega
    have hp1 : ¬ 1200 < p := by omega
    have h5 : 100 < nm.size := by omega
    clear hV hC h hok h1 h2 h3 h4 hc
    go_enter Tryd.func28, Tryd.ntmps28
    go_wp2_with fail
    refine (HC.out _).mono ?_
    rintro e w1 ⟨rfl, rfl⟩
    go_wp2_with fail
    refine HV.out.mono ?_
    rintro e w1 ⟨rfl, hb1⟩
    have HB1 := Lib.hid hb1
    clear hb1
    go_wp2_with fail
    go_ret2
    exact ⟨res_bad HZ.out (by decide) rfl, HB1.out⟩

set_option maxHeartbeats 4000000 in
theorem rset_state (A : Option Addr) (n cap : Nat) (p t : Int) (nm : ByteArray) (L : List Ent) (w : World) (hm : n ≤ 9223372036854775807) (h : OpsIn w w.heap.size A n L) (hok : argB L p t nm = true) (hmay : mayB L p (cls t) nm = false) : Calls Tryd.prog 28 #[.slice A n cap, .int .i64 p, .int .i64 t, .string nm] w fun e w' => ResEnd w' L p t nm e ∧ Below w.heap.size w w' := by
  have hC : ∀ W : World, Calls Tryd.prog 32 #[.int .i64 t] W fun e w' => e = .returned (.int .i64 (cls t)) ∧ W = w' := fun W => rclass_any t W
  have hV := rvalid_any A n cap L w hm h
  obtain ⟨h1, h2, h3, h4⟩ := argB_yes hok
  have hn : n ≤ 100 := by have := (goodB_iff.1 h1).1; have := h.len; omega
  have hF : ∀ (d : Int) (W : World), Below w.heap.size w W → Calls Tryd.prog 25 #[.slice A n cap, .int .i64 d, .string nm] W fun e w' => e = .returned (.tuple #[opV (lookE L d nm), .bool (lookB L d nm)]) ∧ Below W.heap.size W w' :=
    fun d W hW => rfind_any A n cap d nm L W hm (h.on hW hW.size)
  have hLB : ∀ d, lookB L d nm = (findM L d nm).isSome := fun d => by unfold lookB lookM; rw [h1, if_pos rfl]
  unfold opV at hF
  obtain ⟨c, hc⟩ : ∃ c, c = cls t := ⟨_, rfl⟩
  have hcr : c = 1 ∨ c = 2 ∨ c = 3 := by have := cls_range t; omega
  rw [h1] at hV
  rw [← hc] at hC h3
  unfold prB at h2
  simp only [Bool.and_eq_true, decide_eq_true_eq] at h2
  have hp0 : ¬ p < 0 := by omega
  have hp1 : ¬ 1200 < p := by omega
  have hp2 : 0 ≤ p := by omega
  have hcb : (c == 0) = false := by rw [beq_eq_false_iff_ne]; exact h3
  have hsz : ¬ 100 < nm.size := by omega
  have k1 : (nm.toList == [44]) = decide (nm = sComma) := eqC' nm [44]
  have k2 : (nm.toList == [124]) = decide (nm = sBar) := eqC' nm [124]
  have k3 : (nm.toList == [91, 93]) = decide (nm = sList) := eqC' nm [91, 93]
  have k4 : (nm.toList == [123, 125]) = decide (nm = sCurly) := eqC' nm [123, 125]
  have HZ := Lib.hid (err_state hok hmay)
  rw [← hc] at hmay
  have hmm : mayB L p c nm = if nm = sComma ∨ nm = sList ∨ nm = sCurly then false else if nm = sBar then decide (c = 2) && (decide (p = 0) || decide (1001 ≤ p)) else decide (p = 0) || (findM L (riv c) nm).isNone := rfl
  rw [hmay] at hmm
  have HV := Lib.hid hV
  have HC := Lib.hid hC
  have HFZ := Lib.hid (find_zero h1 nm)
  clear hV hC h hok h1 h2 h3 h4 hc hmay
  by_cases n1 : nm = sComma
  · rw [decide_eq_true n1] at k1
    clear hF hLB k2 k3 k4 hmm n1
    go_enter Tryd.func28, Tryd.ntmps28
    go_wp2_with fail
    refine (HC.out _).mono ?_
    rintro e w1 ⟨rfl, rfl⟩
    go_wp2_with fail
    refine HV.out.mono ?_
    rintro e w1 ⟨rfl, hb1⟩
    have HB1 := Lib.hid hb1
    clear hb1
    go_wp2_with fail
    go_ret2
    exact ⟨res_bad HZ.out (by decide) rfl, HB1.out⟩
  rw [decide_eq_false n1] at k1
  by_cases n3 : nm = sList
  · rw [decide_eq_true n3] at k3
    clear hF hLB k2 k4 hmm n1 n3
    go_enter Tryd.func28, Tryd.ntmps28
    go_wp2_with fail
    refine (HC.out _).mono ?_
    rintro e w1 ⟨rfl, rfl⟩
    go_wp2_with fail
    refine HV.out.mono ?_
    rintro e w1 ⟨rfl, hb1⟩
    have HB1 := Lib.hid hb1
    clear hb1
    go_wp2_with fail
    go_ret2
    exact ⟨res_bad HZ.out (by decide) rfl, HB1.out⟩
  rw [decide_eq_false n3] at k3
  by_cases n4 : nm = sCurly
  · rw [decide_eq_true n4] at k4
    clear hF hLB k2 hmm n1 n3 n4
    go_enter Tryd.func28, Tryd.ntmps28
    go_wp2_with fail
    refine (HC.out _).mono ?_
    rintro e w1 ⟨rfl, rfl⟩
    go_wp2_with fail
    refine HV.out.mono ?_
    rintro e w1 ⟨rfl, hb1⟩
    have HB1 := Lib.hid hb1
    clear hb1
    go_wp2_with fail
    go_ret2
    exact ⟨res_bad HZ.out (by decide) rfl, HB1.out⟩
  rw [decide_eq_false n4] at k4
  rw [if_neg (by simp [n1, n3, n4])] at hmm
  clear n1 n3 n4
  by_cases n2 : nm = sBar
  · rw [decide_eq_true n2] at k2
    rw [if_pos n2] at hmm
    by_cases hc2 : c = 2
    · rw [decide_eq_true hc2, Bool.true_and] at hmm
      have hmm2 := hmm.symm
      simp only [Bool.or_eq_false_iff, decide_eq_false_iff_not] at hmm2
      have hpp : 0 < p := by omega
      have hpl : p < 1001 := by omega
      have hcn : (c != 2) = false := by rw [bne_eq_false_iff_eq]; exact hc2
      subst hc2
      clear hF hLB hmm hmm2 n2
      go_enter Tryd.func28, Tryd.ntmps28
      go_wp2_with fail
      refine (HC.out _).mono ?_
      rintro e w1 ⟨rfl, rfl⟩
      go_wp2_with fail
      refine HV.out.mono ?_
      rintro e w1 ⟨rfl, hb1⟩
      have HB1 := Lib.hid hb1
      clear hb1
      go_wp2_with fail
      go_ret2
      exact ⟨res_bad HZ.out (by decide) rfl, HB1.out⟩
    · have hcn : (c != 2) = true := by rw [bne_iff_ne]; exact hc2
      clear hF hLB hmm n2 hc2
      go_enter Tryd.func28, Tryd.ntmps28
      go_wp2_with fail
      refine (HC.out _).mono ?_
      rintro e w1 ⟨rfl, rfl⟩
      go_wp2_with fail
      refine HV.out.mono ?_
      rintro e w1 ⟨rfl, hb1⟩
      have HB1 := Lib.hid hb1
      clear hb1
      go_wp2_with fail
      go_ret2
      exact ⟨res_bad HZ.out (by decide) rfl, HB1.out⟩
  rw [decide_eq_false n2] at k2
  rw [if_neg n2] at hmm
  have hmm2 := hmm.symm
  simp only [Bool.or_eq_false_iff, decide_eq_false_iff_not] at hmm2
  have hpp : 0 < p := by omega
  have hf1 : lookB L (riv c) nm = true := by
    rw [hLB]
    cases hx : findM L (riv c) nm
    · rw [hx] at hmm2; cases hmm2.2
    · rfl
  clear hmm hmm2 n2
  rcases hcr with rfl | rfl | rfl
  · have h0 := HFZ.out
    rw [hLB, show riv 1 = 0 from rfl, h0] at hf1
    cases hf1
  · have hF3 := hF 3
    rw [show lookB L 3 nm = true from hf1] at hF3
    obtain ⟨⟨a1, b1, c1⟩, he1⟩ : ∃ x, x = lookE L 3 nm := ⟨_, rfl⟩
    rw [← he1] at hF3
    have HF := Lib.hid hF3
    clear hF hLB hf1 hF3 he1
    go_enter Tryd.func28, Tryd.ntmps28
    go_wp2_with fail
    refine (HC.out _).mono ?_
    rintro e w1 ⟨rfl, rfl⟩
    go_wp2_with fail
    refine HV.out.mono ?_
    rintro e w1 ⟨rfl, hb1⟩
    have HB1 := Lib.hid hb1
    clear hb1
    go_wp2_with fail
    refine (HF.out _ HB1.out).mono ?_
    rintro e w2 ⟨rfl, hb2⟩
    have HB2 := Lib.hid (HB1.out.trans (hb2.mono HB1.out.size))
    clear hb2
    go_wp2_with (refine wpList_store_own rfl 26 (.tmp 11) (.tmp 74) rfl w2.heap.size #[.string a1, .int .i64 b1, .int .i64 c1] rfl rfl 26 _ (heap_alloc_new w2 _) op_size rfl (one3 _ _ _) w.heap.size w (HB2.out.alloc HB2.out.size _) HB2.out.size ?_; intro w3 hg3 hb3 hs3)
    go_ret2
    exact ⟨res_bad HZ.out (by decide) rfl, hb3.out⟩
  · have hF3 := hF 2
    rw [show lookB L 2 nm = true from hf1] at hF3
    obtain ⟨⟨a1, b1, c1⟩, he1⟩ : ∃ x, x = lookE L 2 nm := ⟨_, rfl⟩
    rw [← he1] at hF3
    have HF := Lib.hid hF3
    clear hF hLB hf1 hF3 he1
    go_enter Tryd.func28, Tryd.ntmps28
    go_wp2_with fail
    refine (HC.out _).mono ?_
    rintro e w1 ⟨rfl, rfl⟩
    go_wp2_with fail
    refine HV.out.mono ?_
    rintro e w1 ⟨rfl, hb1⟩
    have HB1 := Lib.hid hb1
    clear hb1
    go_wp2_with fail
    refine (HF.out _ HB1.out).mono ?_
    rintro e w2 ⟨rfl, hb2⟩
    have HB2 := Lib.hid (HB1.out.trans (hb2.mono HB1.out.size))
    clear hb2
    go_wp2_with (refine wpList_store_own rfl 26 (.tmp 11) (.tmp 74) rfl w2.heap.size #[.string a1, .int .i64 b1, .int .i64 c1] rfl rfl 26 _ (heap_alloc_new w2 _) op_size rfl (one3 _ _ _) w.heap.size w (HB2.out.alloc HB2.out.size _) HB2.out.size ?_; intro w3 hg3 hb3 hs3)
    go_ret2
    exact ⟨res_bad HZ.out (by decide) rfl, hb3.out⟩

set_option maxHeartbeats 4000000 in
theorem rset_zero (A : Option Addr) (n cap : Nat) (p t : Int) (nm : ByteArray) (L : List Ent) (w : World) (hm : n ≤ 9223372036854775807) (h : OpsIn w w.heap.size A n L) (hok : argB L p t nm = true) (hmay : mayB L p (cls t) nm = true) (hp : p = 0) : Calls Tryd.prog 28 #[.slice A n cap, .int .i64 p, .int .i64 t, .string nm] w fun e w' => ResEnd w' L p t nm e ∧ Below w.heap.size w w' := by
  have hC : ∀ W : World, Calls Tryd.prog 32 #[.int .i64 t] W fun e w' => e = .returned (.int .i64 (cls t)) ∧ W = w' := fun W => rclass_any t W
  have hV := rvalid_any A n cap L w hm h
  obtain ⟨h1, h2, h3, h4⟩ := argB_yes hok
  have hn : n ≤ 100 := by have := (goodB_iff.1 h1).1; have := h.len; omega
  have hF : ∀ (d : Int) (W : World), Below w.heap.size w W → Calls Tryd.prog 25 #[.slice A n cap, .int .i64 d, .string nm] W fun e w' => e = .returned (.tuple #[opV (lookE L d nm), .bool (lookB L d nm)]) ∧ Below W.heap.size W w' :=
    fun d W hW => rfind_any A n cap d nm L W hm (h.on hW hW.size)
  have hLB : ∀ d, lookB L d nm = (findM L d nm).isSome := fun d => by unfold lookB lookM; rw [h1, if_pos rfl]
  unfold opV at hF
  obtain ⟨c, hc⟩ : ∃ c, c = cls t := ⟨_, rfl⟩
  have hcr : c = 1 ∨ c = 2 ∨ c = 3 := by have := cls_range t; omega
  rw [h1] at hV
  rw [← hc] at hC h3
  unfold prB at h2
  simp only [Bool.and_eq_true, decide_eq_true_eq] at h2
  have hp0 : ¬ p < 0 := by omega
  have hp1 : ¬ 1200 < p := by omega
  have hp2 : 0 ≤ p := by omega
  have hcb : (c == 0) = false := by rw [beq_eq_false_iff_ne]; exact h3
  have hsz : ¬ 100 < nm.size := by omega
  have k1 : (nm.toList == [44]) = decide (nm = sComma) := eqC' nm [44]
  have k2 : (nm.toList == [124]) = decide (nm = sBar) := eqC' nm [124]
  have k3 : (nm.toList == [91, 93]) = decide (nm = sList) := eqC' nm [91, 93]
  have k4 : (nm.toList == [123, 125]) = decide (nm = sCurly) := eqC' nm [123, 125]
  have HS := (goodB_iff.1 h1).sorted
  have hl100 : L.length ≤ 100 := (goodB_iff.1 h1).1
  have hWO : ∀ W : World, Below w.heap.size w W → Calls Tryd.prog 49 #[.slice A n cap, .int .i64 c, .string nm] W fun e w' => OwnEnd w' (withoutM L c nm) e ∧ Below W.heap.size W w' :=
    fun W hW => without_any A n cap c nm L W (by omega) (h.on hW hW.size)
  have hWL := without_len HS nm c
  have hWI : ∀ (A5 : Option Addr) (c5 : Nat) (W : World), Below w.heap.size w W → OpsIn W W.heap.size A5 (withoutM L c nm).length (withoutM L c nm) → Calls Tryd.prog 50 #[.slice A5 (withoutM L c nm).length c5, .agg #[.string nm, .int .i64 t, .int .i64 p]] W fun e w' => OwnEnd w' (withM (nm, t, p) (withoutM L c nm)) e ∧ Below W.heap.size W w' :=
    fun A5 c5 W hW ho => with_any A5 (withoutM L c nm).length c5 nm t p (withoutM L c nm) W (by omega) ho
  rw [← hc] at hmay
  have hmm : mayB L p c nm = if nm = sComma ∨ nm = sList ∨ nm = sCurly then false else if nm = sBar then decide (c = 2) && (decide (p = 0) || decide (1001 ≤ p)) else decide (p = 0) || (findM L (riv c) nm).isNone := rfl
  rw [hmay] at hmm
  have n134 : ¬ (nm = sComma ∨ nm = sList ∨ nm = sCurly) := fun hx => by rw [if_pos hx] at hmm; cases hmm
  rw [if_neg n134] at hmm
  rw [decide_eq_false (fun hx => n134 (.inl hx))] at k1
  rw [decide_eq_false (fun hx => n134 (.inr (.inl hx)))] at k3
  rw [decide_eq_false (fun hx => n134 (.inr (.inr hx)))] at k4
  have HV := Lib.hid hV
  have HC := Lib.hid hC
  have HWO := Lib.hid hWO
  have HWI := Lib.hid hWI
  have hfull : fullB L p (cls t) nm = false := by unfold fullB; rw [decide_eq_false (show ¬ 0 < p by omega)]; rfl
  have HZ := Lib.hid (err_ok hok (hc ▸ hmay) hfull).1
  have HRES := Lib.hid (show resM L p t nm = withoutM L c nm by rw [(err_ok hok (hc ▸ hmay) hfull).2, hc]; unfold setM; rw [if_neg (by omega)])
  have HLM := Lib.hid (show (withoutM L c nm).length ≤ 100 by omega)
  clear hfull hc
  have hrest : (nm = sBar ∧ c = 2 ∧ (p = 0 ∨ 1001 ≤ p)) ∨ (nm ≠ sBar ∧ (p = 0 ∨ lookB L (riv c) nm = false)) := by
    by_cases n2 : nm = sBar
    · rw [if_pos n2] at hmm
      have hm2 := hmm.symm
      simp only [Bool.and_eq_true, Bool.or_eq_true, decide_eq_true_eq] at hm2
      exact .inl ⟨n2, hm2⟩
    · rw [if_neg n2] at hmm
      have hm2 := hmm.symm
      simp only [Bool.or_eq_true, decide_eq_true_eq] at hm2
      refine .inr ⟨n2, hm2.imp id fun hx => ?_⟩
      rw [hLB]
      cases hy : findM L (riv c) nm
      · rfl
      · rw [hy] at hx; cases hx
  have hbar : nm = sBar → lookB L 3 nm = false := fun hx => by rw [hLB, hx, find_bar h1]; rfl
  clear hV hC hWO hWI h hok h1 h2 h3 h4 hmay hmm n134 hF hLB HS hWL hbar
  subst hp
  rcases hrest with ⟨n2, rfl, _⟩ | ⟨n2, _⟩
  · rw [decide_eq_true n2] at k2
    have hcn : ((2 : Int) != 2) = false := rfl
    clear n2
    go_enter Tryd.func28, Tryd.ntmps28
    go_wp2_with fail
    refine (HC.out _).mono ?_
    rintro e w1 ⟨rfl, rfl⟩
    go_wp2_with fail
    refine HV.out.mono ?_
    rintro e w1 ⟨rfl, hb1⟩
    have HB1 := Lib.hid hb1
    clear hb1
    go_wp2_with fail
    refine (HWO.out _ HB1.out).mono ?_
    rintro e w5 ⟨⟨A5, c5, rfl, hc5, ho5⟩, hb5⟩
    have HO5 := Lib.hid ho5
    have HB5 := Lib.hid (HB1.out.trans (hb5.mono HB1.out.size))
    clear ho5 hb5
    have hlm : (withoutM L 2 nm).length ≤ 100 := HLM.out
    go_wp2_with fail
    go_ret2
    refine ⟨?_, HB5.out⟩
    unfold ResEnd
    rw [HZ.out, HRES.out]
    exact ⟨A5, c5, rfl, HO5.out⟩
  · rw [decide_eq_false n2] at k2
    clear n2
    rcases hcr with rfl | rfl | rfl
    all_goals
      go_enter Tryd.func28, Tryd.ntmps28
      go_wp2_with fail
      refine (HC.out _).mono ?_
      rintro e w1 ⟨rfl, rfl⟩
      go_wp2_with fail
      refine HV.out.mono ?_
      rintro e w1 ⟨rfl, hb1⟩
      have HB1 := Lib.hid hb1
      clear hb1
      go_wp2_with fail
      refine (HWO.out _ HB1.out).mono ?_
      rintro e w5 ⟨⟨A5, c5, rfl, hc5, ho5⟩, hb5⟩
      have HO5 := Lib.hid ho5
      have HB5 := Lib.hid (HB1.out.trans (hb5.mono HB1.out.size))
      clear ho5 hb5
      have hlm : (withoutM L _ nm).length ≤ 100 := HLM.out
      go_wp2_with fail
      go_ret2
      refine ⟨?_, HB5.out⟩
      unfold ResEnd
      rw [HZ.out, HRES.out]
      exact ⟨A5, c5, rfl, HO5.out⟩

set_option maxHeartbeats 8000000 in
theorem rset_ok (A : Option Addr) (n cap : Nat) (p t : Int) (nm : ByteArray) (L : List Ent) (w : World) (hm : n ≤ 9223372036854775807) (h : OpsIn w w.heap.size A n L) (hok : argB L p t nm = true) (hmay : mayB L p (cls t) nm = true) (hp : p ≠ 0) (hfull : fullB L p (cls t) nm = false) : Calls Tryd.prog 28 #[.slice A n cap, .int .i64 p, .int .i64 t, .string nm] w fun e w' => ResEnd w' L p t nm e ∧ Below w.heap.size w w' := by
  have hC : ∀ W : World, Calls Tryd.prog 32 #[.int .i64 t] W fun e w' => e = .returned (.int .i64 (cls t)) ∧ W = w' := fun W => rclass_any t W
  have hV := rvalid_any A n cap L w hm h
  obtain ⟨h1, h2, h3, h4⟩ := argB_yes hok
  have hn : n ≤ 100 := by have := (goodB_iff.1 h1).1; have := h.len; omega
  have hF : ∀ (d : Int) (W : World), Below w.heap.size w W → Calls Tryd.prog 25 #[.slice A n cap, .int .i64 d, .string nm] W fun e w' => e = .returned (.tuple #[opV (lookE L d nm), .bool (lookB L d nm)]) ∧ Below W.heap.size W w' :=
    fun d W hW => rfind_any A n cap d nm L W hm (h.on hW hW.size)
  have hLB : ∀ d, lookB L d nm = (findM L d nm).isSome := fun d => by unfold lookB lookM; rw [h1, if_pos rfl]
  unfold opV at hF
  obtain ⟨c, hc⟩ : ∃ c, c = cls t := ⟨_, rfl⟩
  have hcr : c = 1 ∨ c = 2 ∨ c = 3 := by have := cls_range t; omega
  rw [h1] at hV
  rw [← hc] at hC h3
  unfold prB at h2
  simp only [Bool.and_eq_true, decide_eq_true_eq] at h2
  have hp0 : ¬ p < 0 := by omega
  have hp1 : ¬ 1200 < p := by omega
  have hp2 : 0 ≤ p := by omega
  have hcb : (c == 0) = false := by rw [beq_eq_false_iff_ne]; exact h3
  have hsz : ¬ 100 < nm.size := by omega
  have k1 : (nm.toList == [44]) = decide (nm = sComma) := eqC' nm [44]
  have k2 : (nm.toList == [124]) = decide (nm = sBar) := eqC' nm [124]
  have k3 : (nm.toList == [91, 93]) = decide (nm = sList) := eqC' nm [91, 93]
  have k4 : (nm.toList == [123, 125]) = decide (nm = sCurly) := eqC' nm [123, 125]
  have HS := (goodB_iff.1 h1).sorted
  have hl100 : L.length ≤ 100 := (goodB_iff.1 h1).1
  have hWO : ∀ W : World, Below w.heap.size w W → Calls Tryd.prog 49 #[.slice A n cap, .int .i64 c, .string nm] W fun e w' => OwnEnd w' (withoutM L c nm) e ∧ Below W.heap.size W w' :=
    fun W hW => without_any A n cap c nm L W (by omega) (h.on hW hW.size)
  have hWL := without_len HS nm c
  have hWI : ∀ (A5 : Option Addr) (c5 : Nat) (W : World), Below w.heap.size w W → OpsIn W W.heap.size A5 (withoutM L c nm).length (withoutM L c nm) → Calls Tryd.prog 50 #[.slice A5 (withoutM L c nm).length c5, .agg #[.string nm, .int .i64 t, .int .i64 p]] W fun e w' => OwnEnd w' (withM (nm, t, p) (withoutM L c nm)) e ∧ Below W.heap.size W w' :=
    fun A5 c5 W hW ho => with_any A5 (withoutM L c nm).length c5 nm t p (withoutM L c nm) W (by omega) ho
  rw [← hc] at hmay
  have hmm : mayB L p c nm = if nm = sComma ∨ nm = sList ∨ nm = sCurly then false else if nm = sBar then decide (c = 2) && (decide (p = 0) || decide (1001 ≤ p)) else decide (p = 0) || (findM L (riv c) nm).isNone := rfl
  rw [hmay] at hmm
  have n134 : ¬ (nm = sComma ∨ nm = sList ∨ nm = sCurly) := fun hx => by rw [if_pos hx] at hmm; cases hmm
  rw [if_neg n134] at hmm
  rw [decide_eq_false (fun hx => n134 (.inl hx))] at k1
  rw [decide_eq_false (fun hx => n134 (.inr (.inl hx)))] at k3
  rw [decide_eq_false (fun hx => n134 (.inr (.inr hx)))] at k4
  have HV := Lib.hid hV
  have HC := Lib.hid hC
  have HWO := Lib.hid hWO
  have HWI := Lib.hid hWI
  have hpp : 0 < p := by omega
  have hsm : setM L p t nm = withM (nm, t, p) (withoutM L c nm) := by rw [hc]; unfold setM; rw [if_pos hpp]
  have hfi := full_iff HS hl100 nm t p
  rw [hfull, hsm] at hfi
  have HZ := Lib.hid (err_ok hok (hc ▸ hmay) hfull).1
  have HRES := Lib.hid (show resM L p t nm = withM (nm, t, p) (withoutM L c nm) by rw [(err_ok hok (hc ▸ hmay) hfull).2, hsm])
  have HLM := Lib.hid (show (withM (nm, t, p) (withoutM L c nm)).length ≤ 100 by have := of_decide_eq_false hfi.symm; omega)
  clear hfull hc hsm hfi hp
  have hrest : (nm = sBar ∧ c = 2 ∧ (p = 0 ∨ 1001 ≤ p)) ∨ (nm ≠ sBar ∧ (p = 0 ∨ lookB L (riv c) nm = false)) := by
    by_cases n2 : nm = sBar
    · rw [if_pos n2] at hmm
      have hm2 := hmm.symm
      simp only [Bool.and_eq_true, Bool.or_eq_true, decide_eq_true_eq] at hm2
      exact .inl ⟨n2, hm2⟩
    · rw [if_neg n2] at hmm
      have hm2 := hmm.symm
      simp only [Bool.or_eq_true, decide_eq_true_eq] at hm2
      refine .inr ⟨n2, hm2.imp id fun hx => ?_⟩
      rw [hLB]
      cases hy : findM L (riv c) nm
      · rfl
      · rw [hy] at hx; cases hx
  have hbar : nm = sBar → lookB L 3 nm = false := fun hx => by rw [hLB, hx, find_bar h1]; rfl
  clear hV hC hWO hWI h hok h1 h2 h3 h4 hmay hmm n134 HS hWL
  rcases hrest with ⟨n2, rfl, hpb⟩ | ⟨n2, hno⟩
  · have hF3 := hF 3
    rw [hbar n2] at hF3
    obtain ⟨⟨a1, b1, c1⟩, he1⟩ : ∃ x, x = lookE L 3 nm := ⟨_, rfl⟩
    rw [← he1] at hF3
    have HF := Lib.hid hF3
    rw [decide_eq_true n2] at k2
    have hcn : ((2 : Int) != 2) = false := rfl
    have hpl : ¬ p < 1001 := by omega
    clear n2 hpb hF hF3 he1 hLB hbar
    go_enter Tryd.func28, Tryd.ntmps28
    go_wp2_with fail
    refine (HC.out _).mono ?_
    rintro e w1 ⟨rfl, rfl⟩
    go_wp2_with fail
    refine HV.out.mono ?_
    rintro e w1 ⟨rfl, hb1⟩
    have HB1 := Lib.hid hb1
    clear hb1
    go_wp2_with fail
    refine (HF.out _ HB1.out).mono ?_
    rintro e w2 ⟨rfl, hb2⟩
    have HB2 := Lib.hid (HB1.out.trans (hb2.mono HB1.out.size))
    clear hb2
    go_wp2_with (refine wpList_store_own rfl 26 (.tmp 11) (.tmp 74) rfl w2.heap.size #[.string a1, .int .i64 b1, .int .i64 c1] rfl rfl 26 _ (heap_alloc_new w2 _) op_size rfl (one3 _ _ _) w.heap.size w (HB2.out.alloc HB2.out.size _) HB2.out.size ?_; intro w3 hg3 hb3 hs3)
    refine (HWO.out _ hb3.out).mono ?_
    rintro e w5 ⟨⟨A5, c5, rfl, hc5, ho5⟩, hb5⟩
    have HO5 := Lib.hid ho5
    have HB5 := Lib.hid (hb3.out.trans (hb5.mono hb3.out.size))
    clear ho5 hb5
    go_wp2_with fail
    refine (HWI.out _ _ _ HB5.out HO5.out).mono ?_
    rintro e w6 ⟨⟨A6, c6, rfl, hc6, ho6⟩, hb6⟩
    have HO6 := Lib.hid ho6
    have HB6 := Lib.hid (HB5.out.trans (hb6.mono HB5.out.size))
    clear ho6 hb6
    have hlm : (withM (nm, t, p) (withoutM L 2 nm)).length ≤ 100 := HLM.out
    go_wp2_with fail
    go_ret2
    refine ⟨?_, HB6.out⟩
    unfold ResEnd
    rw [HZ.out, HRES.out]
    exact ⟨A6, c6, rfl, HO6.out⟩
  · rw [decide_eq_false n2] at k2
    have hno2 : lookB L (riv c) nm = false := hno.resolve_left (by omega)
    clear n2 hno hbar
    rcases hcr with rfl | rfl | rfl
    · clear hF hLB hno2
      go_enter Tryd.func28, Tryd.ntmps28
      go_wp2_with fail
      refine (HC.out _).mono ?_
      rintro e w1 ⟨rfl, rfl⟩
      go_wp2_with fail
      refine HV.out.mono ?_
      rintro e w1 ⟨rfl, hb1⟩
      have HB1 := Lib.hid hb1
      clear hb1
      go_wp2_with fail
      refine (HWO.out _ HB1.out).mono ?_
      rintro e w5 ⟨⟨A5, c5, rfl, hc5, ho5⟩, hb5⟩
      have HO5 := Lib.hid ho5
      have HB5 := Lib.hid (HB1.out.trans (hb5.mono HB1.out.size))
      clear ho5 hb5
      go_wp2_with fail
      refine (HWI.out _ _ _ HB5.out HO5.out).mono ?_
      rintro e w6 ⟨⟨A6, c6, rfl, hc6, ho6⟩, hb6⟩
      have HO6 := Lib.hid ho6
      have HB6 := Lib.hid (HB5.out.trans (hb6.mono HB5.out.size))
      clear ho6 hb6
      have hlm : (withM (nm, t, p) (withoutM L 1 nm)).length ≤ 100 := HLM.out
      go_wp2_with fail
      go_ret2
      refine ⟨?_, HB6.out⟩
      unfold ResEnd
      rw [HZ.out, HRES.out]
      exact ⟨A6, c6, rfl, HO6.out⟩
    · have hF3 := hF 3
      rw [show lookB L 3 nm = false from hno2] at hF3
      obtain ⟨⟨a1, b1, c1⟩, he1⟩ : ∃ x, x = lookE L 3 nm := ⟨_, rfl⟩
      rw [← he1] at hF3
      have HF := Lib.hid hF3
      clear hF hLB hno2 hF3 he1
      go_enter Tryd.func28, Tryd.ntmps28
      go_wp2_with fail
      refine (HC.out _).mono ?_
      rintro e w1 ⟨rfl, rfl⟩
      go_wp2_with fail
      refine HV.out.mono ?_
      rintro e w1 ⟨rfl, hb1⟩
      have HB1 := Lib.hid hb1
      clear hb1
      go_wp2_with fail
      refine (HF.out _ HB1.out).mono ?_
      rintro e w2 ⟨rfl, hb2⟩
      have HB2 := Lib.hid (HB1.out.trans (hb2.mono HB1.out.size))
      clear hb2
      go_wp2_with (refine wpList_store_own rfl 26 (.tmp 11) (.tmp 74) rfl w2.heap.size #[.string a1, .int .i64 b1, .int .i64 c1] rfl rfl 26 _ (heap_alloc_new w2 _) op_size rfl (one3 _ _ _) w.heap.size w (HB2.out.alloc HB2.out.size _) HB2.out.size ?_; intro w3 hg3 hb3 hs3)
      refine (HWO.out _ hb3.out).mono ?_
      rintro e w5 ⟨⟨A5, c5, rfl, hc5, ho5⟩, hb5⟩
      have HO5 := Lib.hid ho5
      have HB5 := Lib.hid (hb3.out.trans (hb5.mono hb3.out.size))
      clear ho5 hb5
      go_wp2_with fail
      refine (HWI.out _ _ _ HB5.out HO5.out).mono ?_
      rintro e w6 ⟨⟨A6, c6, rfl, hc6, ho6⟩, hb6⟩
      have HO6 := Lib.hid ho6
      have HB6 := Lib.hid (HB5.out.trans (hb6.mono HB5.out.size))
      clear ho6 hb6
      have hlm : (withM (nm, t, p) (withoutM L 2 nm)).length ≤ 100 := HLM.out
      go_wp2_with fail
      go_ret2
      refine ⟨?_, HB6.out⟩
      unfold ResEnd
      rw [HZ.out, HRES.out]
      exact ⟨A6, c6, rfl, HO6.out⟩
    · have hF3 := hF 2
      rw [show lookB L 2 nm = false from hno2] at hF3
      obtain ⟨⟨a1, b1, c1⟩, he1⟩ : ∃ x, x = lookE L 2 nm := ⟨_, rfl⟩
      rw [← he1] at hF3
      have HF := Lib.hid hF3
      clear hF hLB hno2 hF3 he1
      go_enter Tryd.func28, Tryd.ntmps28
      go_wp2_with fail
      refine (HC.out _).mono ?_
      rintro e w1 ⟨rfl, rfl⟩
      go_wp2_with fail
      refine HV.out.mono ?_
      rintro e w1 ⟨rfl, hb1⟩
      have HB1 := Lib.hid hb1
      clear hb1
      go_wp2_with fail
      refine (HF.out _ HB1.out).mono ?_
      rintro e w2 ⟨rfl, hb2⟩
      have HB2 := Lib.hid (HB1.out.trans (hb2.mono HB1.out.size))
      clear hb2
      go_wp2_with (refine wpList_store_own rfl 26 (.tmp 11) (.tmp 74) rfl w2.heap.size #[.string a1, .int .i64 b1, .int .i64 c1] rfl rfl 26 _ (heap_alloc_new w2 _) op_size rfl (one3 _ _ _) w.heap.size w (HB2.out.alloc HB2.out.size _) HB2.out.size ?_; intro w3 hg3 hb3 hs3)
      refine (HWO.out _ hb3.out).mono ?_
      rintro e w5 ⟨⟨A5, c5, rfl, hc5, ho5⟩, hb5⟩
      have HO5 := Lib.hid ho5
      have HB5 := Lib.hid (hb3.out.trans (hb5.mono hb3.out.size))
      clear ho5 hb5
      go_wp2_with fail
      refine (HWI.out _ _ _ HB5.out HO5.out).mono ?_
      rintro e w6 ⟨⟨A6, c6, rfl, hc6, ho6⟩, hb6⟩
      have HO6 := Lib.hid ho6
      have HB6 := Lib.hid (HB5.out.trans (hb6.mono HB5.out.size))
      clear ho6 hb6
      have hlm : (withM (nm, t, p) (withoutM L 3 nm)).length ≤ 100 := HLM.out
      go_wp2_with fail
      go_ret2
      refine ⟨?_, HB6.out⟩
      unfold ResEnd
      rw [HZ.out, HRES.out]
      exact ⟨A6, c6, rfl, HO6.out⟩

set_option maxHeartbeats 8000000 in
theorem rset_full (A : Option Addr) (n cap : Nat) (p t : Int) (nm : ByteArray) (L : List Ent) (w : World) (hm : n ≤ 9223372036854775807) (h : OpsIn w w.heap.size A n L) (hok : argB L p t nm = true) (hmay : mayB L p (cls t) nm = true) (hp : p ≠ 0) (hfull : fullB L p (cls t) nm = true) : Calls Tryd.prog 28 #[.slice A n cap, .int .i64 p, .int .i64 t, .string nm] w fun e w' => ResEnd w' L p t nm e ∧ Below w.heap.size w w' := by
  have hC : ∀ W : World, Calls Tryd.prog 32 #[.int .i64 t] W fun e w' => e = .returned (.int .i64 (cls t)) ∧ W = w' := fun W => rclass_any t W
  have hV := rvalid_any A n cap L w hm h
  obtain ⟨h1, h2, h3, h4⟩ := argB_yes hok
  have hn : n ≤ 100 := by have := (goodB_iff.1 h1).1; have := h.len; omega
  have hF : ∀ (d : Int) (W : World), Below w.heap.size w W → Calls Tryd.prog 25 #[.slice A n cap, .int .i64 d, .string nm] W fun e w' => e = .returned (.tuple #[opV (lookE L d nm), .bool (lookB L d nm)]) ∧ Below W.heap.size W w' :=
    fun d W hW => rfind_any A n cap d nm L W hm (h.on hW hW.size)
  have hLB : ∀ d, lookB L d nm = (findM L d nm).isSome := fun d => by unfold lookB lookM; rw [h1, if_pos rfl]
  unfold opV at hF
  obtain ⟨c, hc⟩ : ∃ c, c = cls t := ⟨_, rfl⟩
  have hcr : c = 1 ∨ c = 2 ∨ c = 3 := by have := cls_range t; omega
  rw [h1] at hV
  rw [← hc] at hC h3
  unfold prB at h2
  simp only [Bool.and_eq_true, decide_eq_true_eq] at h2
  have hp0 : ¬ p < 0 := by omega
  have hp1 : ¬ 1200 < p := by omega
  have hp2 : 0 ≤ p := by omega
  have hcb : (c == 0) = false := by rw [beq_eq_false_iff_ne]; exact h3
  have hsz : ¬ 100 < nm.size := by omega
  have k1 : (nm.toList == [44]) = decide (nm = sComma) := eqC' nm [44]
  have k2 : (nm.toList == [124]) = decide (nm = sBar) := eqC' nm [124]
  have k3 : (nm.toList == [91, 93]) = decide (nm = sList) := eqC' nm [91, 93]
  have k4 : (nm.toList == [123, 125]) = decide (nm = sCurly) := eqC' nm [123, 125]
  have HS := (goodB_iff.1 h1).sorted
  have hl100 : L.length ≤ 100 := (goodB_iff.1 h1).1
  have hWO : ∀ W : World, Below w.heap.size w W → Calls Tryd.prog 49 #[.slice A n cap, .int .i64 c, .string nm] W fun e w' => OwnEnd w' (withoutM L c nm) e ∧ Below W.heap.size W w' :=
    fun W hW => without_any A n cap c nm L W (by omega) (h.on hW hW.size)
  have hWL := without_len HS nm c
  have hWI : ∀ (A5 : Option Addr) (c5 : Nat) (W : World), Below w.heap.size w W → OpsIn W W.heap.size A5 (withoutM L c nm).length (withoutM L c nm) → Calls Tryd.prog 50 #[.slice A5 (withoutM L c nm).length c5, .agg #[.string nm, .int .i64 t, .int .i64 p]] W fun e w' => OwnEnd w' (withM (nm, t, p) (withoutM L c nm)) e ∧ Below W.heap.size W w' :=
    fun A5 c5 W hW ho => with_any A5 (withoutM L c nm).length c5 nm t p (withoutM L c nm) W (by omega) ho
  rw [← hc] at hmay
  have hmm : mayB L p c nm = if nm = sComma ∨ nm = sList ∨ nm = sCurly then false else if nm = sBar then decide (c = 2) && (decide (p = 0) || decide (1001 ≤ p)) else decide (p = 0) || (findM L (riv c) nm).isNone := rfl
  rw [hmay] at hmm
  have n134 : ¬ (nm = sComma ∨ nm = sList ∨ nm = sCurly) := fun hx => by rw [if_pos hx] at hmm; cases hmm
  rw [if_neg n134] at hmm
  rw [decide_eq_false (fun hx => n134 (.inl hx))] at k1
  rw [decide_eq_false (fun hx => n134 (.inr (.inl hx)))] at k3
  rw [decide_eq_false (fun hx => n134 (.inr (.inr hx)))] at k4
  have HV := Lib.hid hV
  have HC := Lib.hid hC
  have HWO := Lib.hid hWO
  have HWI := Lib.hid hWI
  have hpp : 0 < p := by omega
  have hsm : setM L p t nm = withM (nm, t, p) (withoutM L c nm) := by rw [hc]; unfold setM; rw [if_pos hpp]
  have hfi := full_iff HS hl100 nm t p
  rw [hfull, hsm] at hfi
  have HZ := Lib.hid (err_full hok (hc ▸ hmay) hfull)
  have HLM := Lib.hid (show 100 < (withM (nm, t, p) (withoutM L c nm)).length from of_decide_eq_true hfi.symm)
  have HLN := Lib.hid (show (withM (nm, t, p) (withoutM L c nm)).length ≤ 1000 by rw [withM_len]; omega)
  clear hfull hc hsm hfi hp
  have hrest : (nm = sBar ∧ c = 2 ∧ (p = 0 ∨ 1001 ≤ p)) ∨ (nm ≠ sBar ∧ (p = 0 ∨ lookB L (riv c) nm = false)) := by
    by_cases n2 : nm = sBar
    · rw [if_pos n2] at hmm
      have hm2 := hmm.symm
      simp only [Bool.and_eq_true, Bool.or_eq_true, decide_eq_true_eq] at hm2
      exact .inl ⟨n2, hm2⟩
    · rw [if_neg n2] at hmm
      have hm2 := hmm.symm
      simp only [Bool.or_eq_true, decide_eq_true_eq] at hm2
      refine .inr ⟨n2, hm2.imp id fun hx => ?_⟩
      rw [hLB]
      cases hy : findM L (riv c) nm
      · rfl
      · rw [hy] at hx; cases hx
  have hbar : nm = sBar → lookB L 3 nm = false := fun hx => by rw [hLB, hx, find_bar h1]; rfl
  clear hV hC hWO hWI h hok h1 h2 h3 h4 hmay hmm n134 HS hWL
  rcases hrest with ⟨n2, rfl, hpb⟩ | ⟨n2, hno⟩
  · have hF3 := hF 3
    rw [hbar n2] at hF3
    obtain ⟨⟨a1, b1, c1⟩, he1⟩ : ∃ x, x = lookE L 3 nm := ⟨_, rfl⟩
    rw [← he1] at hF3
    have HF := Lib.hid hF3
    rw [decide_eq_true n2] at k2
    have hcn : ((2 : Int) != 2) = false := rfl
    have hpl : ¬ p < 1001 := by omega
    clear n2 hpb hF hF3 he1 hLB hbar
    go_enter Tryd.func28, Tryd.ntmps28
    go_wp2_with fail
    refine (HC.out _).mono ?_
    rintro e w1 ⟨rfl, rfl⟩
    go_wp2_with fail
    refine HV.out.mono ?_
    rintro e w1 ⟨rfl, hb1⟩
    have HB1 := Lib.hid hb1
    clear hb1
    go_wp2_with fail
    refine (HF.out _ HB1.out).mono ?_
    rintro e w2 ⟨rfl, hb2⟩
    have HB2 := Lib.hid (HB1.out.trans (hb2.mono HB1.out.size))
    clear hb2
    go_wp2_with (refine wpList_store_own rfl 26 (.tmp 11) (.tmp 74) rfl w2.heap.size #[.string a1, .int .i64 b1, .int .i64 c1] rfl rfl 26 _ (heap_alloc_new w2 _) op_size rfl (one3 _ _ _) w.heap.size w (HB2.out.alloc HB2.out.size _) HB2.out.size ?_; intro w3 hg3 hb3 hs3)
    refine (HWO.out _ hb3.out).mono ?_
    rintro e w5 ⟨⟨A5, c5, rfl, hc5, ho5⟩, hb5⟩
    have HO5 := Lib.hid ho5
    have HB5 := Lib.hid (hb3.out.trans (hb5.mono hb3.out.size))
    clear ho5 hb5
    go_wp2_with fail
    refine (HWI.out _ _ _ HB5.out HO5.out).mono ?_
    rintro e w6 ⟨⟨A6, c6, rfl, hc6, ho6⟩, hb6⟩
    have HO6 := Lib.hid ho6
    have HB6 := Lib.hid (HB5.out.trans (hb6.mono HB5.out.size))
    clear ho6 hb6
    have hlm : 100 < (withM (nm, t, p) (withoutM L 2 nm)).length := HLM.out
    have hlm2 : (withM (nm, t, p) (withoutM L 2 nm)).length ≤ 1000 := HLN.out
    go_wp2_with fail
    go_ret2
    exact ⟨res_bad HZ.out (by decide) rfl, HB6.out⟩
  · rw [decide_eq_false n2] at k2
    have hno2 : lookB L (riv c) nm = false := hno.resolve_left (by omega)
    clear n2 hno hbar
    rcases hcr with rfl | rfl | rfl
    · clear hF hLB hno2
      go_enter Tryd.func28, Tryd.ntmps28
      go_wp2_with fail
      refine (HC.out _).mono ?_
      rintro e w1 ⟨rfl, rfl⟩
      go_wp2_with fail
      refine HV.out.mono ?_
      rintro e w1 ⟨rfl, hb1⟩
      have HB1 := Lib.hid hb1
      clear hb1
      go_wp2_with fail
      refine (HWO.out _ HB1.out).mono ?_
      rintro e w5 ⟨⟨A5, c5, rfl, hc5, ho5⟩, hb5⟩
      have HO5 := Lib.hid ho5
      have HB5 := Lib.hid (HB1.out.trans (hb5.mono HB1.out.size))
      clear ho5 hb5
      go_wp2_with fail
      refine (HWI.out _ _ _ HB5.out HO5.out).mono ?_
      rintro e w6 ⟨⟨A6, c6, rfl, hc6, ho6⟩, hb6⟩
      have HO6 := Lib.hid ho6
      have HB6 := Lib.hid (HB5.out.trans (hb6.mono HB5.out.size))
      clear ho6 hb6
      have hlm : 100 < (withM (nm, t, p) (withoutM L 1 nm)).length := HLM.out
      have hlm2 : (withM (nm, t, p) (withoutM L 1 nm)).length ≤ 1000 := HLN.out
      go_wp2_with fail
      go_ret2
      exact ⟨res_bad HZ.out (by decide) rfl, HB6.out⟩
    · have hF3 := hF 3
      rw [show lookB L 3 nm = false from hno2] at hF3
      obtain ⟨⟨a1, b1, c1⟩, he1⟩ : ∃ x, x = lookE L 3 nm := ⟨_, rfl⟩
      rw [← he1] at hF3
      have HF := Lib.hid hF3
      clear hF hLB hno2 hF3 he1
      go_enter Tryd.func28, Tryd.ntmps28
      go_wp2_with fail
      refine (HC.out _).mono ?_
      rintro e w1 ⟨rfl, rfl⟩
      go_wp2_with fail
      refine HV.out.mono ?_
      rintro e w1 ⟨rfl, hb1⟩
      have HB1 := Lib.hid hb1
      clear hb1
      go_wp2_with fail
      refine (HF.out _ HB1.out).mono ?_
      rintro e w2 ⟨rfl, hb2⟩
      have HB2 := Lib.hid (HB1.out.trans (hb2.mono HB1.out.size))
      clear hb2
      go_wp2_with (refine wpList_store_own rfl 26 (.tmp 11) (.tmp 74) rfl w2.heap.size #[.string a1, .int .i64 b1, .int .i64 c1] rfl rfl 26 _ (heap_alloc_new w2 _) op_size rfl (one3 _ _ _) w.heap.size w (HB2.out.alloc HB2.out.size _) HB2.out.size ?_; intro w3 hg3 hb3 hs3)
      refine (HWO.out _ hb3.out).mono ?_
      rintro e w5 ⟨⟨A5, c5, rfl, hc5, ho5⟩, hb5⟩
      have HO5 := Lib.hid ho5
      have HB5 := Lib.hid (hb3.out.trans (hb5.mono hb3.out.size))
      clear ho5 hb5
      go_wp2_with fail
      refine (HWI.out _ _ _ HB5.out HO5.out).mono ?_
      rintro e w6 ⟨⟨A6, c6, rfl, hc6, ho6⟩, hb6⟩
      have HO6 := Lib.hid ho6
      have HB6 := Lib.hid (HB5.out.trans (hb6.mono HB5.out.size))
      clear ho6 hb6
      have hlm : 100 < (withM (nm, t, p) (withoutM L 2 nm)).length := HLM.out
      have hlm2 : (withM (nm, t, p) (withoutM L 2 nm)).length ≤ 1000 := HLN.out
      go_wp2_with fail
      go_ret2
      exact ⟨res_bad HZ.out (by decide) rfl, HB6.out⟩
    · have hF3 := hF 2
      rw [show lookB L 2 nm = false from hno2] at hF3
      obtain ⟨⟨a1, b1, c1⟩, he1⟩ : ∃ x, x = lookE L 2 nm := ⟨_, rfl⟩
      rw [← he1] at hF3
      have HF := Lib.hid hF3
      clear hF hLB hno2 hF3 he1
      go_enter Tryd.func28, Tryd.ntmps28
      go_wp2_with fail
      refine (HC.out _).mono ?_
      rintro e w1 ⟨rfl, rfl⟩
      go_wp2_with fail
      refine HV.out.mono ?_
      rintro e w1 ⟨rfl, hb1⟩
      have HB1 := Lib.hid hb1
      clear hb1
      go_wp2_with fail
      refine (HF.out _ HB1.out).mono ?_
      rintro e w2 ⟨rfl, hb2⟩
      have HB2 := Lib.hid (HB1.out.trans (hb2.mono HB1.out.size))
      clear hb2
      go_wp2_with (refine wpList_store_own rfl 26 (.tmp 11) (.tmp 74) rfl w2.heap.size #[.string a1, .int .i64 b1, .int .i64 c1] rfl rfl 26 _ (heap_alloc_new w2 _) op_size rfl (one3 _ _ _) w.heap.size w (HB2.out.alloc HB2.out.size _) HB2.out.size ?_; intro w3 hg3 hb3 hs3)
      refine (HWO.out _ hb3.out).mono ?_
      rintro e w5 ⟨⟨A5, c5, rfl, hc5, ho5⟩, hb5⟩
      have HO5 := Lib.hid ho5
      have HB5 := Lib.hid (hb3.out.trans (hb5.mono hb3.out.size))
      clear ho5 hb5
      go_wp2_with fail
      refine (HWI.out _ _ _ HB5.out HO5.out).mono ?_
      rintro e w6 ⟨⟨A6, c6, rfl, hc6, ho6⟩, hb6⟩
      have HO6 := Lib.hid ho6
      have HB6 := Lib.hid (HB5.out.trans (hb6.mono HB5.out.size))
      clear ho6 hb6
      have hlm : 100 < (withM (nm, t, p) (withoutM L 3 nm)).length := HLM.out
      have hlm2 : (withM (nm, t, p) (withoutM L 3 nm)).length ≤ 1000 := HLN.out
      go_wp2_with fail
      go_ret2
      exact ⟨res_bad HZ.out (by decide) rfl, HB6.out⟩

theorem rset_any (A : Option Addr) (n cap : Nat) (p t : Int) (nm : ByteArray) (L : List Ent) (w : World) (hm : n ≤ 9223372036854775807) (h : OpsIn w w.heap.size A n L) : Calls Tryd.prog 28 #[.slice A n cap, .int .i64 p, .int .i64 t, .string nm] w fun e w' => ResEnd w' L p t nm e ∧ Below w.heap.size w w' := by
  cases h1 : argB L p t nm
  · exact rset_arg A n cap p t nm L w hm h h1
  · cases h2 : mayB L p (cls t) nm
    · exact rset_state A n cap p t nm L w hm h h1 h2
    · by_cases hp : p = 0
      · exact rset_zero A n cap p t nm L w hm h h1 h2 hp
      · cases h3 : fullB L p (cls t) nm
        · exact rset_ok A n cap p t nm L w hm h h1 h2 hp h3
        · exact rset_full A n cap p t nm L w hm h h1 h2 hp h3
end Go.Proofs.YtgbfkchjcjdnnaaDoor
