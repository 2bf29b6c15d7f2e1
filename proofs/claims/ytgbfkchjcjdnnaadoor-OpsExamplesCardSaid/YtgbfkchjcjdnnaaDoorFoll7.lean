/-
  mayFollow and Valid of package ops: which tables are valid.
-/
import Derived.Test.YtgbfkchjcjdnnaaDoorOne7
namespace Go.Proofs.YtgbfkchjcjdnnaaDoor
set_option linter.unusedVariables false
set_option linter.unusedSimpArgs false
open Go.RowKit Q

set_option maxHeartbeats 2000000 in
theorem mayFollow_any (a b : Ent) (w : World) (hT : Tabs w) :
    Calls Tryd.prog 46 #[opV a, opV b] w fun e' w' => e' = .returned (.bool (mayF a b)) ∧ Below w.heap.size w w' := by
  obtain ⟨s, t, p⟩ := a
  obtain ⟨s', t', p'⟩ := b
  have hb := ((Below.refl w.heap.size w).alloc (Nat.le_refl _) (.cells #[.string s, .int .i64 t, .int .i64 p] 26)).alloc (by simp) (.cells #[.string s', .int .i64 t', .int .i64 p'] 26)
  have hTW := hT.below hb
  have hC1 := class_any t' _ hTW
  have hC2 := class_any t _ hTW
  obtain ⟨d', hd'⟩ : ∃ d, d = cls t' := ⟨_, rfl⟩
  obtain ⟨d, hd⟩ : ∃ d, d = cls t := ⟨_, rfl⟩
  have hC3 := compare_any (s, t, p) s' d' _ hTW
  obtain ⟨v, hv⟩ : ∃ v, v = cmpE (s, t, p) s' d' := ⟨_, rfl⟩
  rw [← hd'] at hC1
  rw [← hd] at hC2
  rw [← hv] at hC3
  have hm : mayF (s, t, p) (s', t', p') = (!(decide (s = s') && decide (d = riv d')) && decide (v < 0)) := by rw [hv, hd, hd']; rfl
  rw [hm]
  have k1 : (s.toList == s'.toList) = decide (s = s') := eqC s s'
  obtain ⟨y, hy⟩ : ∃ y, y = riv d' := ⟨_, rfl⟩
  have hR : ∀ W : World, Calls Tryd.prog 51 #[.int .i64 d'] W fun e w' => e = .returned (.int .i64 y) ∧ W = w' := fun W => by rw [hy]; exact rival_any d' W
  rw [← hy]
  have H1 := Lib.hid hC1
  have H2 := Lib.hid hC2
  have H3 := Lib.hid hC3
  have HR := Lib.hid hR
  have HB := Lib.hid hb
  clear hm hv hd hd' hy hC1 hC2 hC3 hR hTW hb hT
  unfold opV at H3 ⊢
  by_cases hs : s = s'
  · rw [decide_eq_true hs] at k1 ⊢
    by_cases hdy : d = y
    · have hb2 : (d == y) = true := by rw [beq_iff_eq]; exact hdy
      have hr : (!(true && decide (d = y)) && decide (v < 0)) = false := by rw [decide_eq_true hdy]; rfl
      rw [hr]
      clear hr hdy hs
      go_enter Tryd.func46, Tryd.ntmps46
      go_wp2_with fail
      refine H1.out.mono ?_
      rintro e w' ⟨rfl, rfl⟩
      go_wp2_with fail
      refine H2.out.mono ?_
      rintro e w' ⟨rfl, rfl⟩
      go_wp2_with fail
      refine (HR.out _).mono ?_
      rintro e w' ⟨rfl, rfl⟩
      go_wp2_with fail
      go_ret
      exact ⟨rfl, HB.out⟩
    · have hb2 : (d == y) = false := by rw [beq_eq_false_iff_ne]; exact hdy
      have hr : (!(true && decide (d = y)) && decide (v < 0)) = decide (v < 0) := by rw [decide_eq_false hdy]; rfl
      rw [hr]
      clear hr hdy hs
      go_enter Tryd.func46, Tryd.ntmps46
      go_wp2_with fail
      refine H1.out.mono ?_
      rintro e w' ⟨rfl, rfl⟩
      go_wp2_with fail
      refine H2.out.mono ?_
      rintro e w' ⟨rfl, rfl⟩
      go_wp2_with fail
      refine (HR.out _).mono ?_
      rintro e w' ⟨rfl, rfl⟩
      go_wp2_with fail
      refine H3.out.mono ?_
      rintro e w' ⟨rfl, hb3⟩
      go_wp2_with fail
      go_ret
      exact ⟨rfl, HB.out.trans (hb3.mono HB.out.size)⟩
  · rw [decide_eq_false hs] at k1 ⊢
    have hr : (!(false && decide (d = y)) && decide (v < 0)) = decide (v < 0) := rfl
    rw [hr]
    clear hr hs
    go_enter Tryd.func46, Tryd.ntmps46
    go_wp2_with fail
    refine H1.out.mono ?_
    rintro e w' ⟨rfl, rfl⟩
    go_wp2_with fail
    refine H3.out.mono ?_
    rintro e w' ⟨rfl, hb3⟩
    go_wp2_with fail
    go_ret
    exact ⟨rfl, HB.out.trans (hb3.mono HB.out.size)⟩

theorem Tabs.bw {w : World} (h : Tabs w) (p : Bw w) : Tabs p.to := h.below p.ok
theorem wrap_pred {k : Nat} (h : 0 < k) (h' : k ≤ 1000) : IntKind.i64.wrap ((k : Int) - 1) = ((k - 1 : Nat) : Int) := by rw [IntKind.wrap_i64]; omega

set_option maxHeartbeats 4000000 in
theorem valid_some (b off n cap : Nat) (L : List Ent) (w : World) (hT : Tabs w) (hn : n ≤ 100) (hlen : L.length = n) (hb : b < w.heap.size)
    (hc : ∀ j, j < n → w.cell? ⟨b, off + j * 3, none⟩ = some (.string (ent L j).1) ∧ w.cell? ⟨b, off + j * 3 + 1, none⟩ = some (.int .i64 (ent L j).2.1) ∧ w.cell? ⟨b, off + j * 3 + 2, none⟩ = some (.int .i64 (ent L j).2.2)) :
    Calls Tryd.prog 23 #[.slice (some ⟨b, off, none⟩) n cap] w fun e w' => e = .returned (.bool (goodB L)) ∧ Below w.heap.size w w' := by
  have HC := Lib.hid hc
  have HL := Lib.hid hlen
  have HT := Lib.hid hT
  clear hc hlen hT
  have hm : Tryd.prog.follows .mixedOrders = true := by kernel_rfl
  go_enter Tryd.func23, Tryd.ntmps23
  go_wp2_with fail
  go_loopw [10] (fun i wr => ∃ k : Nat, k ≤ n ∧ i = .int .i64 k ∧ (∀ j, j < k → okAt L j) ∧ Below w.heap.size w wr) (fun i _ => n - (intOf i).toNat)
  case atStart => exact ⟨0, by omega, rfl, fun j hj => absurd hj (by omega), Below.refl _ _⟩
  case round =>
    obtain ⟨k, hk, rfl, hok, hbl⟩ := hrel
    have HOK := Lib.hid hok
    have HB := Lib.hid hbl
    clear hok hbl
    by_cases hlt : k < n
    · have c0 : wr.cell? ⟨b, off + k * 3, none⟩ = some (.string (ent L k).1) := (HB.out.cell hb).trans (HC.out k hlt).1
      have c1 : wr.cell? ⟨b, off + k * 3 + 1, none⟩ = some (.int .i64 (ent L k).2.1) := (HB.out.cell hb).trans (HC.out k hlt).2.1
      have c2 : wr.cell? ⟨b, off + k * 3 + 2, none⟩ = some (.int .i64 (ent L k).2.2) := (HB.out.cell hb).trans (HC.out k hlt).2.2
      have HO := Lib.hid (show okAt L k ↔ okE (ent L k) = true ∧ (0 < k → mayF (ent L (k - 1)) (ent L k) = true) from Iff.rfl)
      have hI : ∀ W : World, Tabs W → Calls Tryd.prog 45 #[opV (ent L k)] W fun e' w' => e' = .returned (.bool (okE (ent L k))) ∧ Below W.heap.size W w' := fun W h => isValid_any _ W h
      have hF : ∀ W : World, Tabs W → Calls Tryd.prog 46 #[opV (ent L (k - 1)), opV (ent L k)] W fun e' w' => e' = .returned (.bool (mayF (ent L (k - 1)) (ent L k))) ∧ Below W.heap.size W w' := fun W h => mayFollow_any _ _ W h
      unfold opV at hI hF
      obtain ⟨s, hs⟩ : ∃ s, s = (ent L k).1 := ⟨_, rfl⟩
      obtain ⟨t, ht⟩ : ∃ t, t = (ent L k).2.1 := ⟨_, rfl⟩
      obtain ⟨p, hp⟩ : ∃ p, p = (ent L k).2.2 := ⟨_, rfl⟩
      rw [← hs] at c0 hI hF
      rw [← ht] at c1 hI hF
      rw [← hp] at c2 hI hF
      obtain ⟨v, hv⟩ : ∃ v, v = okE (ent L k) := ⟨_, rfl⟩
      obtain ⟨f, hf⟩ : ∃ f, f = mayF (ent L (k - 1)) (ent L k) := ⟨_, rfl⟩
      rw [← hv] at hI
      rw [← hf] at hF
      have HI := Lib.hid hI
      have HF := Lib.hid hF
      have HV := Lib.hid hv
      have HFF := Lib.hid hf
      clear hI hF hv hf hs ht hp
      -- the world with the copy of the operator
      have hbw : Below w.heap.size w (wr.alloc (.cells #[.string s, .int .i64 t, .int .i64 p] 26)) := HB.out.alloc HB.out.size _
      have d0 : (wr.alloc (.cells #[.string s, .int .i64 t, .int .i64 p] 26)).cell? ⟨wr.heap.size, 0, none⟩ = some (.string s) := cell_new wr _ _ 0
      have d1 : (wr.alloc (.cells #[.string s, .int .i64 t, .int .i64 p] 26)).cell? ⟨wr.heap.size, 1, none⟩ = some (.int .i64 t) := cell_new wr _ _ 1
      have d2 : (wr.alloc (.cells #[.string s, .int .i64 t, .int .i64 p] 26)).cell? ⟨wr.heap.size, 2, none⟩ = some (.int .i64 p) := cell_new wr _ _ 2
      have hsz : (wr.alloc (.cells #[.string s, .int .i64 t, .int .i64 p] 26)).heap.size = wr.heap.size + 1 := by simp
      have hTW := HT.out.below hbw
      cases v
      · have HX := Lib.hid (show ¬ okAt L k from fun h => by have := (HO.out.1 h).1; rw [← HV.out] at this; cases this)
        go_wp2_with fail
        generalize wr.alloc (.cells #[.string s, .int .i64 t, .int .i64 p] 26) = W at hbw d0 d1 d2 hsz hTW ⊢
        have hlt4 : wr.heap.size < W.heap.size := by omega
        have e0 : ∀ q : Bw W, q.to.cell? ⟨wr.heap.size, 0, none⟩ = some (.string s) := cell_bw hlt4 d0
        have e1 : ∀ q : Bw W, q.to.cell? ⟨wr.heap.size, 1, none⟩ = some (.int .i64 t) := cell_bw hlt4 d1
        have e2 : ∀ q : Bw W, q.to.cell? ⟨wr.heap.size, 2, none⟩ = some (.int .i64 p) := cell_bw hlt4 d2
        have hI2 : ∀ q : Bw W, Calls Tryd.prog 45 #[.agg #[.string s, .int .i64 t, .int .i64 p]] q.to fun e' w' => e' = .returned (.bool false) ∧ Below q.to.heap.size q.to w' := fun q => HI.out _ (hTW.bw q)
        clear d0 d1 d2 hTW hsz
        refine wp_region_bw hm (by kernel_rfl) ?_
        repeat (go_big_quiet_step (fail))
        go_big_quiet_step (exact calls_bw (hI2 _))
        repeat (go_big_quiet_step (fail))
        refine wpQuiet_nil ?_
        intro _ hw'
        obtain ⟨pq, hw''⟩ := hw'
        subst hw''
        go_wp2_with fail
        go_ret
        exact ⟨by rw [goodB_false (by have := HL.out; omega) HX.out]; rfl, hbw.trans (pq.ok.mono (by have := HB.out.size; omega))⟩
      · by_cases hk0 : k = 0
        · have HX := Lib.hid (show okAt L k from HO.out.2 ⟨HV.out.symm, fun h => absurd h (by omega)⟩)
          subst hk0
          simp only [Nat.zero_mul, Nat.add_zero] at c0 c1 c2
          go_wp2_with fail
          generalize wr.alloc (.cells #[.string s, .int .i64 t, .int .i64 p] 26) = W at hbw d0 d1 d2 hsz hTW ⊢
          have hlt4 : wr.heap.size < W.heap.size := by omega
          have e0 : ∀ q : Bw W, q.to.cell? ⟨wr.heap.size, 0, none⟩ = some (.string s) := cell_bw hlt4 d0
          have e1 : ∀ q : Bw W, q.to.cell? ⟨wr.heap.size, 1, none⟩ = some (.int .i64 t) := cell_bw hlt4 d1
          have e2 : ∀ q : Bw W, q.to.cell? ⟨wr.heap.size, 2, none⟩ = some (.int .i64 p) := cell_bw hlt4 d2
          have hI2 : ∀ q : Bw W, Calls Tryd.prog 45 #[.agg #[.string s, .int .i64 t, .int .i64 p]] q.to fun e' w' => e' = .returned (.bool true) ∧ Below q.to.heap.size q.to w' := fun q => HI.out _ (hTW.bw q)
          clear d0 d1 d2 hTW hsz
          refine wp_region_bw hm (by kernel_rfl) ?_
          repeat (go_big_quiet_step (fail))
          go_big_quiet_step (exact calls_bw (hI2 _))
          repeat (go_big_quiet_step (fail))
          refine wpQuiet_nil ?_
          intro _ hw'
          obtain ⟨pq, hw''⟩ := hw'
          subst hw''
          go_wp2_with fail
          exact ⟨⟨1, by omega, by go_num, fun j hj => by
              by_cases hjk : j = 0
              · subst hjk; exact HX.out
              · exact HOK.out j (by omega), hbw.trans (pq.ok.mono (by have := HB.out.size; omega))⟩, by simp [intOf]; omega⟩
        · have hk1 : 0 < k := by omega
          have hkd : decide ((0 : Int) < (k : Int)) = true := by rw [decide_eq_true]; omega
          have hwp : IntKind.i64.wrap ((k : Int) - 1) = ((k - 1 : Nat) : Int) := wrap_pred hk1 (by omega)
          have q0 := (hbw.cell (p := ⟨b, off + (k - 1) * 3, none⟩) hb).trans (HC.out (k - 1) (by omega)).1
          have q1 := (hbw.cell (p := ⟨b, off + (k - 1) * 3 + 1, none⟩) hb).trans (HC.out (k - 1) (by omega)).2.1
          have q2 := (hbw.cell (p := ⟨b, off + (k - 1) * 3 + 2, none⟩) hb).trans (HC.out (k - 1) (by omega)).2.2
          obtain ⟨x0, hx0⟩ : ∃ x, x = (ent L (k - 1)).1 := ⟨_, rfl⟩
          obtain ⟨x1, hx1⟩ : ∃ x, x = (ent L (k - 1)).2.1 := ⟨_, rfl⟩
          obtain ⟨x2, hx2⟩ : ∃ x, x = (ent L (k - 1)).2.2 := ⟨_, rfl⟩
          rw [← hx0] at q0
          rw [← hx1] at q1
          rw [← hx2] at q2
          have HF' := HF.out
          rw [← hx0, ← hx1, ← hx2] at HF'
          clear HF
          have HF := Lib.hid HF'
          clear HF' hx0 hx1 hx2
          cases f
          · have HX := Lib.hid (show ¬ okAt L k from fun h => by have := (HO.out.1 h).2 hk1; rw [← HFF.out] at this; cases this)
            go_wp2_with fail
            generalize wr.alloc (.cells #[.string s, .int .i64 t, .int .i64 p] 26) = W at hbw d0 d1 d2 hsz hTW q0 q1 q2 ⊢
            have hlt4 : wr.heap.size < W.heap.size := by omega
            have e0 : ∀ q : Bw W, q.to.cell? ⟨wr.heap.size, 0, none⟩ = some (.string s) := cell_bw hlt4 d0
            have e1 : ∀ q : Bw W, q.to.cell? ⟨wr.heap.size, 1, none⟩ = some (.int .i64 t) := cell_bw hlt4 d1
            have e2 : ∀ q : Bw W, q.to.cell? ⟨wr.heap.size, 2, none⟩ = some (.int .i64 p) := cell_bw hlt4 d2
            have hlb : b < W.heap.size := by have := HB.out.size; omega
            have g0 : ∀ q : Bw W, q.to.cell? ⟨b, off + (k - 1) * 3, none⟩ = some (.string x0) := cell_bw hlb q0
            have g1 : ∀ q : Bw W, q.to.cell? ⟨b, off + (k - 1) * 3 + 1, none⟩ = some (.int .i64 x1) := cell_bw hlb q1
            have g2 : ∀ q : Bw W, q.to.cell? ⟨b, off + (k - 1) * 3 + 2, none⟩ = some (.int .i64 x2) := cell_bw hlb q2
            have hI2 : ∀ q : Bw W, Calls Tryd.prog 45 #[.agg #[.string s, .int .i64 t, .int .i64 p]] q.to fun e' w' => e' = .returned (.bool true) ∧ Below q.to.heap.size q.to w' := fun q => HI.out _ (hTW.bw q)
            have hF2 : ∀ q : Bw W, Calls Tryd.prog 46 #[.agg #[.string x0, .int .i64 x1, .int .i64 x2], .agg #[.string s, .int .i64 t, .int .i64 p]] q.to fun e' w' => e' = .returned (.bool false) ∧ Below q.to.heap.size q.to w' := fun q => HF.out _ (hTW.bw q)
            clear d0 d1 d2 hTW hsz q0 q1 q2
            refine wp_region_bw hm (by kernel_rfl) ?_
            repeat (go_big_quiet_step (fail))
            go_big_quiet_step (exact calls_bw (hI2 _))
            repeat (go_big_quiet_step (fail))
            go_big_quiet_step (exact calls_bw (hF2 _))
            repeat (go_big_quiet_step (fail))
            refine wpQuiet_nil ?_
            intro _ hw'
            obtain ⟨pq, hw''⟩ := hw'
            subst hw''
            go_wp2_with fail
            go_ret
            exact ⟨by rw [goodB_false (by have := HL.out; omega) HX.out]; rfl, hbw.trans (pq.ok.mono (by have := HB.out.size; omega))⟩
          · have HX := Lib.hid (show okAt L k from HO.out.2 ⟨HV.out.symm, fun _ => HFF.out.symm⟩)
            go_wp2_with fail
            generalize wr.alloc (.cells #[.string s, .int .i64 t, .int .i64 p] 26) = W at hbw d0 d1 d2 hsz hTW q0 q1 q2 ⊢
            have hlt4 : wr.heap.size < W.heap.size := by omega
            have e0 : ∀ q : Bw W, q.to.cell? ⟨wr.heap.size, 0, none⟩ = some (.string s) := cell_bw hlt4 d0
            have e1 : ∀ q : Bw W, q.to.cell? ⟨wr.heap.size, 1, none⟩ = some (.int .i64 t) := cell_bw hlt4 d1
            have e2 : ∀ q : Bw W, q.to.cell? ⟨wr.heap.size, 2, none⟩ = some (.int .i64 p) := cell_bw hlt4 d2
            have hlb : b < W.heap.size := by have := HB.out.size; omega
            have g0 : ∀ q : Bw W, q.to.cell? ⟨b, off + (k - 1) * 3, none⟩ = some (.string x0) := cell_bw hlb q0
            have g1 : ∀ q : Bw W, q.to.cell? ⟨b, off + (k - 1) * 3 + 1, none⟩ = some (.int .i64 x1) := cell_bw hlb q1
            have g2 : ∀ q : Bw W, q.to.cell? ⟨b, off + (k - 1) * 3 + 2, none⟩ = some (.int .i64 x2) := cell_bw hlb q2
            have hI2 : ∀ q : Bw W, Calls Tryd.prog 45 #[.agg #[.string s, .int .i64 t, .int .i64 p]] q.to fun e' w' => e' = .returned (.bool true) ∧ Below q.to.heap.size q.to w' := fun q => HI.out _ (hTW.bw q)
            have hF2 : ∀ q : Bw W, Calls Tryd.prog 46 #[.agg #[.string x0, .int .i64 x1, .int .i64 x2], .agg #[.string s, .int .i64 t, .int .i64 p]] q.to fun e' w' => e' = .returned (.bool true) ∧ Below q.to.heap.size q.to w' := fun q => HF.out _ (hTW.bw q)
            clear d0 d1 d2 hTW hsz q0 q1 q2
            refine wp_region_bw hm (by kernel_rfl) ?_
            repeat (go_big_quiet_step (fail))
            go_big_quiet_step (exact calls_bw (hI2 _))
            repeat (go_big_quiet_step (fail))
            go_big_quiet_step (exact calls_bw (hF2 _))
            repeat (go_big_quiet_step (fail))
            refine wpQuiet_nil ?_
            intro _ hw'
            obtain ⟨pq, hw''⟩ := hw'
            subst hw''
            go_wp2_with fail
            exact ⟨⟨k + 1, by omega, by go_num, fun j hj => by
                by_cases hjk : j = k
                · subst hjk; exact HX.out
                · exact HOK.out j (by omega), hbw.trans (pq.ok.mono (by have := HB.out.size; omega))⟩, by simp [intOf]; omega⟩
    · obtain rfl : k = n := by omega
      go_wp2_with fail
      go_ret
      exact ⟨by rw [goodB_true (by have := HL.out; omega) fun j hj => HOK.out j (by have := HL.out; omega)]; rfl, HB.out⟩
end Go.Proofs.YtgbfkchjcjdnnaaDoor
