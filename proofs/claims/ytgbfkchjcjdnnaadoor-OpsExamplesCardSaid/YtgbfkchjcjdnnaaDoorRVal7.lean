/-
  Valid of the reference: which tables are valid.
-/
import Derived.Test.YtgbfkchjcjdnnaaDoorRef7
namespace Go.Proofs.YtgbfkchjcjdnnaaDoor
set_option linter.unusedVariables false
set_option linter.unusedSimpArgs false
open Go.RowKit Q

theorem okAt_zero {L : List Ent} : okAt L 0 ↔ okE (ent L 0) = true := ⟨fun h => h.1, fun h => ⟨h, fun h' => absurd h' (by omega)⟩⟩
theorem okAt_ref {L : List Ent} {k : Nat} (hk : 0 < k) (hp : okE (ent L (k - 1)) = true) : okAt L k ↔ okE (ent L k) = true ∧ befB (ent L (k - 1)) (ent L k) = true ∧ bothB (ent L (k - 1)) (ent L k) = false := by
  unfold okAt
  constructor
  · intro h
    have h2 := h.2 hk
    rw [mayF_ref (okE_cls hp) (okE_cls h.1)] at h2
    simp only [Bool.and_eq_true, Bool.not_eq_true'] at h2
    exact ⟨h.1, h2.1, h2.2⟩
  · intro h
    refine ⟨h.1, fun _ => ?_⟩
    rw [mayF_ref (okE_cls hp) (okE_cls h.1), h.2.1, h.2.2]
    rfl

set_option maxHeartbeats 4000000 in
theorem rvalid_some (b off n cap : Nat) (L : List Ent) (w : World) (hn : n ≤ 100) (hlen : L.length = n) (hb : b < w.heap.size)
    (hc : ∀ j, j < n → w.cell? ⟨b, off + j * 3, none⟩ = some (.string (ent L j).1) ∧ w.cell? ⟨b, off + j * 3 + 1, none⟩ = some (.int .i64 (ent L j).2.1) ∧ w.cell? ⟨b, off + j * 3 + 2, none⟩ = some (.int .i64 (ent L j).2.2)) :
    Calls Tryd.prog 26 #[.slice (some ⟨b, off, none⟩) n cap] w fun e w' => e = .returned (.bool (goodB L)) ∧ Below w.heap.size w w' := by
  have HC := Lib.hid hc
  have HL := Lib.hid hlen
  clear hc hlen
  have hm : Tryd.prog.follows .mixedOrders = true := by kernel_rfl
  go_enter Tryd.func26, Tryd.ntmps26
  go_wp2_with fail
  go_loopw [3] (fun i wr => ∃ k : Nat, k ≤ n ∧ i = .int .i64 k ∧ (∀ j, j < k → okAt L j) ∧ Below w.heap.size w wr) (fun i _ => n - (intOf i).toNat)
  case atStart => exact ⟨0, by omega, rfl, fun j hj => absurd hj (by omega), Below.refl _ _⟩
  case round =>
    obtain ⟨k, hk, rfl, hok, hbl⟩ := hrel
    have HOK := Lib.hid hok
    have HB := Lib.hid hbl
    clear hok hbl
    by_cases hlt : k < n
    · have hrow : ∀ (j : Nat), j < n → ∀ W, Below wr.heap.size wr W → W.cell? ⟨b, off + j * 3, none⟩ = some (.string (ent L j).1) ∧ W.cell? ⟨b, off + j * 3 + 1, none⟩ = some (.int .i64 (ent L j).2.1) ∧ W.cell? ⟨b, off + j * 3 + 2, none⟩ = some (.int .i64 (ent L j).2.2) := fun j hj W hW => by
        have hbb := HB.out.trans (hW.mono HB.out.size)
        exact ⟨(hbb.cell hb).trans (HC.out j hj).1, (hbb.cell hb).trans (HC.out j hj).2.1, (hbb.cell hb).trans (HC.out j hj).2.2⟩
      have r0 := fun W hW => (hrow k hlt W hW).1
      have r1 := fun W hW => (hrow k hlt W hW).2.1
      have r2 := fun W hW => (hrow k hlt W hW).2.2
      have hO := fun W => one_any (ent L k) W
      have hF := fun W => before_any (ent L (k - 1)) (ent L k) W
      have hD2 := fun W => same_below (rclass_any (ent L k).2.1 W)
      unfold opV at hO hF
      obtain ⟨v, hv⟩ : ∃ v, v = okE (ent L k) := ⟨_, rfl⟩
      obtain ⟨f, hf⟩ : ∃ f, f = befB (ent L (k - 1)) (ent L k) := ⟨_, rfl⟩
      have HBO := Lib.hid (show bothB (ent L (k - 1)) (ent L k) = (decide ((ent L (k - 1)).1 = (ent L k).1) && decide (cls (ent L (k - 1)).2.1 = 2) && decide (cls (ent L k).2.1 = 3)) from rfl)
      rw [← hv] at hO
      rw [← hf] at hF
      have HV := Lib.hid hv
      have HFF := Lib.hid hf
      clear hv hf
      obtain ⟨s, hs⟩ : ∃ s, s = (ent L k).1 := ⟨_, rfl⟩
      obtain ⟨t, ht⟩ : ∃ t, t = (ent L k).2.1 := ⟨_, rfl⟩
      obtain ⟨p, hp⟩ : ∃ p, p = (ent L k).2.2 := ⟨_, rfl⟩
      obtain ⟨d2, hd2⟩ : ∃ d, d = cls t := ⟨_, rfl⟩
      rw [← hs] at r0 hO hF
      rw [← ht] at r1 hO hF hD2
      rw [← hp] at r2 hO hF
      rw [← hd2] at hD2
      have HO := Lib.hid hO
      have HD2 := Lib.hid hD2
      have HSS := Lib.hid hs
      have HTT := Lib.hid ht
      have HDD2 := Lib.hid hd2
      clear hO hD2 hs ht hp hd2
      by_cases hk0 : k = 0
      · subst hk0
        simp only [Nat.zero_mul, Nat.add_zero] at r0 r1 r2
        have R0 := Lib.hid r0
        have R1 := Lib.hid r1
        have R2 := Lib.hid r2
        clear r0 r1 r2 hrow hF
        cases v
        · have HX := Lib.hid (show ¬ okAt L 0 from fun h => by have := okAt_zero.1 h; rw [← HV.out] at this; cases this)
          go_wp2_with fail
          have e0 : ∀ q : Bw wr, q.to.cell? ⟨b, off, none⟩ = some (.string s) := fun q => R0.out q.to (q.ok)
          have e1 : ∀ q : Bw wr, q.to.cell? ⟨b, off + 1, none⟩ = some (.int .i64 t) := fun q => R1.out q.to (q.ok)
          have e2 : ∀ q : Bw wr, q.to.cell? ⟨b, off + 2, none⟩ = some (.int .i64 p) := fun q => R2.out q.to (q.ok)
          have hO : ∀ q : Bw wr, Calls Tryd.prog 47 #[.agg #[.string s, .int .i64 t, .int .i64 p]] q.to fun e' w' => e' = .returned (.bool false) ∧ Below q.to.heap.size q.to w' := fun q => HO.out q.to
          refine wp_region_bw hm (by kernel_rfl) ?_
          repeat (go_big_quiet_step (fail))
          go_big_quiet_step (exact calls_bw (hO _))
          repeat (go_big_quiet_step (fail))
          refine wpQuiet_nil ?_
          intro _ hw'
          obtain ⟨pq, hw''⟩ := hw'
          subst hw''
          go_wp2_with fail
          go_ret
          exact ⟨by rw [goodB_false (by have := HL.out; omega) HX.out]; rfl, HB.out.trans (pq.ok.mono HB.out.size)⟩
        · have HX := Lib.hid (show okAt L 0 from okAt_zero.2 HV.out.symm)
          go_wp2_with fail
          have e0 : ∀ q : Bw wr, q.to.cell? ⟨b, off, none⟩ = some (.string s) := fun q => R0.out q.to (q.ok)
          have e1 : ∀ q : Bw wr, q.to.cell? ⟨b, off + 1, none⟩ = some (.int .i64 t) := fun q => R1.out q.to (q.ok)
          have e2 : ∀ q : Bw wr, q.to.cell? ⟨b, off + 2, none⟩ = some (.int .i64 p) := fun q => R2.out q.to (q.ok)
          have hO : ∀ q : Bw wr, Calls Tryd.prog 47 #[.agg #[.string s, .int .i64 t, .int .i64 p]] q.to fun e' w' => e' = .returned (.bool true) ∧ Below q.to.heap.size q.to w' := fun q => HO.out q.to
          refine wp_region_bw hm (by kernel_rfl) ?_
          repeat (go_big_quiet_step (fail))
          go_big_quiet_step (exact calls_bw (hO _))
          repeat (go_big_quiet_step (fail))
          refine wpQuiet_nil ?_
          intro _ hw'
          obtain ⟨pq, hw''⟩ := hw'
          subst hw''
          go_wp2_with fail
          clear e0 e1 e2 hO
          have e0 : ∀ q : Bw pq.to, q.to.cell? ⟨b, off, none⟩ = some (.string s) := fun q => R0.out q.to (pq.ok.trans ((q.ok).mono pq.ok.size))
          have e1 : ∀ q : Bw pq.to, q.to.cell? ⟨b, off + 1, none⟩ = some (.int .i64 t) := fun q => R1.out q.to (pq.ok.trans ((q.ok).mono pq.ok.size))
          have e2 : ∀ q : Bw pq.to, q.to.cell? ⟨b, off + 2, none⟩ = some (.int .i64 p) := fun q => R2.out q.to (pq.ok.trans ((q.ok).mono pq.ok.size))
          refine wp_region_bw hm (by kernel_rfl) ?_
          repeat (go_big_quiet_step (fail))
          refine wpQuiet_nil ?_
          intro _ hw'
          obtain ⟨pr, hw''⟩ := hw'
          subst hw''
          go_wp2_with fail
          exact ⟨⟨1, by omega, by go_num, fun j hj => by
              by_cases hjk : j = 0
              · subst hjk; exact HX.out
              · exact HOK.out j (by omega), HB.out.trans ((pq.ok.trans (pr.ok.mono pq.ok.size)).mono HB.out.size)⟩, by simp [intOf]; omega⟩
      · have hk1 : 0 < k := by omega
        have hkd : decide ((0 : Int) < (k : Int)) = true := by rw [decide_eq_true]; omega
        have hwp : IntKind.i64.wrap ((k : Int) - 1) = ((k - 1 : Nat) : Int) := wrap_pred hk1 (by omega)
        have HP := Lib.hid (okAt_ref hk1 (HOK.out (k - 1) (by omega)).1)
        have s0 := fun W hW => (hrow (k - 1) (by omega) W hW).1
        have s1 := fun W hW => (hrow (k - 1) (by omega) W hW).2.1
        have s2 := fun W hW => (hrow (k - 1) (by omega) W hW).2.2
        have hD1 := fun W => same_below (rclass_any (ent L (k - 1)).2.1 W)
        obtain ⟨x0, hx0⟩ : ∃ x, x = (ent L (k - 1)).1 := ⟨_, rfl⟩
        obtain ⟨x1, hx1⟩ : ∃ x, x = (ent L (k - 1)).2.1 := ⟨_, rfl⟩
        obtain ⟨x2, hx2⟩ : ∃ x, x = (ent L (k - 1)).2.2 := ⟨_, rfl⟩
        obtain ⟨d1, hd1⟩ : ∃ d, d = cls x1 := ⟨_, rfl⟩
        rw [← hx0] at s0 hF
        rw [← hx1] at s1 hF hD1
        rw [← hx2] at s2 hF
        rw [← hd1] at hD1
        have hbo := HBO.out
        rw [← hx0, ← hx1, ← hd1, ← HSS.out, ← HTT.out, ← HDD2.out] at hbo
        have HBOO := Lib.hid hbo
        have R0 := Lib.hid r0
        have R1 := Lib.hid r1
        have R2 := Lib.hid r2
        have S0 := Lib.hid s0
        have S1 := Lib.hid s1
        have S2 := Lib.hid s2
        have HF := Lib.hid hF
        have HD1 := Lib.hid hD1
        clear r0 r1 r2 s0 s1 s2 hrow hF hx0 hx1 hx2 hd1 hD1 hbo HBO
        cases v
        · have HX := Lib.hid (show ¬ okAt L k from fun h => by have := (HP.out.1 h).1; rw [← HV.out] at this; cases this)
          go_wp2_with fail
          have e0 : ∀ q : Bw wr, q.to.cell? ⟨b, off + k * 3, none⟩ = some (.string s) := fun q => R0.out q.to (q.ok)
          have e1 : ∀ q : Bw wr, q.to.cell? ⟨b, off + k * 3 + 1, none⟩ = some (.int .i64 t) := fun q => R1.out q.to (q.ok)
          have e2 : ∀ q : Bw wr, q.to.cell? ⟨b, off + k * 3 + 2, none⟩ = some (.int .i64 p) := fun q => R2.out q.to (q.ok)
          have f0 : ∀ q : Bw wr, q.to.cell? ⟨b, off + (k - 1) * 3, none⟩ = some (.string x0) := fun q => S0.out q.to (q.ok)
          have f1 : ∀ q : Bw wr, q.to.cell? ⟨b, off + (k - 1) * 3 + 1, none⟩ = some (.int .i64 x1) := fun q => S1.out q.to (q.ok)
          have f2 : ∀ q : Bw wr, q.to.cell? ⟨b, off + (k - 1) * 3 + 2, none⟩ = some (.int .i64 x2) := fun q => S2.out q.to (q.ok)
          have hO : ∀ q : Bw wr, Calls Tryd.prog 47 #[.agg #[.string s, .int .i64 t, .int .i64 p]] q.to fun e' w' => e' = .returned (.bool false) ∧ Below q.to.heap.size q.to w' := fun q => HO.out q.to
          refine wp_region_bw hm (by kernel_rfl) ?_
          repeat (go_big_quiet_step (fail))
          go_big_quiet_step (exact calls_bw (hO _))
          repeat (go_big_quiet_step (fail))
          refine wpQuiet_nil ?_
          intro _ hw'
          obtain ⟨pq, hw''⟩ := hw'
          subst hw''
          go_wp2_with fail
          go_ret
          exact ⟨by rw [goodB_false (by have := HL.out; omega) HX.out]; rfl, HB.out.trans (pq.ok.mono HB.out.size)⟩
        · cases f
          · have HX := Lib.hid (show ¬ okAt L k from fun h => by have := (HP.out.1 h).2.1; rw [← HFF.out] at this; cases this)
            go_wp2_with fail
            have e0 : ∀ q : Bw wr, q.to.cell? ⟨b, off + k * 3, none⟩ = some (.string s) := fun q => R0.out q.to (q.ok)
            have e1 : ∀ q : Bw wr, q.to.cell? ⟨b, off + k * 3 + 1, none⟩ = some (.int .i64 t) := fun q => R1.out q.to (q.ok)
            have e2 : ∀ q : Bw wr, q.to.cell? ⟨b, off + k * 3 + 2, none⟩ = some (.int .i64 p) := fun q => R2.out q.to (q.ok)
            have f0 : ∀ q : Bw wr, q.to.cell? ⟨b, off + (k - 1) * 3, none⟩ = some (.string x0) := fun q => S0.out q.to (q.ok)
            have f1 : ∀ q : Bw wr, q.to.cell? ⟨b, off + (k - 1) * 3 + 1, none⟩ = some (.int .i64 x1) := fun q => S1.out q.to (q.ok)
            have f2 : ∀ q : Bw wr, q.to.cell? ⟨b, off + (k - 1) * 3 + 2, none⟩ = some (.int .i64 x2) := fun q => S2.out q.to (q.ok)
            have hO : ∀ q : Bw wr, Calls Tryd.prog 47 #[.agg #[.string s, .int .i64 t, .int .i64 p]] q.to fun e' w' => e' = .returned (.bool true) ∧ Below q.to.heap.size q.to w' := fun q => HO.out q.to
            have hF : ∀ q : Bw wr, Calls Tryd.prog 48 #[.agg #[.string x0, .int .i64 x1, .int .i64 x2], .agg #[.string s, .int .i64 t, .int .i64 p]] q.to fun e' w' => e' = .returned (.bool false) ∧ Below q.to.heap.size q.to w' := fun q => HF.out q.to
            refine wp_region_bw hm (by kernel_rfl) ?_
            repeat (go_big_quiet_step (fail))
            go_big_quiet_step (exact calls_bw (hO _))
            repeat (go_big_quiet_step (fail))
            go_big_quiet_step (exact calls_bw (hF _))
            repeat (go_big_quiet_step (fail))
            refine wpQuiet_nil ?_
            intro _ hw'
            obtain ⟨pq, hw''⟩ := hw'
            subst hw''
            go_wp2_with fail
            go_ret
            exact ⟨by rw [goodB_false (by have := HL.out; omega) HX.out]; rfl, HB.out.trans (pq.ok.mono HB.out.size)⟩
          · have hkk : (x0.toList == s.toList) = decide (x0 = s) := eqC x0 s
            by_cases hn0 : x0 = s
            · rw [decide_eq_true hn0] at hkk
              by_cases hd1 : d1 = 2
              · have hd1b : (d1 == 2) = true := by rw [beq_iff_eq]; exact hd1
                by_cases hd2 : d2 = 3
                · have hd2b : (d2 == 3) = true := by rw [beq_iff_eq]; exact hd2
                  have HX := Lib.hid (show ¬ okAt L k from fun h => by
                    have := (HP.out.1 h).2.2
                    rw [HBOO.out, decide_eq_true hn0, decide_eq_true hd1, decide_eq_true hd2] at this
                    cases this)
                  clear hn0 hd1 hd2
                  go_wp2_with fail
                  have e0 : ∀ q : Bw wr, q.to.cell? ⟨b, off + k * 3, none⟩ = some (.string s) := fun q => R0.out q.to (q.ok)
                  have e1 : ∀ q : Bw wr, q.to.cell? ⟨b, off + k * 3 + 1, none⟩ = some (.int .i64 t) := fun q => R1.out q.to (q.ok)
                  have e2 : ∀ q : Bw wr, q.to.cell? ⟨b, off + k * 3 + 2, none⟩ = some (.int .i64 p) := fun q => R2.out q.to (q.ok)
                  have f0 : ∀ q : Bw wr, q.to.cell? ⟨b, off + (k - 1) * 3, none⟩ = some (.string x0) := fun q => S0.out q.to (q.ok)
                  have f1 : ∀ q : Bw wr, q.to.cell? ⟨b, off + (k - 1) * 3 + 1, none⟩ = some (.int .i64 x1) := fun q => S1.out q.to (q.ok)
                  have f2 : ∀ q : Bw wr, q.to.cell? ⟨b, off + (k - 1) * 3 + 2, none⟩ = some (.int .i64 x2) := fun q => S2.out q.to (q.ok)
                  have hO : ∀ q : Bw wr, Calls Tryd.prog 47 #[.agg #[.string s, .int .i64 t, .int .i64 p]] q.to fun e' w' => e' = .returned (.bool true) ∧ Below q.to.heap.size q.to w' := fun q => HO.out q.to
                  have hF : ∀ q : Bw wr, Calls Tryd.prog 48 #[.agg #[.string x0, .int .i64 x1, .int .i64 x2], .agg #[.string s, .int .i64 t, .int .i64 p]] q.to fun e' w' => e' = .returned (.bool true) ∧ Below q.to.heap.size q.to w' := fun q => HF.out q.to
                  refine wp_region_bw hm (by kernel_rfl) ?_
                  repeat (go_big_quiet_step (fail))
                  go_big_quiet_step (exact calls_bw (hO _))
                  repeat (go_big_quiet_step (fail))
                  go_big_quiet_step (exact calls_bw (hF _))
                  repeat (go_big_quiet_step (fail))
                  refine wpQuiet_nil ?_
                  intro _ hw'
                  obtain ⟨pq, hw''⟩ := hw'
                  subst hw''
                  go_wp2_with fail
                  clear e0 e1 e2 f0 f1 f2 hO hF
                  have e0 : ∀ q : Bw pq.to, q.to.cell? ⟨b, off + k * 3, none⟩ = some (.string s) := fun q => R0.out q.to (pq.ok.trans ((q.ok).mono pq.ok.size))
                  have e1 : ∀ q : Bw pq.to, q.to.cell? ⟨b, off + k * 3 + 1, none⟩ = some (.int .i64 t) := fun q => R1.out q.to (pq.ok.trans ((q.ok).mono pq.ok.size))
                  have e2 : ∀ q : Bw pq.to, q.to.cell? ⟨b, off + k * 3 + 2, none⟩ = some (.int .i64 p) := fun q => R2.out q.to (pq.ok.trans ((q.ok).mono pq.ok.size))
                  have f0 : ∀ q : Bw pq.to, q.to.cell? ⟨b, off + (k - 1) * 3, none⟩ = some (.string x0) := fun q => S0.out q.to (pq.ok.trans ((q.ok).mono pq.ok.size))
                  have f1 : ∀ q : Bw pq.to, q.to.cell? ⟨b, off + (k - 1) * 3 + 1, none⟩ = some (.int .i64 x1) := fun q => S1.out q.to (pq.ok.trans ((q.ok).mono pq.ok.size))
                  have f2 : ∀ q : Bw pq.to, q.to.cell? ⟨b, off + (k - 1) * 3 + 2, none⟩ = some (.int .i64 x2) := fun q => S2.out q.to (pq.ok.trans ((q.ok).mono pq.ok.size))
                  have C1 : ∀ q : Bw pq.to, Calls Tryd.prog 32 #[.int .i64 x1] q.to fun e w' => e = .returned (.int .i64 d1) ∧ Below q.to.heap.size q.to w' := fun q => HD1.out q.to
                  have C2 : ∀ q : Bw pq.to, Calls Tryd.prog 32 #[.int .i64 t] q.to fun e w' => e = .returned (.int .i64 d2) ∧ Below q.to.heap.size q.to w' := fun q => HD2.out q.to
                  refine wp_region_bw hm (by kernel_rfl) ?_
                  repeat (go_big_quiet_step (fail))
                  go_big_quiet_step (exact calls_bw (C1 _))
                  repeat (go_big_quiet_step (fail))
                  go_big_quiet_step (exact calls_bw (C2 _))
                  repeat (go_big_quiet_step (fail))
                  refine wpQuiet_nil ?_
                  intro _ hw'
                  obtain ⟨pr, hw''⟩ := hw'
                  subst hw''
                  go_wp2_with fail
                  go_ret
                  exact ⟨by rw [goodB_false (by have := HL.out; omega) HX.out]; rfl, HB.out.trans ((pq.ok.trans (pr.ok.mono pq.ok.size)).mono HB.out.size)⟩
                · have hd2b : (d2 == 3) = false := by rw [beq_eq_false_iff_ne]; exact hd2
                  have HX := Lib.hid (show okAt L k from HP.out.2 ⟨HV.out.symm, HFF.out.symm, by rw [HBOO.out, decide_eq_false hd2]; simp⟩)
                  clear hn0 hd1 hd2
                  go_wp2_with fail
                  have e0 : ∀ q : Bw wr, q.to.cell? ⟨b, off + k * 3, none⟩ = some (.string s) := fun q => R0.out q.to (q.ok)
                  have e1 : ∀ q : Bw wr, q.to.cell? ⟨b, off + k * 3 + 1, none⟩ = some (.int .i64 t) := fun q => R1.out q.to (q.ok)
                  have e2 : ∀ q : Bw wr, q.to.cell? ⟨b, off + k * 3 + 2, none⟩ = some (.int .i64 p) := fun q => R2.out q.to (q.ok)
                  have f0 : ∀ q : Bw wr, q.to.cell? ⟨b, off + (k - 1) * 3, none⟩ = some (.string x0) := fun q => S0.out q.to (q.ok)
                  have f1 : ∀ q : Bw wr, q.to.cell? ⟨b, off + (k - 1) * 3 + 1, none⟩ = some (.int .i64 x1) := fun q => S1.out q.to (q.ok)
                  have f2 : ∀ q : Bw wr, q.to.cell? ⟨b, off + (k - 1) * 3 + 2, none⟩ = some (.int .i64 x2) := fun q => S2.out q.to (q.ok)
                  have hO : ∀ q : Bw wr, Calls Tryd.prog 47 #[.agg #[.string s, .int .i64 t, .int .i64 p]] q.to fun e' w' => e' = .returned (.bool true) ∧ Below q.to.heap.size q.to w' := fun q => HO.out q.to
                  have hF : ∀ q : Bw wr, Calls Tryd.prog 48 #[.agg #[.string x0, .int .i64 x1, .int .i64 x2], .agg #[.string s, .int .i64 t, .int .i64 p]] q.to fun e' w' => e' = .returned (.bool true) ∧ Below q.to.heap.size q.to w' := fun q => HF.out q.to
                  refine wp_region_bw hm (by kernel_rfl) ?_
                  repeat (go_big_quiet_step (fail))
                  go_big_quiet_step (exact calls_bw (hO _))
                  repeat (go_big_quiet_step (fail))
                  go_big_quiet_step (exact calls_bw (hF _))
                  repeat (go_big_quiet_step (fail))
                  refine wpQuiet_nil ?_
                  intro _ hw'
                  obtain ⟨pq, hw''⟩ := hw'
                  subst hw''
                  go_wp2_with fail
                  clear e0 e1 e2 f0 f1 f2 hO hF
                  have e0 : ∀ q : Bw pq.to, q.to.cell? ⟨b, off + k * 3, none⟩ = some (.string s) := fun q => R0.out q.to (pq.ok.trans ((q.ok).mono pq.ok.size))
                  have e1 : ∀ q : Bw pq.to, q.to.cell? ⟨b, off + k * 3 + 1, none⟩ = some (.int .i64 t) := fun q => R1.out q.to (pq.ok.trans ((q.ok).mono pq.ok.size))
                  have e2 : ∀ q : Bw pq.to, q.to.cell? ⟨b, off + k * 3 + 2, none⟩ = some (.int .i64 p) := fun q => R2.out q.to (pq.ok.trans ((q.ok).mono pq.ok.size))
                  have f0 : ∀ q : Bw pq.to, q.to.cell? ⟨b, off + (k - 1) * 3, none⟩ = some (.string x0) := fun q => S0.out q.to (pq.ok.trans ((q.ok).mono pq.ok.size))
                  have f1 : ∀ q : Bw pq.to, q.to.cell? ⟨b, off + (k - 1) * 3 + 1, none⟩ = some (.int .i64 x1) := fun q => S1.out q.to (pq.ok.trans ((q.ok).mono pq.ok.size))
                  have f2 : ∀ q : Bw pq.to, q.to.cell? ⟨b, off + (k - 1) * 3 + 2, none⟩ = some (.int .i64 x2) := fun q => S2.out q.to (pq.ok.trans ((q.ok).mono pq.ok.size))
                  have C1 : ∀ q : Bw pq.to, Calls Tryd.prog 32 #[.int .i64 x1] q.to fun e w' => e = .returned (.int .i64 d1) ∧ Below q.to.heap.size q.to w' := fun q => HD1.out q.to
                  have C2 : ∀ q : Bw pq.to, Calls Tryd.prog 32 #[.int .i64 t] q.to fun e w' => e = .returned (.int .i64 d2) ∧ Below q.to.heap.size q.to w' := fun q => HD2.out q.to
                  refine wp_region_bw hm (by kernel_rfl) ?_
                  repeat (go_big_quiet_step (fail))
                  go_big_quiet_step (exact calls_bw (C1 _))
                  repeat (go_big_quiet_step (fail))
                  go_big_quiet_step (exact calls_bw (C2 _))
                  repeat (go_big_quiet_step (fail))
                  refine wpQuiet_nil ?_
                  intro _ hw'
                  obtain ⟨pr, hw''⟩ := hw'
                  subst hw''
                  go_wp2_with fail
                  exact ⟨⟨k + 1, by omega, by go_num, fun j hj => by
                      by_cases hjk : j = k
                      · subst hjk; exact HX.out
                      · exact HOK.out j (by omega), HB.out.trans ((pq.ok.trans (pr.ok.mono pq.ok.size)).mono HB.out.size)⟩, by simp [intOf]; omega⟩
              · have hd1b : (d1 == 2) = false := by rw [beq_eq_false_iff_ne]; exact hd1
                have HX := Lib.hid (show okAt L k from HP.out.2 ⟨HV.out.symm, HFF.out.symm, by rw [HBOO.out, decide_eq_false hd1]; simp⟩)
                clear hn0 hd1
                go_wp2_with fail
                have e0 : ∀ q : Bw wr, q.to.cell? ⟨b, off + k * 3, none⟩ = some (.string s) := fun q => R0.out q.to (q.ok)
                have e1 : ∀ q : Bw wr, q.to.cell? ⟨b, off + k * 3 + 1, none⟩ = some (.int .i64 t) := fun q => R1.out q.to (q.ok)
                have e2 : ∀ q : Bw wr, q.to.cell? ⟨b, off + k * 3 + 2, none⟩ = some (.int .i64 p) := fun q => R2.out q.to (q.ok)
                have f0 : ∀ q : Bw wr, q.to.cell? ⟨b, off + (k - 1) * 3, none⟩ = some (.string x0) := fun q => S0.out q.to (q.ok)
                have f1 : ∀ q : Bw wr, q.to.cell? ⟨b, off + (k - 1) * 3 + 1, none⟩ = some (.int .i64 x1) := fun q => S1.out q.to (q.ok)
                have f2 : ∀ q : Bw wr, q.to.cell? ⟨b, off + (k - 1) * 3 + 2, none⟩ = some (.int .i64 x2) := fun q => S2.out q.to (q.ok)
                have hO : ∀ q : Bw wr, Calls Tryd.prog 47 #[.agg #[.string s, .int .i64 t, .int .i64 p]] q.to fun e' w' => e' = .returned (.bool true) ∧ Below q.to.heap.size q.to w' := fun q => HO.out q.to
                have hF : ∀ q : Bw wr, Calls Tryd.prog 48 #[.agg #[.string x0, .int .i64 x1, .int .i64 x2], .agg #[.string s, .int .i64 t, .int .i64 p]] q.to fun e' w' => e' = .returned (.bool true) ∧ Below q.to.heap.size q.to w' := fun q => HF.out q.to
                refine wp_region_bw hm (by kernel_rfl) ?_
                repeat (go_big_quiet_step (fail))
                go_big_quiet_step (exact calls_bw (hO _))
                repeat (go_big_quiet_step (fail))
                go_big_quiet_step (exact calls_bw (hF _))
                repeat (go_big_quiet_step (fail))
                refine wpQuiet_nil ?_
                intro _ hw'
                obtain ⟨pq, hw''⟩ := hw'
                subst hw''
                go_wp2_with fail
                clear e0 e1 e2 f0 f1 f2 hO hF
                have e0 : ∀ q : Bw pq.to, q.to.cell? ⟨b, off + k * 3, none⟩ = some (.string s) := fun q => R0.out q.to (pq.ok.trans ((q.ok).mono pq.ok.size))
                have e1 : ∀ q : Bw pq.to, q.to.cell? ⟨b, off + k * 3 + 1, none⟩ = some (.int .i64 t) := fun q => R1.out q.to (pq.ok.trans ((q.ok).mono pq.ok.size))
                have e2 : ∀ q : Bw pq.to, q.to.cell? ⟨b, off + k * 3 + 2, none⟩ = some (.int .i64 p) := fun q => R2.out q.to (pq.ok.trans ((q.ok).mono pq.ok.size))
                have f0 : ∀ q : Bw pq.to, q.to.cell? ⟨b, off + (k - 1) * 3, none⟩ = some (.string x0) := fun q => S0.out q.to (pq.ok.trans ((q.ok).mono pq.ok.size))
                have f1 : ∀ q : Bw pq.to, q.to.cell? ⟨b, off + (k - 1) * 3 + 1, none⟩ = some (.int .i64 x1) := fun q => S1.out q.to (pq.ok.trans ((q.ok).mono pq.ok.size))
                have f2 : ∀ q : Bw pq.to, q.to.cell? ⟨b, off + (k - 1) * 3 + 2, none⟩ = some (.int .i64 x2) := fun q => S2.out q.to (pq.ok.trans ((q.ok).mono pq.ok.size))
                have C1 : ∀ q : Bw pq.to, Calls Tryd.prog 32 #[.int .i64 x1] q.to fun e w' => e = .returned (.int .i64 d1) ∧ Below q.to.heap.size q.to w' := fun q => HD1.out q.to
                have C2 : ∀ q : Bw pq.to, Calls Tryd.prog 32 #[.int .i64 t] q.to fun e w' => e = .returned (.int .i64 d2) ∧ Below q.to.heap.size q.to w' := fun q => HD2.out q.to
                refine wp_region_bw hm (by kernel_rfl) ?_
                repeat (go_big_quiet_step (fail))
                go_big_quiet_step (exact calls_bw (C1 _))
                repeat (go_big_quiet_step (fail))
                refine wpQuiet_nil ?_
                intro _ hw'
                obtain ⟨pr, hw''⟩ := hw'
                subst hw''
                go_wp2_with fail
                exact ⟨⟨k + 1, by omega, by go_num, fun j hj => by
                    by_cases hjk : j = k
                    · subst hjk; exact HX.out
                    · exact HOK.out j (by omega), HB.out.trans ((pq.ok.trans (pr.ok.mono pq.ok.size)).mono HB.out.size)⟩, by simp [intOf]; omega⟩
            · rw [decide_eq_false hn0] at hkk
              have HX := Lib.hid (show okAt L k from HP.out.2 ⟨HV.out.symm, HFF.out.symm, by rw [HBOO.out, decide_eq_false hn0]; simp⟩)
              clear hn0
              go_wp2_with fail
              have e0 : ∀ q : Bw wr, q.to.cell? ⟨b, off + k * 3, none⟩ = some (.string s) := fun q => R0.out q.to (q.ok)
              have e1 : ∀ q : Bw wr, q.to.cell? ⟨b, off + k * 3 + 1, none⟩ = some (.int .i64 t) := fun q => R1.out q.to (q.ok)
              have e2 : ∀ q : Bw wr, q.to.cell? ⟨b, off + k * 3 + 2, none⟩ = some (.int .i64 p) := fun q => R2.out q.to (q.ok)
              have f0 : ∀ q : Bw wr, q.to.cell? ⟨b, off + (k - 1) * 3, none⟩ = some (.string x0) := fun q => S0.out q.to (q.ok)
              have f1 : ∀ q : Bw wr, q.to.cell? ⟨b, off + (k - 1) * 3 + 1, none⟩ = some (.int .i64 x1) := fun q => S1.out q.to (q.ok)
              have f2 : ∀ q : Bw wr, q.to.cell? ⟨b, off + (k - 1) * 3 + 2, none⟩ = some (.int .i64 x2) := fun q => S2.out q.to (q.ok)
              have hO : ∀ q : Bw wr, Calls Tryd.prog 47 #[.agg #[.string s, .int .i64 t, .int .i64 p]] q.to fun e' w' => e' = .returned (.bool true) ∧ Below q.to.heap.size q.to w' := fun q => HO.out q.to
              have hF : ∀ q : Bw wr, Calls Tryd.prog 48 #[.agg #[.string x0, .int .i64 x1, .int .i64 x2], .agg #[.string s, .int .i64 t, .int .i64 p]] q.to fun e' w' => e' = .returned (.bool true) ∧ Below q.to.heap.size q.to w' := fun q => HF.out q.to
              refine wp_region_bw hm (by kernel_rfl) ?_
              repeat (go_big_quiet_step (fail))
              go_big_quiet_step (exact calls_bw (hO _))
              repeat (go_big_quiet_step (fail))
              go_big_quiet_step (exact calls_bw (hF _))
              repeat (go_big_quiet_step (fail))
              refine wpQuiet_nil ?_
              intro _ hw'
              obtain ⟨pq, hw''⟩ := hw'
              subst hw''
              go_wp2_with fail
              clear e0 e1 e2 f0 f1 f2 hO hF
              have e0 : ∀ q : Bw pq.to, q.to.cell? ⟨b, off + k * 3, none⟩ = some (.string s) := fun q => R0.out q.to (pq.ok.trans ((q.ok).mono pq.ok.size))
              have e1 : ∀ q : Bw pq.to, q.to.cell? ⟨b, off + k * 3 + 1, none⟩ = some (.int .i64 t) := fun q => R1.out q.to (pq.ok.trans ((q.ok).mono pq.ok.size))
              have e2 : ∀ q : Bw pq.to, q.to.cell? ⟨b, off + k * 3 + 2, none⟩ = some (.int .i64 p) := fun q => R2.out q.to (pq.ok.trans ((q.ok).mono pq.ok.size))
              have f0 : ∀ q : Bw pq.to, q.to.cell? ⟨b, off + (k - 1) * 3, none⟩ = some (.string x0) := fun q => S0.out q.to (pq.ok.trans ((q.ok).mono pq.ok.size))
              have f1 : ∀ q : Bw pq.to, q.to.cell? ⟨b, off + (k - 1) * 3 + 1, none⟩ = some (.int .i64 x1) := fun q => S1.out q.to (pq.ok.trans ((q.ok).mono pq.ok.size))
              have f2 : ∀ q : Bw pq.to, q.to.cell? ⟨b, off + (k - 1) * 3 + 2, none⟩ = some (.int .i64 x2) := fun q => S2.out q.to (pq.ok.trans ((q.ok).mono pq.ok.size))
              refine wp_region_bw hm (by kernel_rfl) ?_
              repeat (go_big_quiet_step (fail))
              refine wpQuiet_nil ?_
              intro _ hw'
              obtain ⟨pr, hw''⟩ := hw'
              subst hw''
              go_wp2_with fail
              exact ⟨⟨k + 1, by omega, by go_num, fun j hj => by
                  by_cases hjk : j = k
                  · subst hjk; exact HX.out
                  · exact HOK.out j (by omega), HB.out.trans ((pq.ok.trans (pr.ok.mono pq.ok.size)).mono HB.out.size)⟩, by simp [intOf]; omega⟩
    · obtain rfl : k = n := by omega
      go_wp2_with fail
      go_ret
      exact ⟨by rw [goodB_true (by have := HL.out; omega) fun j hj => HOK.out j (by have := HL.out; omega)]; rfl, HB.out⟩

theorem rvalid_zero (A : Option Addr) (cap : Nat) (w : World) :
    Calls Tryd.prog 26 #[.slice A 0 cap] w fun e w' => e = .returned (.bool true) ∧ w = w' := by
  go_enter Tryd.func26, Tryd.ntmps26
  go_wp2_with fail
  refine wp_loop_rounds 1 ?_
  rw [rounds_succ]
  go_wp2_with fail
  go_ret
  exact ⟨rfl, rfl⟩
theorem rvalid_long (A : Option Addr) (n cap : Nat) (w : World) (hn : 100 < n) (hm : n ≤ 9223372036854775807) :
    Calls Tryd.prog 26 #[.slice A n cap] w fun e w' => e = .returned (.bool false) ∧ w = w' := by
  go_enter Tryd.func26, Tryd.ntmps26
  go_wp2_with fail
  go_ret
  exact ⟨rfl, rfl⟩
theorem rvalid_any (A : Option Addr) (n cap : Nat) (L : List Ent) (w : World) (hm : n ≤ 9223372036854775807) (h : OpsIn w w.heap.size A n L) :
    Calls Tryd.prog 26 #[.slice A n cap] w fun e w' => e = .returned (.bool (goodB L)) ∧ Below w.heap.size w w' := by
  by_cases h0 : n = 0
  · subst h0
    have e : goodB L = true := goodB_true (by have := h.len; omega) fun j hj => absurd hj (by have := h.len; omega)
    rw [e]
    exact same_below (rvalid_zero A cap w)
  · by_cases h1 : 100 < n
    · rw [goodB_long (by have := h.len; omega)]
      exact same_below (rvalid_long A n cap w h1 hm)
    · obtain ⟨b, off, rfl, hb, hc⟩ := h.cells (by omega)
      exact rvalid_some b off n cap L w (by omega) h.len hb hc
end Go.Proofs.YtgbfkchjcjdnnaaDoor
