/-
  Valid of the reference tells whether a table is valid, for any slice of at most 1,000 pairs.
-/
import Derived.Test.YtdlobgnhoiednaaDoorPairs
import Derived.Deep.QuietTactic
import Derived.BigQuiet
namespace Go.Proofs.YtdlobgnhoiednaaDoor
set_option linter.unusedVariables false
set_option linter.unusedSimpArgs false
open Go.RowKit

theorem refIs_same (c : Int) (w : World) :
    Calls Tryd.prog 34 #[.int .i64 c] w fun e w' => e = .returned (.bool (Ch.isCh c)) ∧ w' = w :=
  (refIs_any c w).mono fun _ _ ⟨he, hw⟩ => ⟨he, hw.symm⟩

theorem drewN_more {w wr : World} (h : ∃ q, wr = w.drewN q) (m : Nat) : ∃ q, wr.drewN m = w.drewN q := by
  obtain ⟨q, rfl⟩ := h
  exact ⟨q + m, World.drewN_drewN _ _ _⟩

set_option maxHeartbeats 4000000 in
theorem refValid_some (b off n cap : Nat) (L : List (Int × Int)) (w : World) (hn : n ≤ 1000) (hlen : L.length = n)
    (hc : ∀ j, j < n → w.cell? ⟨b, off + j * 2, none⟩ = some (.int .i64 (fs L j)) ∧ w.cell? ⟨b, off + j * 2 + 1, none⟩ = some (.int .i64 (sn L j))) :
    Calls Tryd.prog 24 #[.slice (some ⟨b, off, none⟩) n cap] w fun e w' => e = .returned (.bool (goodB L)) ∧ ∃ q, w' = w.drewN q := by
  have HC := Lib.hid hc
  have HL := Lib.hid hlen
  clear hc hlen
  go_enter Tryd.func24, Tryd.ntmps24
  go_wp2_with fail
  go_loopw [3] (fun i wr => ∃ k : Nat, k ≤ n ∧ i = .int .i64 k ∧ (∀ j, j < k → okAt L j) ∧ ∃ q, wr = w.drewN q) (fun i _ => n - (intOf i).toNat)
  case atStart => exact ⟨0, by omega, rfl, fun j hj => absurd hj (by omega), 0, rfl⟩
  case round =>
    obtain ⟨k, hk, rfl, hok, hq⟩ := hrel
    have HOK := Lib.hid hok
    have HQ := Lib.hid hq
    clear hok hq
    by_cases hlt : k < n
    · have hsame : ∀ p, wr.cell? p = w.cell? p := by
        obtain ⟨q, hq⟩ := HQ.out
        intro p
        rw [hq]
        exact World.cell?_drewN w q p
      have h1 : wr.cell? ⟨b, off + k * 2, none⟩ = some (.int .i64 (fs L k)) := (hsame _).trans (HC.out k hlt).1
      have h2 : wr.cell? ⟨b, off + k * 2 + 1, none⟩ = some (.int .i64 (sn L k)) := (hsame _).trans (HC.out k hlt).2
      have h3 : 0 < k → wr.cell? ⟨b, off + (k - 1) * 2, none⟩ = some (.int .i64 (fs L (k - 1))) := fun h => (hsame _).trans (HC.out (k - 1) (by omega)).1
      have H3 := Lib.hid h3
      clear hsame h3
      cases i1 : Ch.isCh (fs L k)
      · have hx : ¬ okAt L k := fun h => by rw [Ch.isCh_yes h.1.1 h.1.2] at i1; cases i1
        have HX := Lib.hid hx
        clear hx
        go_wp2_with fail
        go_quiet ((go_at_call 34; exact Calls.quiet_of_same (refIs_same _ _)))
        go_wp2_with fail
        go_ret
        refine ⟨by rw [goodB_false (by have := HL.out; omega) HX.out]; rfl, drewN_more HQ.out _⟩
      cases i2 : Ch.isCh (sn L k)
      · have hx : ¬ okAt L k := fun h => by rw [Ch.isCh_yes h.2.1.1 h.2.1.2] at i2; cases i2
        have HX := Lib.hid hx
        clear hx
        go_wp2_with fail
        go_quiet ((go_at_call 34; exact Calls.quiet_of_same (refIs_same _ _)))
        go_wp2_with fail
        go_ret
        refine ⟨by rw [goodB_false (by have := HL.out; omega) HX.out]; rfl, drewN_more HQ.out _⟩
      cases ie : (fs L k == sn L k)
      · have hne : fs L k ≠ sn L k := by simpa using ie
        have HN := Lib.hid hne
        clear hne
        by_cases hk0 : k = 0
        · subst hk0
          simp only [Nat.zero_mul, Nat.add_zero] at h1 h2
          go_wp2_with fail
          go_quiet ((go_at_call 34; exact Calls.quiet_of_same (refIs_same _ _)))
          go_wp2_with fail
          refine ⟨⟨1, by omega, rfl, fun j hj => ?_, drewN_more HQ.out _⟩, by simp [intOf]; omega⟩
          obtain rfl : j = 0 := by omega
          exact ⟨Ch.isCh_iff.1 i1, Ch.isCh_iff.1 i2, HN.out, fun h => absurd h (by omega)⟩
        · have hk1 : 0 < k := by omega
          have h4 := H3.out hk1
          by_cases hp : fs L (k - 1) < fs L k
          · have hd : decide (fs L k ≤ fs L (k - 1)) = false := by simp; omega
            go_wp2_with fail
            go_quiet ((go_at_call 34; exact Calls.quiet_of_same (refIs_same _ _)))
            go_wp2_with fail
            refine ⟨⟨k + 1, by omega, by go_num, fun j hj => ?_, drewN_more HQ.out _⟩, by simp [intOf]; omega⟩
            by_cases hjk : j = k
            · subst hjk
              exact ⟨Ch.isCh_iff.1 i1, Ch.isCh_iff.1 i2, HN.out, fun _ => hp⟩
            · exact HOK.out j (by omega)
          · have hd : decide (fs L k ≤ fs L (k - 1)) = true := by simp; omega
            have hx : ¬ okAt L k := fun h => hp (h.2.2.2 hk1)
            have HX := Lib.hid hx
            clear hx
            go_wp2_with fail
            go_quiet ((go_at_call 34; exact Calls.quiet_of_same (refIs_same _ _)))
            go_wp2_with fail
            go_ret
            refine ⟨by rw [goodB_false (by have := HL.out; omega) HX.out]; rfl, drewN_more HQ.out _⟩
      · have hx : ¬ okAt L k := fun h => h.2.2.1 (by simpa using ie)
        have HX := Lib.hid hx
        clear hx
        go_wp2_with fail
        go_quiet ((go_at_call 34; exact Calls.quiet_of_same (refIs_same _ _)))
        go_wp2_with fail
        go_ret
        refine ⟨by rw [goodB_false (by have := HL.out; omega) HX.out]; rfl, drewN_more HQ.out _⟩
    · obtain rfl : k = n := by omega
      go_wp2_with fail
      go_ret
      exact ⟨by rw [goodB_true fun j hj => HOK.out j (by have := HL.out; omega)]; rfl, HQ.out⟩

theorem refValid_zero (A : Option Addr) (cap : Nat) (w : World) :
    Calls Tryd.prog 24 #[.slice A 0 cap] w fun e w' => e = .returned (.bool true) ∧ w = w' := by
  go_enter Tryd.func24, Tryd.ntmps24
  go_wp2_with fail
  refine wp_loop_rounds 1 ?_
  rw [rounds_succ]
  go_wp2_with fail
  go_ret
  exact ⟨rfl, rfl⟩

/-- Valid of the reference, for any slice of pairs. -/
theorem refValid_any (A : Option Addr) (n cap B : Nat) (L : List (Int × Int)) (w : World) (hn : n ≤ 1000) (h : PairsIn w B A n L) :
    Calls Tryd.prog 24 #[.slice A n cap] w fun e w' => e = .returned (.bool (goodB L)) ∧ ∃ q, w' = w.drewN q := by
  by_cases h0 : n = 0
  · subst h0
    have e : goodB L = true := goodB_true fun j hj => absurd hj (by have := h.len; omega)
    rw [e]
    exact (refValid_zero A cap w).mono fun _ _ ⟨he, hw⟩ => ⟨he, 0, hw.symm⟩
  · obtain ⟨b, off, rfl, hb, hc⟩ := h.cells (by omega)
    exact refValid_some b off n cap L w hn h.len hc

end Go.Proofs.YtdlobgnhoiednaaDoor
