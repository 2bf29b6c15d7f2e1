/-
  Valid of package chars tells whether a table is valid, for any slice of at most 1,000 pairs.
-/
import Derived.Test.YtdlobgnhoiednaaDoorPairs
import Derived.Deep.QuietTactic
import Derived.BigQuiet
namespace Go.Proofs.YtdlobgnhoiednaaDoor
set_option linter.unusedVariables false
set_option linter.unusedSimpArgs false
open Go.RowKit

set_option maxHeartbeats 2000000 in
theorem valid_some (b off n cap : Nat) (L : List (Int × Int)) (w : World) (hn : n ≤ 1000) (hlen : L.length = n) (hb : b < w.heap.size)
    (hc : ∀ j, j < n → w.cell? ⟨b, off + j * 2, none⟩ = some (.int .i64 (fs L j)) ∧ w.cell? ⟨b, off + j * 2 + 1, none⟩ = some (.int .i64 (sn L j))) :
    Calls Tryd.prog 22 #[.slice (some ⟨b, off, none⟩) n cap] w fun e w' => e = .returned (.bool (goodB L)) ∧ Below w.heap.size w w' := by
  have HC := Lib.hid hc
  have HL := Lib.hid hlen
  clear hc hlen
  go_enter Tryd.func22, Tryd.ntmps22
  go_wp2_with fail
  go_loopw [7] (fun i wr => ∃ k : Nat, k ≤ n ∧ i = .int .i64 k ∧ (∀ j, j < k → okAt L j) ∧ Below w.heap.size w wr) (fun i _ => n - (intOf i).toNat)
  case atStart => exact ⟨0, by omega, rfl, fun j hj => absurd hj (by omega), Below.refl _ _⟩
  case round =>
    obtain ⟨k, hk, rfl, hok, hbl⟩ := hrel
    have HOK := Lib.hid hok
    have HB := Lib.hid hbl
    clear hok hbl
    by_cases hlt : k < n
    · have h1 : wr.cell? ⟨b, off + k * 2, none⟩ = some (.int .i64 (fs L k)) := (HB.out.cell hb).trans (HC.out k hlt).1
      have h2 : wr.cell? ⟨b, off + k * 2 + 1, none⟩ = some (.int .i64 (sn L k)) := (HB.out.cell hb).trans (HC.out k hlt).2
      cases i1 : Ch.isCh (fs L k)
      · have hx : ¬ okAt L k := fun h => by rw [Ch.isCh_yes h.1.1 h.1.2] at i1; cases i1
        have HX := Lib.hid hx
        clear hx
        go_wp2_with fail
        refine (isChar_any _ _).mono ?_
        rintro e w' ⟨rfl, rfl⟩
        go_wp2_with fail
        go_ret
        exact ⟨by rw [goodB_false (by have := HL.out; omega) HX.out]; rfl, HB.out.alloc (by have := HB.out.size; omega) _⟩
      cases i2 : Ch.isCh (sn L k)
      · have hx : ¬ okAt L k := fun h => by rw [Ch.isCh_yes h.2.1.1 h.2.1.2] at i2; cases i2
        have HX := Lib.hid hx
        clear hx
        go_wp2_with fail
        refine (isChar_any _ _).mono ?_
        rintro e w' ⟨rfl, rfl⟩
        go_wp2_with fail
        refine (isChar_any _ _).mono ?_
        rintro e w' ⟨rfl, rfl⟩
        go_wp2_with fail
        go_ret
        exact ⟨by rw [goodB_false (by have := HL.out; omega) HX.out]; rfl, HB.out.alloc (by have := HB.out.size; omega) _⟩
      cases ie : (fs L k == sn L k)
      · have hne : fs L k ≠ sn L k := by simpa using ie
        have HN := Lib.hid hne
        clear hne
        by_cases hk0 : k = 0
        · subst hk0
          simp only [Nat.zero_mul, Nat.add_zero] at h1 h2
          go_wp2_with fail
          refine (isChar_any _ _).mono ?_
          rintro e w' ⟨rfl, rfl⟩
          go_wp2_with fail
          refine (isChar_any _ _).mono ?_
          rintro e w' ⟨rfl, rfl⟩
          go_wp2_with fail
          go_quiet (fail)
          go_wp2_with fail
          refine ⟨⟨1, by omega, rfl, fun j hj => ?_, below_drewN (HB.out.alloc (by have := HB.out.size; omega) _) _⟩, by simp [intOf]; omega⟩
          obtain rfl : j = 0 := by omega
          exact ⟨Ch.isCh_iff.1 i1, Ch.isCh_iff.1 i2, HN.out, fun h => absurd h (by omega)⟩
        · have hk1 : 0 < k := by omega
          have h3 : (wr.alloc (.cells #[.int .i64 (fs L k), .int .i64 (sn L k)] 30)).cell? ⟨b, off + (k - 1) * 2, none⟩ = some (.int .i64 (fs L (k - 1))) := by
            rw [World.cell?_alloc_lt _ _ _ (by have := HB.out.size; show b < _; omega)]
            exact (HB.out.cell hb).trans (HC.out (k - 1) (by omega)).1
          by_cases hp : fs L (k - 1) < fs L k
          · have hd : decide (fs L k ≤ fs L (k - 1)) = false := by simp; omega
            go_wp2_with fail
            refine (isChar_any _ _).mono ?_
            rintro e w' ⟨rfl, rfl⟩
            go_wp2_with fail
            refine (isChar_any _ _).mono ?_
            rintro e w' ⟨rfl, rfl⟩
            go_wp2_with fail
            go_quiet (fail)
            go_wp2_with fail
            refine ⟨⟨k + 1, by omega, by go_num, fun j hj => ?_, below_drewN (HB.out.alloc (by have := HB.out.size; omega) _) _⟩, by simp [intOf]; omega⟩
            by_cases hjk : j = k
            · subst hjk
              exact ⟨Ch.isCh_iff.1 i1, Ch.isCh_iff.1 i2, HN.out, fun _ => hp⟩
            · exact HOK.out j (by omega)
          · have hd : decide (fs L k ≤ fs L (k - 1)) = true := by simp; omega
            have hx : ¬ okAt L k := fun h => hp (h.2.2.2 hk1)
            have HX := Lib.hid hx
            clear hx
            go_wp2_with fail
            refine (isChar_any _ _).mono ?_
            rintro e w' ⟨rfl, rfl⟩
            go_wp2_with fail
            refine (isChar_any _ _).mono ?_
            rintro e w' ⟨rfl, rfl⟩
            go_wp2_with fail
            go_quiet (fail)
            go_wp2_with fail
            go_ret
            exact ⟨by rw [goodB_false (by have := HL.out; omega) HX.out]; rfl, below_drewN (HB.out.alloc (by have := HB.out.size; omega) _) _⟩
      · have hx : ¬ okAt L k := fun h => h.2.2.1 (by simpa using ie)
        have HX := Lib.hid hx
        clear hx
        go_wp2_with fail
        refine (isChar_any _ _).mono ?_
        rintro e w' ⟨rfl, rfl⟩
        go_wp2_with fail
        refine (isChar_any _ _).mono ?_
        rintro e w' ⟨rfl, rfl⟩
        go_wp2_with fail
        go_ret
        exact ⟨by rw [goodB_false (by have := HL.out; omega) HX.out]; rfl, HB.out.alloc (by have := HB.out.size; omega) _⟩
    · obtain rfl : k = n := by omega
      go_wp2_with fail
      go_ret
      exact ⟨by rw [goodB_true fun j hj => HOK.out j (by have := HL.out; omega)]; rfl, HB.out⟩

theorem valid_zero (A : Option Addr) (cap : Nat) (w : World) :
    Calls Tryd.prog 22 #[.slice A 0 cap] w fun e w' => e = .returned (.bool true) ∧ w = w' := by
  go_enter Tryd.func22, Tryd.ntmps22
  go_wp2_with fail
  refine wp_loop_rounds 1 ?_
  rw [rounds_succ]
  go_wp2_with fail
  go_ret
  exact ⟨rfl, rfl⟩

/-- Valid, for any slice of pairs. -/
theorem valid_any (A : Option Addr) (n cap : Nat) (L : List (Int × Int)) (w : World) (hn : n ≤ 1000) (h : PairsIn w w.heap.size A n L) :
    Calls Tryd.prog 22 #[.slice A n cap] w fun e w' => e = .returned (.bool (goodB L)) ∧ Below w.heap.size w w' := by
  by_cases h0 : n = 0
  · subst h0
    have e : goodB L = true := goodB_true fun j hj => absurd hj (by have := h.len; omega)
    rw [e]
    exact (valid_zero A cap w).mono fun _ _ ⟨he, hw⟩ => ⟨he, hw ▸ Below.refl _ _⟩
  · obtain ⟨b, off, rfl, hb, hc⟩ := h.cells (by omega)
    exact valid_some b off n cap L w hn h.len hb hc

end Go.Proofs.YtdlobgnhoiednaaDoor
