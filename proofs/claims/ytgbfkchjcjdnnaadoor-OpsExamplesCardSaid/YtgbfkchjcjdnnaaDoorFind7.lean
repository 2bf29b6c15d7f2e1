/-
  Valid of package ops for any slice; the binary search; find, lookUp, Prefix, Infix, Postfix of package ops.
-/
import Derived.Test.YtgbfkchjcjdnnaaDoorFoll7
namespace Go.Proofs.YtgbfkchjcjdnnaaDoor
set_option linter.unusedVariables false
set_option linter.unusedSimpArgs false
open Go.RowKit Q

theorem valid_zero (A : Option Addr) (cap : Nat) (w : World) :
    Calls Tryd.prog 23 #[.slice A 0 cap] w fun e w' => e = .returned (.bool true) ∧ w = w' := by
  go_enter Tryd.func23, Tryd.ntmps23
  go_wp2_with fail
  refine wp_loop_rounds 1 ?_
  rw [rounds_succ]
  go_wp2_with fail
  go_ret
  exact ⟨rfl, rfl⟩
theorem valid_long (A : Option Addr) (n cap : Nat) (w : World) (hn : 100 < n) (hm : n ≤ 9223372036854775807) :
    Calls Tryd.prog 23 #[.slice A n cap] w fun e w' => e = .returned (.bool false) ∧ w = w' := by
  go_enter Tryd.func23, Tryd.ntmps23
  go_wp2_with fail
  go_ret
  exact ⟨rfl, rfl⟩
/-- Valid, for any slice of operators. -/
theorem valid_any (A : Option Addr) (n cap : Nat) (L : List Ent) (w : World) (hT : Tabs w) (hm : n ≤ 9223372036854775807) (h : OpsIn w w.heap.size A n L) :
    Calls Tryd.prog 23 #[.slice A n cap] w fun e w' => e = .returned (.bool (goodB L)) ∧ Below w.heap.size w w' := by
  by_cases h0 : n = 0
  · subst h0
    have e : goodB L = true := goodB_true (by have := h.len; omega) fun j hj => absurd hj (by have := h.len; omega)
    rw [e]
    exact same_below (valid_zero A cap w)
  · by_cases h1 : 100 < n
    · rw [goodB_long (by have := h.len; omega)]
      exact same_below (valid_long A n cap w h1 hm)
    · obtain ⟨b, off, rfl, hb, hc⟩ := h.cells (by omega)
      exact valid_some b off n cap L w hT (by omega) h.len hb hc

def PosEnd (L : List Ent) (nm : ByteArray) (c : Int) (e : Ending) : Prop :=
  ∃ i : Nat, IsPos L nm c i ∧ e = .returned (.tuple #[.int .i64 i, .bool (hitB L nm c i)])

set_option maxHeartbeats 4000000 in
theorem search_some (b off n cap : Nat) (nm : ByteArray) (c : Int) (ad : Addr) (L : List Ent) (w : World) (hT : Tabs w) (had : ad.block < w.heap.size) (hcl : w.cell? ad = some (.int .i64 c)) (hn : n ≤ 100) (hlen : L.length = n) (hs : Sorted L) (hb : b < w.heap.size)
    (hc : ∀ j, j < n → w.cell? ⟨b, off + j * 3, none⟩ = some (.string (ent L j).1) ∧ w.cell? ⟨b, off + j * 3 + 1, none⟩ = some (.int .i64 (ent L j).2.1) ∧ w.cell? ⟨b, off + j * 3 + 2, none⟩ = some (.int .i64 (ent L j).2.2)) :
    Calls Tryd.prog 52 #[.slice (some ⟨b, off, none⟩) n cap, .string nm, .func (.func 53) #[] #[.pointer (some ad)]] w fun e w' => PosEnd L nm c e ∧ Below w.heap.size w w' := by
  have hP : ∀ (k : Nat) (W : World), Below w.heap.size w W → Calls Tryd.prog 53 #[opV (ent L k), .string nm, .pointer (some ad)] W fun e' w' => e' = .returned (.int .i64 (cmpE (ent L k) nm c)) ∧ Below W.heap.size W w' :=
    fun k W h => place_any (ent L k) nm c ad W (hT.below h) (Nat.lt_of_lt_of_le had h.size) ((h.cell had).trans hcl)
  unfold opV at hP
  have HC := Lib.hid hc
  have HL := Lib.hid hlen
  have HP := Lib.hid hP
  clear hc hlen hP hT hcl had
  go_enter Tryd.func52, Tryd.ntmps52
  go_wp2_with fail
  go_loopw [9, 10] (fun i j wr => ∃ a z : Nat, a ≤ z ∧ z ≤ n ∧ i = .int .i64 a ∧ j = .int .i64 z ∧ (∀ x, x < a → cmpE (ent L x) nm c < 0) ∧ (∀ x, z ≤ x → x < n → 0 ≤ cmpE (ent L x) nm c) ∧ Below w.heap.size w wr) (fun i j _ => (intOf j).toNat - (intOf i).toNat)
  case atStart => exact ⟨0, n, by omega, by omega, rfl, rfl, fun x hx => absurd hx (by omega), fun x h1 h2 => absurd h1 (by omega), Below.refl _ _⟩
  case round =>
    obtain ⟨a, z, haz, hz, rfl, rfl, hlo, hhi, hbl⟩ := hrel
    have HLO := Lib.hid hlo
    have HHI := Lib.hid hhi
    have HB := Lib.hid hbl
    clear hlo hhi hbl
    by_cases hlt : a < z
    · have hm0 : a ≤ (a + z) / 2 := by omega
      have hm1 : (a + z) / 2 < z := by omega
      have h1 := (HB.out.cell (p := ⟨b, off + (a + z) / 2 * 3, none⟩) hb).trans (HC.out ((a + z) / 2) (by omega)).1
      have h2 := (HB.out.cell (p := ⟨b, off + (a + z) / 2 * 3 + 1, none⟩) hb).trans (HC.out ((a + z) / 2) (by omega)).2.1
      have h3 := (HB.out.cell (p := ⟨b, off + (a + z) / 2 * 3 + 2, none⟩) hb).trans (HC.out ((a + z) / 2) (by omega)).2.2
      have hX := HP.out ((a + z) / 2) wr HB.out
      have HK := Lib.hid (fun (x : Nat) (h : x < L.length) (h' : x ≠ (a + z) / 2) => hs x ((a + z) / 2))
      obtain ⟨v, hv⟩ : ∃ v, v = cmpE (ent L ((a + z) / 2)) nm c := ⟨_, rfl⟩
      have hvs := cmpE_sgn (ent L ((a + z) / 2)) nm c
      rw [← hv] at hX hvs
      have HV := Lib.hid hv
      obtain ⟨x0, hx0⟩ : ∃ x, x = (ent L ((a + z) / 2)).1 := ⟨_, rfl⟩
      obtain ⟨x1, hx1⟩ : ∃ x, x = (ent L ((a + z) / 2)).2.1 := ⟨_, rfl⟩
      obtain ⟨x2, hx2⟩ : ∃ x, x = (ent L ((a + z) / 2)).2.2 := ⟨_, rfl⟩
      rw [← hx0] at h1 hX
      rw [← hx1] at h2 hX
      rw [← hx2] at h3 hX
      have HX := Lib.hid hX
      clear hX hv hx0 hx1 hx2 HK
      have hvv : v < 0 ∨ 0 ≤ v := by omega
      rcases hvv with hneg | hpos
      · obtain rfl : v = -1 := by unfold Tm.Sgn at hvs; omega
        clear hvs
        go_wp2_with fail
        refine HX.out.mono ?_
        rintro e w1 ⟨rfl, hb1⟩
        go_wp2_with fail
        refine ⟨⟨(a + z) / 2 + 1, z, by omega, hz, by go_num, rfl, fun x hx => ?_, HHI.out, HB.out.trans (hb1.mono HB.out.size)⟩, by simp [intOf]; omega⟩
        by_cases hxm : x = (a + z) / 2
        · subst hxm; rw [← HV.out]; omega
        · have h4 := hs x ((a + z) / 2) (by omega) (by have := HL.out; omega)
          exact (keyE_fit _ _ nm c).1 h4 (by rw [← HV.out]; omega)
      · have hend : (∀ x, (a + z) / 2 ≤ x → x < n → 0 ≤ cmpE (ent L x) nm c) := fun x hx hxn => by
          by_cases hxm : x = (a + z) / 2
          · subst hxm; rw [← HV.out]; exact hpos
          · have h4 := hs ((a + z) / 2) x (by omega) (by have := HL.out; omega)
            have h5 := keyE_neg (ent L ((a + z) / 2)) (ent L x)
            obtain ⟨f1, f2, f3, f4⟩ := keyE_fit (ent L x) (ent L ((a + z) / 2)) nm c
            rw [← HV.out] at f3 f4
            by_cases hv0 : v = 0
            · have := f3 hv0; omega
            · have := f4 (by omega) (by omega); omega
        have HE := Lib.hid hend
        clear hend
        have hvd : decide (v < 0) = false := by rw [decide_eq_false]; omega
        clear hvs
        go_wp2_with fail
        refine HX.out.mono ?_
        rintro e w1 ⟨rfl, hb1⟩
        go_wp2_with fail
        exact ⟨⟨a, (a + z) / 2, by omega, by omega, rfl, congrArg (Value.int .i64) (by omega), HLO.out, HE.out, HB.out.trans (hb1.mono HB.out.size)⟩, by simp [intOf]; omega⟩
    · obtain rfl : a = z := by omega
      have hpos : IsPos L nm c a := ⟨by have := HL.out; omega, HLO.out, fun j h1 h2 => HHI.out j h1 (by have := HL.out; omega)⟩
      have HQ := Lib.hid hpos
      clear hpos
      by_cases han : a < n
      · have h1 := (HB.out.cell (p := ⟨b, off + a * 3, none⟩) hb).trans (HC.out a (by omega)).1
        have h2 := (HB.out.cell (p := ⟨b, off + a * 3 + 1, none⟩) hb).trans (HC.out a (by omega)).2.1
        have h3 := (HB.out.cell (p := ⟨b, off + a * 3 + 2, none⟩) hb).trans (HC.out a (by omega)).2.2
        have hX := HP.out a wr HB.out
        obtain ⟨v, hv⟩ : ∃ v, v = cmpE (ent L a) nm c := ⟨_, rfl⟩
        have hHit := Lib.hid (show hitB L nm c a = (v == 0) by
          rw [hv]
          unfold hitB
          rw [Bool.eq_iff_iff, decide_eq_true_eq, beq_iff_eq]
          have := HL.out
          exact ⟨fun h => h.2, fun h => ⟨by omega, h⟩⟩)
        rw [← hv] at hX
        clear hv
        obtain ⟨x0, hx0⟩ : ∃ x, x = (ent L a).1 := ⟨_, rfl⟩
        obtain ⟨x1, hx1⟩ : ∃ x, x = (ent L a).2.1 := ⟨_, rfl⟩
        obtain ⟨x2, hx2⟩ : ∃ x, x = (ent L a).2.2 := ⟨_, rfl⟩
        rw [← hx0] at h1 hX
        rw [← hx1] at h2 hX
        rw [← hx2] at h3 hX
        have HX := Lib.hid hX
        clear hX hx0 hx1 hx2
        go_wp2_with fail
        refine HX.out.mono ?_
        rintro e w1 ⟨rfl, hb1⟩
        go_wp2_with fail
        go_ret2
        exact ⟨⟨a, HQ.out, by rw [hHit.out]; rfl⟩, HB.out.trans (hb1.mono HB.out.size)⟩
      · go_wp2_with fail
        go_ret2
        exact ⟨⟨a, HQ.out, by rw [hitB_no (fun h => han (by have := HL.out; omega))]; rfl⟩, HB.out⟩

theorem search_zero (A : Option Addr) (cap : Nat) (nm : ByteArray) (ad : Addr) (w : World) :
    Calls Tryd.prog 52 #[.slice A 0 cap, .string nm, .func (.func 53) #[] #[.pointer (some ad)]] w fun e w' => e = .returned (.tuple #[.int .i64 0, .bool false]) ∧ w = w' := by
  go_enter Tryd.func52, Tryd.ntmps52
  go_wp2_with fail
  refine wp_loop_rounds 1 ?_
  rw [rounds_succ]
  go_wp2_with fail
  go_ret2
  exact ⟨rfl, rfl⟩

theorem find_any (A : Option Addr) (n cap : Nat) (nm : ByteArray) (c : Int) (L : List Ent) (w : World) (hT : Tabs w) (hn : n ≤ 100) (h : OpsIn w w.heap.size A n L) (hs : Sorted L) :
    Calls Tryd.prog 39 #[.slice A n cap, .string nm, .int .i64 c] w fun e w' => PosEnd L nm c e ∧ Below w.heap.size w w' := by
  have hb : Below w.heap.size w (w.alloc (.cells #[.int .i64 c] 3)) := (Below.refl _ _).alloc (Nat.le_refl _) _
  have hx : Calls Tryd.prog 52 #[.slice A n cap, .string nm, .func (.func 53) #[] #[.pointer (some ⟨w.heap.size, 0, none⟩)]] (w.alloc (.cells #[.int .i64 c] 3)) fun e w' => PosEnd L nm c e ∧ Below (w.alloc (.cells #[.int .i64 c] 3)).heap.size (w.alloc (.cells #[.int .i64 c] 3)) w' := by
    by_cases h0 : n = 0
    · subst h0
      have hl := h.len
      refine (search_zero A cap nm _ _).mono fun e w' ⟨he, hw⟩ => ⟨⟨0, ⟨by omega, fun j hj => absurd hj (by omega), fun j _ hj => absurd hj (by omega)⟩, ?_⟩, hw ▸ Below.refl _ _⟩
      rw [he, hitB_no (by omega)]
      rfl
    · obtain ⟨b, off, rfl, hb', hc⟩ := (h.on hb hb.size).cells (by omega)
      exact search_some b off n cap nm c _ L _ (hT.below hb) (by simp) (cell_new w _ _ 0) hn h.len hs hb' hc
  have HX := Lib.hid hx
  have HB := Lib.hid hb
  clear h hs hT hb hx
  go_enter Tryd.func39, Tryd.ntmps39
  go_wp2_with fail
  refine HX.out.mono ?_
  rintro e w1 ⟨⟨i, hi, rfl⟩, hb1⟩
  have HI := Lib.hid hi
  clear hi
  go_wp2_with fail
  go_ret2
  exact ⟨⟨i, HI.out, rfl⟩, HB.out.trans (hb1.mono HB.out.size)⟩
end Go.Proofs.YtgbfkchjcjdnnaaDoor
