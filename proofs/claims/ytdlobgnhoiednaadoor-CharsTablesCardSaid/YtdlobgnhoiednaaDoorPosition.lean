/-
  The binary search of package chars finds the place of a character in a valid table of at most 1,000 pairs.
-/
import Derived.Test.YtdlobgnhoiednaaDoorValid
import Derived.Test.YtdlobgnhoiednaaDoorShelf
namespace Go.Proofs.YtdlobgnhoiednaaDoor
set_option linter.unusedVariables false
set_option linter.unusedSimpArgs false
open Go.RowKit

/-- The closure that compares. -/
theorem before_any (x y c : Int) (w : World) :
    Calls Tryd.prog 39 #[.agg #[.int .i64 x, .int .i64 y], .int .i64 c] w fun e w' => e = .returned (.int .i64 (Lib.compareInt x c)) ∧ Below w.heap.size w w' := by
  go_enter Tryd.func39, Tryd.ntmps39
  go_wp2_with fail
  refine (Tryd.cmp_Compare_int _ _ _).mono ?_
  rintro e w' ⟨rfl, rfl⟩
  go_wp2_with fail
  go_ret
  exact ⟨rfl, (Below.refl _ _).alloc (Nat.le_refl _) _⟩

theorem before_lt (x y c : Int) (w : World) (h : x < c) :
    Calls Tryd.prog 39 #[.agg #[.int .i64 x, .int .i64 y], .int .i64 c] w fun e w' => e = .returned (.int .i64 (-1)) ∧ Below w.heap.size w w' := by
  have e : Lib.compareInt x c = -1 := by unfold Lib.compareInt; rw [if_pos h]
  rw [← e]; exact before_any x y c w
theorem before_eq (x y c : Int) (w : World) (h : x = c) :
    Calls Tryd.prog 39 #[.agg #[.int .i64 x, .int .i64 y], .int .i64 c] w fun e w' => e = .returned (.int .i64 0) ∧ Below w.heap.size w w' := by
  have e : Lib.compareInt x c = 0 := by unfold Lib.compareInt; rw [if_neg (by omega), if_neg (by omega)]
  rw [← e]; exact before_any x y c w
theorem before_gt (x y c : Int) (w : World) (h : c < x) :
    Calls Tryd.prog 39 #[.agg #[.int .i64 x, .int .i64 y], .int .i64 c] w fun e w' => e = .returned (.int .i64 1) ∧ Below w.heap.size w w' := by
  have e : Lib.compareInt x c = 1 := by unfold Lib.compareInt; rw [if_neg (by omega), if_pos h]
  rw [← e]; exact before_any x y c w

def Sorted (L : List (Int × Int)) : Prop := ∀ i j, i < j → j < L.length → fs L i < fs L j
theorem Good.sorted {L : List (Int × Int)} (h : Good L) : Sorted L := by
  intro i j hij hj
  induction j with
  | zero => omega
  | succ k ih =>
    have h1 := (h (k + 1) hj).2.2.2 (by omega)
    simp only [Nat.add_sub_cancel] at h1
    by_cases hik : i = k
    · subst hik; exact h1
    · have := ih (by omega) (by omega); omega

/-- The place of c: all pairs ahead of it are below c, all from it on are not. -/
def IsPos (L : List (Int × Int)) (c : Int) (i : Nat) : Prop := i ≤ L.length ∧ (∀ j, j < i → fs L j < c) ∧ ∀ j, i ≤ j → j < L.length → c ≤ fs L j
def hitB (L : List (Int × Int)) (c : Int) (i : Nat) : Bool := decide (i < L.length ∧ fs L i = c)
theorem hitB_yes {L : List (Int × Int)} {c : Int} {i : Nat} (h : i < L.length ∧ fs L i = c) : hitB L c i = true := decide_eq_true h
theorem hitB_no {L : List (Int × Int)} {c : Int} {i : Nat} (h : ¬ (i < L.length ∧ fs L i = c)) : hitB L c i = false := decide_eq_false h
def PosEnd (L : List (Int × Int)) (c : Int) (e : Ending) : Prop :=
  ∃ i : Nat, IsPos L c i ∧ e = .returned (.tuple #[.int .i64 i, .bool (hitB L c i)])

set_option maxHeartbeats 2000000 in
theorem search_some (b off n cap : Nat) (c : Int) (L : List (Int × Int)) (w : World) (hn : n ≤ 1000) (hlen : L.length = n) (hs : Sorted L) (hb : b < w.heap.size)
    (hc : ∀ j, j < n → w.cell? ⟨b, off + j * 2, none⟩ = some (.int .i64 (fs L j)) ∧ w.cell? ⟨b, off + j * 2 + 1, none⟩ = some (.int .i64 (sn L j))) :
    Calls Tryd.prog 38 #[.slice (some ⟨b, off, none⟩) n cap, .int .i64 c, .func (.func 39) #[] #[]] w fun e w' => PosEnd L c e ∧ Below w.heap.size w w' := by
  have HC := Lib.hid hc
  have HL := Lib.hid hlen
  clear hc hlen
  go_enter Tryd.func38, Tryd.ntmps38
  go_wp2_with fail
  go_loopw [9, 10] (fun i j wr => ∃ a z : Nat, a ≤ z ∧ z ≤ n ∧ i = .int .i64 a ∧ j = .int .i64 z ∧ (∀ x, x < a → fs L x < c) ∧ (∀ x, z ≤ x → x < n → c ≤ fs L x) ∧ Below w.heap.size w wr) (fun i j _ => (intOf j).toNat - (intOf i).toNat)
  case atStart => exact ⟨0, n, by omega, by omega, rfl, rfl, fun x hx => absurd hx (by omega), fun x h1 h2 => absurd h1 (by omega), Below.refl _ _⟩
  case round =>
    obtain ⟨a, z, haz, hz, rfl, rfl, hlo, hhi, hbl⟩ := hrel
    have HLO := Lib.hid hlo
    have HHI := Lib.hid hhi
    have HB := Lib.hid hbl
    clear hlo hhi hbl
    by_cases hlt : a < z
    · have hm0 : a ≤ (a + z) / 2 := by omega
      have hm1 : (a + z) / 2 < z := by omega
      have h1 : wr.cell? ⟨b, off + (a + z) / 2 * 2, none⟩ = some (.int .i64 (fs L ((a + z) / 2))) := (HB.out.cell hb).trans (HC.out _ (by omega)).1
      have h2 : wr.cell? ⟨b, off + (a + z) / 2 * 2 + 1, none⟩ = some (.int .i64 (sn L ((a + z) / 2))) := (HB.out.cell hb).trans (HC.out _ (by omega)).2
      by_cases hcmp : fs L ((a + z) / 2) < c
      · have HX := Lib.hid (before_lt (fs L ((a + z) / 2)) (sn L ((a + z) / 2)) c wr hcmp)
        go_wp2_with fail
        refine HX.out.mono ?_
        rintro e w1 ⟨rfl, hb1⟩
        go_wp2_with fail
        refine ⟨⟨(a + z) / 2 + 1, z, by omega, hz, by go_num, rfl, fun x hx => ?_, HHI.out, HB.out.trans (hb1.mono HB.out.size)⟩, by simp [intOf]; omega⟩
        by_cases hxm : x = (a + z) / 2
        · subst hxm; exact hcmp
        · have := hs x ((a + z) / 2) (by omega) (by have := HL.out; omega)
          omega
      · have hend : (∀ x, (a + z) / 2 ≤ x → x < n → c ≤ fs L x) := fun x hx hxn => by
          by_cases hxm : x = (a + z) / 2
          · subst hxm; omega
          · have := hs ((a + z) / 2) x (by omega) (by have := HL.out; omega)
            omega
        have HE := Lib.hid hend
        clear hend
        by_cases heq : fs L ((a + z) / 2) = c
        · have HX := Lib.hid (before_eq (fs L ((a + z) / 2)) (sn L ((a + z) / 2)) c wr heq)
          have HQ := Lib.hid heq
          clear heq
          go_wp2_with fail
          refine HX.out.mono ?_
          rintro e w1 ⟨rfl, hb1⟩
          go_wp2_with fail
          exact ⟨⟨a, (a + z) / 2, by omega, by omega, rfl, congrArg (Value.int .i64) (by omega), HLO.out, HE.out, HB.out.trans (hb1.mono HB.out.size)⟩, by simp [intOf]; omega⟩
        · have HX := Lib.hid (before_gt (fs L ((a + z) / 2)) (sn L ((a + z) / 2)) c wr (by omega))
          clear heq
          go_wp2_with fail
          refine HX.out.mono ?_
          rintro e w1 ⟨rfl, hb1⟩
          go_wp2_with fail
          exact ⟨⟨a, (a + z) / 2, by omega, by omega, rfl, congrArg (Value.int .i64) (by omega), HLO.out, HE.out, HB.out.trans (hb1.mono HB.out.size)⟩, by simp [intOf]; omega⟩
    · obtain rfl : a = z := by omega
      have hpos : IsPos L c a := ⟨by have := HL.out; omega, HLO.out, fun j h1 h2 => HHI.out j h1 (by have := HL.out; omega)⟩
      have HP := Lib.hid hpos
      clear hpos
      by_cases han : a < n
      · have h1 : wr.cell? ⟨b, off + a * 2, none⟩ = some (.int .i64 (fs L a)) := (HB.out.cell hb).trans (HC.out _ han).1
        have h2 : wr.cell? ⟨b, off + a * 2 + 1, none⟩ = some (.int .i64 (sn L a)) := (HB.out.cell hb).trans (HC.out _ han).2
        by_cases heq : fs L a = c
        · have HX := Lib.hid (before_eq (fs L a) (sn L a) c wr heq)
          have HQ := Lib.hid heq
          clear heq
          go_wp2_with fail
          refine HX.out.mono ?_
          rintro e w1 ⟨rfl, hb1⟩
          go_wp2_with fail
          go_ret2
          exact ⟨⟨a, HP.out, by rw [hitB_yes ⟨by have := HL.out; omega, HQ.out⟩]; rfl⟩, HB.out.trans (hb1.mono HB.out.size)⟩
        · have hgt : c < fs L a := by have := HP.out.2.2 a (Nat.le_refl _) (by have := HL.out; omega); omega
          have HX := Lib.hid (before_gt (fs L a) (sn L a) c wr hgt)
          have HQ := Lib.hid heq
          clear heq
          go_wp2_with fail
          refine HX.out.mono ?_
          rintro e w1 ⟨rfl, hb1⟩
          go_wp2_with fail
          go_ret2
          exact ⟨⟨a, HP.out, by rw [hitB_no (fun h => HQ.out h.2)]; rfl⟩, HB.out.trans (hb1.mono HB.out.size)⟩
      · go_wp2_with fail
        go_ret2
        exact ⟨⟨a, HP.out, by rw [hitB_no (fun h => han (by have := HL.out; omega))]; rfl⟩, HB.out⟩

theorem search_zero (A : Option Addr) (cap : Nat) (c : Int) (w : World) :
    Calls Tryd.prog 38 #[.slice A 0 cap, .int .i64 c, .func (.func 39) #[] #[]] w fun e w' => e = .returned (.tuple #[.int .i64 0, .bool false]) ∧ w = w' := by
  go_enter Tryd.func38, Tryd.ntmps38
  go_wp2_with fail
  refine wp_loop_rounds 1 ?_
  rw [rounds_succ]
  go_wp2_with fail
  go_ret2
  exact ⟨rfl, rfl⟩

theorem search_any (A : Option Addr) (n cap : Nat) (c : Int) (L : List (Int × Int)) (w : World) (hn : n ≤ 1000) (h : PairsIn w w.heap.size A n L) (hs : Sorted L) :
    Calls Tryd.prog 38 #[.slice A n cap, .int .i64 c, .func (.func 39) #[] #[]] w fun e w' => PosEnd L c e ∧ Below w.heap.size w w' := by
  by_cases h0 : n = 0
  · subst h0
    have hl := h.len
    refine (search_zero A cap c w).mono fun e w' ⟨he, hw⟩ => ⟨⟨0, ⟨by omega, fun j hj => absurd hj (by omega), fun j _ hj => absurd hj (by omega)⟩, ?_⟩, hw ▸ Below.refl _ _⟩
    rw [he, hitB_no (by omega)]
    rfl
  · obtain ⟨b, off, rfl, hb, hc⟩ := h.cells (by omega)
    exact search_some b off n cap c L w hn h.len hs hb hc

theorem position_any (A : Option Addr) (n cap : Nat) (c : Int) (L : List (Int × Int)) (w : World) (hn : n ≤ 1000) (h : PairsIn w w.heap.size A n L) (hs : Sorted L) :
    Calls Tryd.prog 31 #[.slice A n cap, .int .i64 c] w fun e w' => PosEnd L c e ∧ Below w.heap.size w w' := by
  have HX := Lib.hid (search_any A n cap c L w hn h hs)
  clear h hs
  go_enter Tryd.func31, Tryd.ntmps31
  go_wp2_with fail
  refine HX.out.mono ?_
  rintro e w1 ⟨⟨i, hi, rfl⟩, hb1⟩
  have HI := Lib.hid hi
  clear hi
  go_wp2_with fail
  go_ret2
  exact ⟨⟨i, HI.out, rfl⟩, hb1⟩

end Go.Proofs.YtdlobgnhoiednaaDoor
