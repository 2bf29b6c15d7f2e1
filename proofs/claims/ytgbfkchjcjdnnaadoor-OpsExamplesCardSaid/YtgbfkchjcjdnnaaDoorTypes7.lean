/-
  Sides, TypeName and TypeOf of package ops and of the reference.
-/
import Derived.Test.YtgbfkchjcjdnnaaDoorPre7
namespace Go.Proofs.YtgbfkchjcjdnnaaDoor
set_option linter.unusedVariables false
set_option linter.unusedSimpArgs false
open Go.RowKit Q

namespace Q
def sidesM (t p : Int) : Int × Int :=
  if p < 1 ∨ 1200 < p then (0, 0) else if t = 1 then (p - 1, p - 1) else if t = 2 then (p - 1, p) else if t = 3 then (p, p - 1) else if t = 4 then (0, p) else if t = 5 then (0, p - 1) else if t = 6 then (p - 1, 0) else if t = 7 then (p, 0) else (0, 0)
theorem sides_bad {t p : Int} (h : p < 1 ∨ 1200 < p) : sidesM t p = (0, 0) := by unfold sidesM; rw [if_pos h]
theorem sides_none {t p : Int} (h : ¬ (1 ≤ t ∧ t ≤ 7)) : sidesM t p = (0, 0) := by
  unfold sidesM
  by_cases hp : p < 1 ∨ 1200 < p
  · rw [if_pos hp]
  · rw [if_neg hp, if_neg (by omega), if_neg (by omega), if_neg (by omega), if_neg (by omega), if_neg (by omega), if_neg (by omega), if_neg (by omega)]
theorem sides_good {t p : Int} (h : 1 ≤ p) (h' : p ≤ 1200) : sidesM t p = if t = 1 then (p - 1, p - 1) else if t = 2 then (p - 1, p) else if t = 3 then (p, p - 1) else if t = 4 then (0, p) else if t = 5 then (0, p - 1) else if t = 6 then (p - 1, 0) else if t = 7 then (p, 0) else (0, 0) := by
  unfold sidesM; rw [if_neg (by omega)]
end Q

def SidesEnd (t p : Int) (e : Ending) : Prop := e = .returned (.tuple #[.int .i64 (sidesM t p).1, .int .i64 (sidesM t p).2])
theorem wrap_one {p : Int} (h : 1 ≤ p) (h' : p ≤ 1200) : IntKind.i64.wrap (p - 1) = p - 1 := by rw [IntKind.wrap_i64]; omega

set_option maxHeartbeats 2000000 in
theorem sides_any (s : ByteArray) (t p : Int) (w : World) : Calls Tryd.prog 14 #[.agg #[.string s, .int .i64 t, .int .i64 p]] w fun e w' => SidesEnd t p e ∧ Below w.heap.size w w' := by
  have HB := Lib.hid ((Below.refl w.heap.size w).alloc (Nat.le_refl _) (.cells #[.string s, .int .i64 t, .int .i64 p] 26))
  unfold SidesEnd
  by_cases h0 : p = 0
  · rw [sides_bad (t := t) (p := p) (.inl (by omega))]
    subst h0
    have HPR := Lib.hid (show prB 0 = true from rfl)
    go_enter Tryd.func14, Tryd.ntmps14
    go_wp2_with fail
    refine (prio_any 0 _).mono ?_
    rintro e w' ⟨he, rfl⟩
    rw [HPR.out] at he
    subst he
    go_wp2_with fail
    go_ret2
    exact ⟨rfl, HB.out⟩
  by_cases hp : prB p = false
  · rw [sides_bad (t := t) (p := p) (by unfold prB at hp; simp only [Bool.and_eq_false_iff, decide_eq_false_iff_not] at hp; omega)]
    have HPR := Lib.hid hp
    clear hp
    go_enter Tryd.func14, Tryd.ntmps14
    go_wp2_with fail
    refine (prio_any p _).mono ?_
    rintro e w' ⟨he, rfl⟩
    rw [HPR.out] at he
    subst he
    go_wp2_with fail
    go_ret2
    exact ⟨rfl, HB.out⟩
  have hp1 : prB p = true := by simpa using hp
  have hlo : 1 ≤ p := by unfold prB at hp1; simp only [Bool.and_eq_true, decide_eq_true_eq] at hp1; omega
  have hhi : p ≤ 1200 := by unfold prB at hp1; simp only [Bool.and_eq_true, decide_eq_true_eq] at hp1; omega
  have HPR := Lib.hid hp1
  have h0b : (p == 0) = false := by rw [beq_eq_false_iff_ne]; exact h0
  clear hp hp1 h0
  have hw := wrap_one hlo hhi
  by_cases ht : 1 ≤ t ∧ t ≤ 7
  · rw [sides_good hlo hhi]
    have hts : t = 1 ∨ t = 2 ∨ t = 3 ∨ t = 4 ∨ t = 5 ∨ t = 6 ∨ t = 7 := by omega
    clear ht
    rcases hts with rfl | rfl | rfl | rfl | rfl | rfl | rfl
    all_goals
      go_enter Tryd.func14, Tryd.ntmps14
      go_wp2_with fail
      refine (prio_any p _).mono ?_
      rintro e w' ⟨he, rfl⟩
      rw [HPR.out] at he
      subst he
      go_wp2_with fail
      go_quiet (fail)
      go_wp2_with fail
      go_ret2
      exact ⟨rfl, below_drewN HB.out _⟩
  · rw [sides_none ht]
    have b1 : (t == 1) = false := by rw [beq_eq_false_iff_ne]; omega
    have b2 : (t == 2) = false := by rw [beq_eq_false_iff_ne]; omega
    have b3 : (t == 3) = false := by rw [beq_eq_false_iff_ne]; omega
    have b4 : (t == 4) = false := by rw [beq_eq_false_iff_ne]; omega
    have b5 : (t == 5) = false := by rw [beq_eq_false_iff_ne]; omega
    have b6 : (t == 6) = false := by rw [beq_eq_false_iff_ne]; omega
    have b7 : (t == 7) = false := by rw [beq_eq_false_iff_ne]; omega
    clear ht
    go_enter Tryd.func14, Tryd.ntmps14
    go_wp2_with fail
    refine (prio_any p _).mono ?_
    rintro e w' ⟨he, rfl⟩
    rw [HPR.out] at he
    subst he
    go_wp2_with fail
    go_quiet (fail)
    go_wp2_with fail
    go_ret2
    exact ⟨rfl, below_drewN HB.out _⟩

set_option maxHeartbeats 2000000 in
theorem rsides_any (s : ByteArray) (t p : Int) (w : World) : Calls Tryd.prog 29 #[.agg #[.string s, .int .i64 t, .int .i64 p]] w fun e w' => SidesEnd t p e ∧ Below w.heap.size w w' := by
  have HB := Lib.hid ((Below.refl w.heap.size w).alloc (Nat.le_refl _) (.cells #[.string s, .int .i64 t, .int .i64 p] 26))
  unfold SidesEnd
  by_cases hp : p < 1
  · rw [sides_bad (t := t) (p := p) (.inl hp)]
    go_enter Tryd.func29, Tryd.ntmps29
    go_wp2_with fail
    go_ret2
    exact ⟨rfl, HB.out⟩
  by_cases hp' : 1200 < p
  · rw [sides_bad (t := t) (p := p) (.inr hp')]
    go_enter Tryd.func29, Tryd.ntmps29
    go_wp2_with fail
    go_ret2
    exact ⟨rfl, HB.out⟩
  have hlo : 1 ≤ p := by omega
  have hhi : p ≤ 1200 := by omega
  have hw := wrap_one hlo hhi
  by_cases ht : 1 ≤ t ∧ t ≤ 7
  · rw [sides_good hlo hhi]
    have hts : t = 1 ∨ t = 2 ∨ t = 3 ∨ t = 4 ∨ t = 5 ∨ t = 6 ∨ t = 7 := by omega
    clear ht
    rcases hts with rfl | rfl | rfl | rfl | rfl | rfl | rfl
    all_goals
      go_enter Tryd.func29, Tryd.ntmps29
      go_wp2_with fail
      go_ret2
      exact ⟨rfl, HB.out⟩
  · rw [sides_none ht]
    have b1 : (t == 1) = false := by rw [beq_eq_false_iff_ne]; omega
    have b2 : (t == 2) = false := by rw [beq_eq_false_iff_ne]; omega
    have b3 : (t == 3) = false := by rw [beq_eq_false_iff_ne]; omega
    have b4 : (t == 4) = false := by rw [beq_eq_false_iff_ne]; omega
    have b5 : (t == 5) = false := by rw [beq_eq_false_iff_ne]; omega
    have b6 : (t == 6) = false := by rw [beq_eq_false_iff_ne]; omega
    have b7 : (t == 7) = false := by rw [beq_eq_false_iff_ne]; omega
    clear ht
    go_enter Tryd.func29, Tryd.ntmps29
    go_wp2_with fail
    go_ret2
    exact ⟨rfl, HB.out⟩

/-! ### names of types -/
def tyN (n : Nat) : ByteArray := typL.getD n ⟨#[]⟩
def nameM (t : Int) : ByteArray × Bool := if 1 ≤ t ∧ t ≤ 7 then (tyN t.toNat, true) else (⟨#[]⟩, false)
def NameEnd (t : Int) (e : Ending) : Prop := e = .returned (.tuple #[.string (nameM t).1, .bool (nameM t).2])
theorem typL_at {n : Nat} (h : n < 8) : typL[n]? = some (tyN n) := by
  unfold tyN
  have hl : n < typL.length := h
  rw [List.getD_eq_getElem?_getD, List.getElem?_eq_getElem hl]
  rfl
theorem typeName_any (t : Int) (w : World) (hT : Tabs w) (hN : Nams w) : Calls Tryd.prog 18 #[.int .i64 t] w fun e w' => NameEnd t e ∧ w = w' := by
  have hC := class_any t w hT
  unfold NameEnd
  by_cases h : 1 ≤ t ∧ t ≤ 7
  · obtain ⟨n, rfl⟩ := Int.eq_ofNat_of_zero_le (show 0 ≤ t by omega)
    have hc := hN.nam n _ (typL_at (show n < 8 by omega))
    have e1 : nameM (n : Int) = (tyN n, true) := by unfold nameM; rw [if_pos h, Int.toNat_natCast]
    rw [e1]
    obtain ⟨x, hx⟩ : ∃ x, x = tyN n := ⟨_, rfl⟩
    rw [← hx] at hc ⊢
    have hz : cls (n : Int) ≠ 0 := by unfold cls; split <;> (try split) <;> (try split) <;> omega
    obtain ⟨d, hd⟩ : ∃ d, d = cls (n : Int) := ⟨_, rfl⟩
    rw [← hd] at hC hz
    have hzb : (d == 0) = false := by rw [beq_eq_false_iff_ne]; exact hz
    have HC := Lib.hid hC
    have hn8 : n < 8 := by omega
    clear hC hT hN e1 hx hd hz h
    go_enter Tryd.func18, Tryd.ntmps18
    go_wp2_with fail
    refine HC.out.mono ?_
    rintro e w' ⟨rfl, rfl⟩
    go_wp2_with fail
    go_ret2
    exact ⟨rfl, rfl⟩
  · have e1 : nameM t = (⟨#[]⟩, false) := by unfold nameM; rw [if_neg h]
    rw [e1]
    have hz : cls t = 0 := by unfold cls; rw [if_neg (by omega), if_neg (by omega), if_neg (by omega)]
    rw [hz] at hC
    have HC := Lib.hid hC
    clear hC hT hN e1 hz h
    go_enter Tryd.func18, Tryd.ntmps18
    go_wp2_with fail
    refine HC.out.mono ?_
    rintro e w' ⟨rfl, rfl⟩
    go_wp2_with fail
    go_ret2
    exact ⟨rfl, rfl⟩
def typV : Array Value := #[.string ⟨#[]⟩, .string ⟨#[120, 102, 120]⟩, .string ⟨#[120, 102, 121]⟩, .string ⟨#[121, 102, 120]⟩, .string ⟨#[102, 121]⟩, .string ⟨#[102, 120]⟩, .string ⟨#[120, 102]⟩, .string ⟨#[121, 102]⟩]
theorem typV_at {n : Nat} (h : n < 8) : typV[n]? = some (.string (tyN n)) := by
  have hall : ∀ m : Fin 8, typV[m.val]? = some (.string (tyN m.val)) := by
    intro m
    match m with
    | 0 => rfl
    | 1 => rfl
    | 2 => rfl
    | 3 => rfl
    | 4 => rfl
    | 5 => rfl
    | 6 => rfl
    | 7 => rfl
  exact hall ⟨n, h⟩
theorem rtypeName_any (t : Int) (w : World) : Calls Tryd.prog 30 #[.int .i64 t] w fun e w' => NameEnd t e ∧ Below w.heap.size w w' := by
  have HB := Lib.hid ((Below.refl w.heap.size w).alloc (Nat.le_refl _) (.cells typV 9))
  unfold NameEnd
  by_cases h : 1 ≤ t ∧ t ≤ 7
  · obtain ⟨n, rfl⟩ := Int.eq_ofNat_of_zero_le (show 0 ≤ t by omega)
    have hn8 : n < 8 := by omega
    have hc := (cell_new w typV 9 n).trans (typV_at hn8)
    have e1 : nameM (n : Int) = (tyN n, true) := by unfold nameM; rw [if_pos h, Int.toNat_natCast]
    rw [e1]
    obtain ⟨x, hx⟩ : ∃ x, x = tyN n := ⟨_, rfl⟩
    rw [← hx] at hc ⊢
    have hn1 : ¬ (n : Int) < 1 := by omega
    have hn7 : ¬ (7 : Int) < (n : Int) := by omega
    unfold typV at hc HB
    clear e1 hx h
    go_enter Tryd.func30, Tryd.ntmps30
    go_wp2_with fail
    go_ret2
    exact ⟨rfl, HB.out⟩
  · have e1 : nameM t = (⟨#[]⟩, false) := by unfold nameM; rw [if_neg h]
    rw [e1]
    unfold typV at HB
    by_cases h1 : t < 1
    · go_enter Tryd.func30, Tryd.ntmps30
      go_wp2_with fail
      go_ret2
      exact ⟨rfl, HB.out⟩
    · have h7 : 7 < t := by omega
      go_enter Tryd.func30, Tryd.ntmps30
      go_wp2_with fail
      go_ret2
      exact ⟨rfl, HB.out⟩

/-- The type with a name: the first one that has it. -/
def TypeIs (nm : ByteArray) (n : Nat) (ok : Bool) : Prop := (∀ j, 1 ≤ j → j < 8 → (ok = false ∨ j < n) → tyN j ≠ nm) ∧ (ok = true → 1 ≤ n ∧ n < 8 ∧ tyN n = nm) ∧ (ok = false → n = 0)
theorem TypeIs.uniq {nm : ByteArray} {n n' : Nat} {ok ok' : Bool} (h : TypeIs nm n ok) (h' : TypeIs nm n' ok') : n = n' ∧ ok = ok' := by
  obtain ⟨a, b, c⟩ := h
  obtain ⟨a', b', c'⟩ := h'
  cases ok <;> cases ok'
  · exact ⟨by rw [c rfl, c' rfl], rfl⟩
  · obtain ⟨x, y, z⟩ := b' rfl
    exact absurd z (a n' x y (.inl rfl))
  · obtain ⟨x, y, z⟩ := b rfl
    exact absurd z (a' n x y (.inl rfl))
  · obtain ⟨x, y, z⟩ := b rfl
    obtain ⟨x', y', z'⟩ := b' rfl
    refine ⟨?_, rfl⟩
    rcases Nat.lt_trichotomy n n' with h | h | h
    · exact absurd z (a' n x y (.inr h))
    · exact h
    · exact absurd z' (a n' x' y' (.inr h))
def TypeEnd (nm : ByteArray) (e : Ending) : Prop := ∃ n ok, TypeIs nm n ok ∧ e = .returned (.tuple #[.int .i64 (n : Nat), .bool ok])

set_option maxHeartbeats 1000000 in
theorem typeOf_any (nm : ByteArray) (w : World) (hT : Nams w) : Calls Tryd.prog 19 #[.string nm] w fun e w' => TypeEnd nm e ∧ w = w' := by
  have HT := Lib.hid hT
  clear hT
  go_enter Tryd.func19, Tryd.ntmps19
  go_wp2_with fail
  go_loop [2] (fun u => ∃ k : Nat, 1 ≤ k ∧ k ≤ 8 ∧ u = .int .i64 k ∧ ∀ j, 1 ≤ j → j < k → tyN j ≠ nm) (fun u => 8 - (intOf u).toNat)
  case atStart => exact ⟨1, by omega, by omega, rfl, fun j h h' => absurd h' (by omega)⟩
  case round =>
    obtain ⟨k, hk1, hk8, rfl, hno⟩ := hrel
    have HNO := Lib.hid hno
    clear hno
    by_cases hlt : k < 8
    · have hc := HT.out.nam k _ (typL_at hlt)
      have hk7 : (k : Int) ≤ 7 := by omega
      obtain ⟨x, hx⟩ : ∃ x, x = tyN k := ⟨_, rfl⟩
      rw [← hx] at hc
      have HX := Lib.hid hx
      clear hx
      have hb : (x.toList == nm.toList) = decide (x = nm) := eqC x nm
      by_cases hxn : x = nm
      · rw [decide_eq_true hxn] at hb
        have HXN := Lib.hid hxn
        clear hxn
        go_wp2_with fail
        go_ret2
        exact ⟨⟨k, true, ⟨fun j h1 h2 h3 => by rcases h3 with h3 | h3; cases h3; exact HNO.out j h1 h3, fun _ => ⟨hk1, hlt, by rw [← HX.out]; exact HXN.out⟩, fun h => by cases h⟩, rfl⟩, rfl⟩
      · rw [decide_eq_false hxn] at hb
        have HXN := Lib.hid hxn
        clear hxn
        go_wp2_with fail
        go_round
        case rel =>
          refine ⟨k + 1, by omega, by omega, by go_num, fun j h1 h2 => ?_⟩
          by_cases hjk : j = k
          · subst hjk; rw [← HX.out]; exact HXN.out
          · exact HNO.out j h1 (by omega)
        case measure => simp [intOf]; omega
    · obtain rfl : k = 8 := by omega
      go_wp2_with fail
      go_ret2
      exact ⟨⟨0, false, ⟨fun j h1 h2 _ => HNO.out j h1 h2, (fun h => by cases h), fun _ => rfl⟩, rfl⟩, rfl⟩

set_option maxHeartbeats 1000000 in
theorem rtypeOf_any (nm : ByteArray) (w : World) : Calls Tryd.prog 31 #[.string nm] w fun e w' => TypeEnd nm e ∧ Below w.heap.size w w' := by
  go_enter Tryd.func31, Tryd.ntmps31
  go_wp2_with fail
  go_loopw [4] (fun u wr => ∃ k : Nat, 1 ≤ k ∧ k ≤ 8 ∧ u = .int .i64 k ∧ (∀ j, 1 ≤ j → j < k → tyN j ≠ nm) ∧ Below w.heap.size w wr) (fun u _ => 8 - (intOf u).toNat)
  case atStart => exact ⟨1, by omega, by omega, rfl, fun j h h' => absurd h' (by omega), Below.refl _ _⟩
  case round =>
    obtain ⟨k, hk1, hk8, rfl, hno, hbl⟩ := hrel
    have HNO := Lib.hid hno
    have HB := Lib.hid hbl
    clear hno hbl
    by_cases hlt : k < 8
    · have hk7 : (k : Int) ≤ 7 := by omega
      have hC := rtypeName_any (k : Int) wr
      unfold NameEnd at hC
      have e1 : nameM (k : Int) = (tyN k, true) := by unfold nameM; rw [if_pos ⟨by omega, by omega⟩, Int.toNat_natCast]
      rw [e1] at hC
      obtain ⟨x, hx⟩ : ∃ x, x = tyN k := ⟨_, rfl⟩
      rw [← hx] at hC
      have HX := Lib.hid hx
      have HC := Lib.hid hC
      clear hx hC e1
      have hb : (x.toList == nm.toList) = decide (x = nm) := eqC x nm
      by_cases hxn : x = nm
      · rw [decide_eq_true hxn] at hb
        have HXN := Lib.hid hxn
        clear hxn
        go_wp2_with fail
        refine HC.out.mono ?_
        rintro e w1 ⟨rfl, hb1⟩
        go_wp2_with fail
        go_ret2
        exact ⟨⟨k, true, ⟨fun j h1 h2 h3 => by rcases h3 with h3 | h3; cases h3; exact HNO.out j h1 h3, fun _ => ⟨hk1, hlt, by rw [← HX.out]; exact HXN.out⟩, fun h => by cases h⟩, rfl⟩, HB.out.trans (hb1.mono HB.out.size)⟩
      · rw [decide_eq_false hxn] at hb
        have HXN := Lib.hid hxn
        clear hxn
        go_wp2_with fail
        refine HC.out.mono ?_
        rintro e w1 ⟨rfl, hb1⟩
        go_wp2_with fail
        refine ⟨⟨k + 1, by omega, by omega, by go_num, fun j h1 h2 => ?_, HB.out.trans (hb1.mono HB.out.size)⟩, by simp [intOf]; omega⟩
        by_cases hjk : j = k
        · subst hjk; rw [← HX.out]; exact HXN.out
        · exact HNO.out j h1 (by omega)
    · obtain rfl : k = 8 := by omega
      go_wp2_with fail
      go_ret2
      exact ⟨⟨0, false, ⟨fun j h1 h2 _ => HNO.out j h1 h2, (fun h => by cases h), fun _ => rfl⟩, rfl⟩, HB.out⟩
end Go.Proofs.YtgbfkchjcjdnnaaDoor
