/-
  The table of the functions of one integer; Unary, Binary and Known of package ints.
-/
import Derived.Test.YtlajghpikilkgaaDoorBinaries
import Derived.Test.YtlajghpikilkgaaDoorBitMath
namespace Go.Proofs.YtlajghpikilkgaaDoor
set_option linter.unusedVariables false
set_option linter.unusedSimpArgs false
open Go.RowKit

/-- A function value of one number. -/
def G1 (w : World) (v : Value) (F : Int → Int × Int) : Prop := ∃ g, v = .func (.func g) #[] #[] ∧ Enters g ∧ ∀ (a : Int) (w' : World), In.ok a → Calls Tryd.prog g #[.int .i64 a] w' (Ret2 (F a) w')
theorem stable1 (B : Nat) : Stable B G1 := fun _ _ _ _ _ h => h

namespace In
def abs (a : Int) : Int × Int := fit (size a)
def neg (a : Int) : Int × Int := fit (-a)
def same (a : Int) : Int × Int := (a, 0)
def comp (a : Int) : Int × Int := (-1 - a, 0)
theorem sgn_neg (a : Int) : sgn (decide (0 < a)) (size a) = -a := by
  unfold sgn size
  by_cases h : 0 < a
  · simp [h]; omega
  · simp only [h, decide_false, Bool.false_eq_true, if_false]
    split <;> omega
end In

def specU : Spec (Int → Int × Int) := [([92], In.comp), ([115, 105, 103, 110], In.sign), ([97, 98, 115], In.abs), ([43], In.same), ([45], In.neg)]

theorem uNeg (w : World) : G1 w (.func (.func 45) #[] #[]) In.neg := by
  refine ⟨_, rfl, enters_of Tryd.func45 (by kernel_rfl) rfl, fun a w' ha => ?_⟩
  have s1 := fun w => size_any a w ha
  have g1 := fun w => signed_any (decide (0 < a)) (In.size a) w (In.size_lo a) (by have := In.size_hi ha; omega)
  rw [In.sgn_neg] at g1
  obtain ⟨x, hx⟩ : ∃ x, x = In.size a := ⟨_, rfl⟩
  rw [← hx] at s1 g1
  have S1 := Lib.hid s1
  have K1 := Lib.hid g1
  unfold Ret2 In.neg
  clear s1 g1 hx ha
  go_enter Tryd.func45, Tryd.ntmps45
  go_wp2_with fail
  refine (S1.out _).mono ?_
  rintro e w1 ⟨rfl, rfl⟩
  go_wp2_with fail
  refine (K1.out _).mono ?_
  rintro e w1 ⟨rfl, rfl⟩
  go_wp2_with fail
  go_ret2
  exact ⟨rfl, Below.refl _ _⟩
theorem uSame (w : World) : G1 w (.func (.func 47) #[] #[]) In.same := by
  refine ⟨_, rfl, enters_of Tryd.func47 (by kernel_rfl) rfl, fun a w' ha => ?_⟩
  clear ha
  go_enter Tryd.func47, Tryd.ntmps47
  go_wp2_with fail
  go_ret2
  exact ⟨rfl, Below.refl _ _⟩
theorem uAbs (w : World) : G1 w (.func (.func 48) #[] #[]) In.abs := by
  refine ⟨_, rfl, enters_of Tryd.func48 (by kernel_rfl) rfl, fun a w' ha => ?_⟩
  have s1 := fun w => size_any a w ha
  have g1 := fun w => signed_any false (In.size a) w (In.size_lo a) (by have := In.size_hi ha; omega)
  rw [show In.sgn false (In.size a) = In.size a from rfl] at g1
  unfold Ret2 In.abs
  obtain ⟨x, hx⟩ : ∃ x, x = In.size a := ⟨_, rfl⟩
  rw [← hx] at s1 g1 ⊢
  have S1 := Lib.hid s1
  have K1 := Lib.hid g1
  clear s1 g1 hx ha
  go_enter Tryd.func48, Tryd.ntmps48
  go_wp2_with fail
  refine (S1.out _).mono ?_
  rintro e w1 ⟨rfl, rfl⟩
  go_wp2_with fail
  refine (K1.out _).mono ?_
  rintro e w1 ⟨rfl, rfl⟩
  go_wp2_with fail
  go_ret2
  exact ⟨rfl, Below.refl _ _⟩
theorem compare_any (a : Int) (w : World) : Calls Tryd.prog 50 #[.int .i64 a, .int .i64 0] w fun e w' => e = .returned (.int .i64 (In.sign a).1) ∧ w = w' := by
  unfold In.sign
  rcases Int.lt_trichotomy a 0 with h | h | h
  · rw [if_pos h]
    go_enter Tryd.func50, Tryd.ntmps50
    go_wp2
    go_ret
    exact ⟨rfl, rfl⟩
  · subst h
    go_enter Tryd.func50, Tryd.ntmps50
    go_wp2
    go_ret
    exact ⟨rfl, rfl⟩
  · have h' : ¬ a < 0 := by omega
    rw [if_neg h', if_neg (by omega)]
    go_enter Tryd.func50, Tryd.ntmps50
    go_wp2
    go_ret
    exact ⟨rfl, rfl⟩
theorem uSign (w : World) : G1 w (.func (.func 49) #[] #[]) In.sign := by
  refine ⟨_, rfl, enters_of Tryd.func49 (by kernel_rfl) rfl, fun a w' ha => ?_⟩
  have c1 := fun w => compare_any a w
  have h0 : -1 ≤ (In.sign a).1 ∧ (In.sign a).1 ≤ 1 := by unfold In.sign; simp only; split <;> (try split) <;> omega
  have e2 : (In.sign a).2 = 0 := rfl
  unfold Ret2
  rw [e2]
  obtain ⟨x, hx⟩ : ∃ x, x = (In.sign a).1 := ⟨_, rfl⟩
  rw [← hx] at c1 h0 ⊢
  obtain ⟨h1, h2⟩ := h0
  have C1 := Lib.hid c1
  clear c1 hx ha e2
  go_enter Tryd.func49, Tryd.ntmps49
  go_wp2_with fail
  refine (C1.out _).mono ?_
  rintro e w1 ⟨rfl, rfl⟩
  go_wp2_with fail
  go_ret2
  exact ⟨rfl, Below.refl _ _⟩
theorem uComp (w : World) : G1 w (.func (.func 51) #[] #[]) In.comp := by
  refine ⟨_, rfl, enters_of Tryd.func51 (by kernel_rfl) rfl, fun a w' ha => ?_⟩
  have hb := In.bits_not ha
  have HB := Lib.hid hb
  clear hb ha
  go_enter Tryd.func51, Tryd.ntmps51
  go_wp2_with fail
  go_ret2
  exact ⟨ret_two HB.out rfl, Below.refl _ _⟩

def Made1 (w : World) (e : Ending) (w' : World) : Prop := e = .returned (.map (some w.heap.size)) ∧ St G1 w 5 specU w'

set_option maxHeartbeats 4000000 in
set_option maxRecDepth 100000 in
theorem unaries_any (w : World) : Calls Tryd.prog 26 #[] w (Made1 w) := by
  have hmm := @run_makeMap Tryd.prog
  have sG := stable1 w.heap.size
  have SG := Lib.hid sG
  clear sG
  go_enter Tryd.func26, Tryd.ntmps26
  go_wp2_with fail
  have st := St.start (G := G1) w
  have S0 := Lib.hid st
  clear st
  obtain ⟨w1, hr, st⟩ := S0.out.insert SG.out Tryd.underlying45 (by decide) ⟨#[45]⟩ (by decide) (.func (.func 45) #[] #[]) In.neg (uNeg _)
  rw [hr]
  have S1 := Lib.hid st
  clear st hr
  go_wp2_with fail
  obtain ⟨w2, hr, st⟩ := S1.out.insert SG.out Tryd.underlying45 (by decide) ⟨#[43]⟩ (by decide) (.func (.func 47) #[] #[]) In.same (uSame _)
  rw [hr]
  have S2 := Lib.hid st
  clear st hr
  go_wp2_with fail
  obtain ⟨w3, hr, st⟩ := S2.out.insert SG.out Tryd.underlying45 (by decide) ⟨#[97, 98, 115]⟩ (by decide) (.func (.func 48) #[] #[]) In.abs (uAbs _)
  rw [hr]
  have S3 := Lib.hid st
  clear st hr
  go_wp2_with fail
  obtain ⟨w4, hr, st⟩ := S3.out.insert SG.out Tryd.underlying45 (by decide) ⟨#[115, 105, 103, 110]⟩ (by decide) (.func (.func 49) #[] #[]) In.sign (uSign _)
  rw [hr]
  have S4 := Lib.hid st
  clear st hr
  go_wp2_with fail
  obtain ⟨w5, hr, st⟩ := S4.out.insert SG.out Tryd.underlying45 (by decide) ⟨#[92]⟩ (by decide) (.func (.func 51) #[] #[]) In.comp (uComp _)
  rw [hr]
  have S5 := Lib.hid st
  clear st hr
  go_wp2_with fail
  go_ret
  exact ⟨rfl, S5.out⟩

/-- What Unary and Binary return. -/
def un (s : List UInt8) (a : Int) : Int × Int := match specU.lookup s with | some F => F a | none => (0, 4)
def bin (s : List UInt8) (a b : Int) : Int × Int := match specB.lookup s with | some F => F a b | none => (0, 4)
theorem zero1 (w : World) : (zeroValue 43).run Tryd.prog w = .ok .nilFunc w := by kernel_rfl
theorem zero2 (w : World) : (zeroValue 49).run Tryd.prog w = .ok .nilFunc w := by kernel_rfl

set_option maxHeartbeats 1000000 in
theorem unary_any (s : ByteArray) (a : Int) (w : World) (hs : s.size ≤ 9223372036854775807) (ha : In.ok a) :
    Calls Tryd.prog 13 #[.string s, .int .i64 a] w (Ret2 (un s.data.toList a) w) := by
  have u := fun w => unaries_any w
  have U := Lib.hid u
  have HS := Lib.hid hs
  have HA := Lib.hid ha
  clear u hs ha
  go_enter Tryd.func13, Tryd.ntmps13
  go_wp2_with fail
  refine (U.out _).mono ?_
  rintro e w1 ⟨rfl, st⟩
  have S1 := Lib.hid st
  clear st
  go_wp2_with fail
  rcases S1.out.look Tryd.underlying45 (zero1 _) s HS.out with ⟨F, v, hl, ⟨g, rfl, en, gives⟩, hr⟩ | ⟨v, hl, hr⟩
  · rw [hr]
    have hu : un s.data.toList a = F a := by unfold un; rw [hl]
    have HU := Lib.hid hu
    have c1 := fun w => gives a w HA.out
    unfold Ret2 at c1
    have C1 := Lib.hid c1
    have eg := en
    unfold Enters at eg
    clear hr hl hu c1 en gives
    go_wp2_with fail
    refine (C1.out _).mono ?_
    rintro e w2 ⟨rfl, hb⟩
    have HB := Lib.hid hb
    clear hb
    go_wp2_with fail
    go_ret2
    refine ⟨?_, S1.out.2.1.trans (HB.out.mono S1.out.2.1.size)⟩
    rw [HU.out]; rfl
  · rw [hr]
    have hu : un s.data.toList a = (0, 4) := by unfold un; rw [hl]
    have HU := Lib.hid hu
    clear hr hl hu
    go_wp2_with fail
    go_ret2
    refine ⟨?_, S1.out.2.1⟩
    rw [HU.out]; rfl

set_option maxHeartbeats 1000000 in
theorem binary_any (s : ByteArray) (a b : Int) (w : World) (hs : s.size ≤ 9223372036854775807) (ha : In.ok a) (hb : In.ok b) :
    Calls Tryd.prog 18 #[.string s, .int .i64 a, .int .i64 b] w (Ret2 (bin s.data.toList a b) w) := by
  have u := fun w => binaries_any w
  have U := Lib.hid u
  have HS := Lib.hid hs
  have HA := Lib.hid ha
  have HB := Lib.hid hb
  clear u hs ha hb
  go_enter Tryd.func18, Tryd.ntmps18
  go_wp2_with fail
  refine (U.out _).mono ?_
  rintro e w1 ⟨rfl, st⟩
  have S1 := Lib.hid st
  clear st
  go_wp2_with fail
  rcases S1.out.look Tryd.underlying51 (zero2 _) s HS.out with ⟨F, v, hl, ⟨g, cap, rfl, sem⟩, hr⟩ | ⟨v, hl, hr⟩
  · rw [hr]
    have hu : bin s.data.toList a b = F a b := by unfold bin; rw [hl]
    have HU := Lib.hid hu
    have c1 := sem.gives w1 (Kept.refl _ _) a b HA.out HB.out trivial
    unfold Ret2 at c1
    have C1 := Lib.hid c1
    have eg := sem.enters
    unfold Enters at eg
    clear hr hl hu c1 sem
    go_wp2_with fail
    refine (C1.out).mono ?_
    rintro e w2 ⟨rfl, hb⟩
    have HB2 := Lib.hid hb
    clear hb
    go_wp2_with fail
    go_ret2
    refine ⟨?_, S1.out.2.1.trans (HB2.out.mono S1.out.2.1.size)⟩
    rw [HU.out]; rfl
  · rw [hr]
    have hu : bin s.data.toList a b = (0, 4) := by unfold bin; rw [hl]
    have HU := Lib.hid hu
    clear hr hl hu
    go_wp2_with fail
    go_ret2
    refine ⟨?_, S1.out.2.1⟩
    rw [HU.out]; rfl

/-- What Known returns. -/
def known (s : List UInt8) (n : Int) : Bool := if n = 1 then (specU.lookup s).isSome else if n = 2 then (specB.lookup s).isSome else false

set_option maxHeartbeats 1000000 in
theorem known_any (s : ByteArray) (n : Int) (w : World) (hs : s.size ≤ 9223372036854775807) :
    Calls Tryd.prog 15 #[.string s, .int .i64 n] w fun e w' => e = .returned (.bool (known s.data.toList n)) ∧ Below w.heap.size w w' := by
  have u1 := fun w => unaries_any w
  have U1 := Lib.hid u1
  have u2 := fun w => binaries_any w
  have U2 := Lib.hid u2
  have HS := Lib.hid hs
  clear u1 u2 hs
  by_cases h1 : n = 1
  · have hk : known s.data.toList n = (specU.lookup s.data.toList).isSome := if_pos h1
    rw [hk]
    subst h1
    clear hk
    go_enter Tryd.func15, Tryd.ntmps15
    go_wp2_with fail
    refine (U1.out _).mono ?_
    rintro e w1 ⟨rfl, st⟩
    have S1 := Lib.hid st
    clear st
    go_wp2_with fail
    rcases S1.out.look Tryd.underlying45 (zero1 _) s HS.out with ⟨F, v, hl, _, hr⟩ | ⟨v, hl, hr⟩
    · rw [hr]
      have HL := Lib.hid hl
      clear hr hl
      go_wp2_with fail
      go_ret
      exact ⟨by rw [HL.out]; rfl, S1.out.2.1⟩
    · rw [hr]
      have HL := Lib.hid hl
      clear hr hl
      go_wp2_with fail
      go_ret
      exact ⟨by rw [HL.out]; rfl, S1.out.2.1⟩
  · by_cases h2 : n = 2
    · have hk : known s.data.toList n = (specB.lookup s.data.toList).isSome := by unfold known; rw [if_neg h1, if_pos h2]
      rw [hk]
      subst h2
      clear hk h1
      go_enter Tryd.func15, Tryd.ntmps15
      go_wp2_with fail
      refine (U2.out _).mono ?_
      rintro e w1 ⟨rfl, st⟩
      have S1 := Lib.hid st
      clear st
      go_wp2_with fail
      rcases S1.out.look Tryd.underlying51 (zero2 _) s HS.out with ⟨F, v, hl, _, hr⟩ | ⟨v, hl, hr⟩
      · rw [hr]
        have HL := Lib.hid hl
        clear hr hl
        go_wp2_with fail
        go_ret
        exact ⟨by rw [HL.out]; rfl, S1.out.2.1⟩
      · rw [hr]
        have HL := Lib.hid hl
        clear hr hl
        go_wp2_with fail
        go_ret
        exact ⟨by rw [HL.out]; rfl, S1.out.2.1⟩
    · have hk : known s.data.toList n = false := by unfold known; rw [if_neg h1, if_neg h2]
      rw [hk]
      have g1 : (n == 1) = false := by simpa using h1
      have g2 : (n == 2) = false := by simpa using h2
      clear hk h1 h2
      go_enter Tryd.func15, Tryd.ntmps15
      go_wp2_with fail
      go_ret
      exact ⟨rfl, Below.refl _ _⟩
end Go.Proofs.YtlajghpikilkgaaDoor
