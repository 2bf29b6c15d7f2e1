/-
  Parse and Text of package ints.
-/
import Derived.Test.YtlajghpikilkgaaDoorNatural
import Derived.Test.YtlajghpikilkgaaDoorShelf
import Derived.Lib.AppendIntMem
namespace Go.Proofs.YtlajghpikilkgaaDoor
set_option linter.unusedVariables false
set_option linter.unusedSimpArgs false
open Go.RowKit

namespace In
/-- Whether a text begins with '-', and the text behind it. -/
def minus (l : List UInt8) : Bool := Lib.hasPrefix l [45]
def rest (l : List UInt8) : List UInt8 := Lib.trimPrefix l [45]
def parse (l : List UInt8) (b : Int) : Int × Int :=
  if b < 2 ∨ 36 < b then (0, 1) else if areD b (rest l) then fit (sgn (minus l) (val b (rest l))) else (0, 3)
theorem parse_base {l : List UInt8} {b : Int} (h : b < 2 ∨ 36 < b) : parse l b = (0, 1) := if_pos h
theorem parse_form {l : List UInt8} {b : Int} (h0 : 2 ≤ b) (h1 : b ≤ 36) (h : areD b (rest l) = false) : parse l b = (0, 3) := by
  unfold parse; rw [if_neg (by omega), h]; rfl
theorem parse_num {l : List UInt8} {b : Int} (h0 : 2 ≤ b) (h1 : b ≤ 36) (h : areD b (rest l) = true) : parse l b = fit (sgn (minus l) (val b (rest l))) := by
  unfold parse; rw [if_neg (by omega), h]; rfl
theorem rest_le (l : List UInt8) : (rest l).length ≤ l.length := by
  unfold rest Lib.trimPrefix; split
  · simp
  · exact Nat.le_refl _
theorem parse_big {l : List UInt8} {b : Int} (h : ¬ val b (rest l) < 18446744073709551616) : fit (sgn (minus l) (val b (rest l))) = (0, 10) := by
  refine fit_no ?_
  unfold sgn ok
  split <;> omega
end In

set_option maxHeartbeats 1000000 in
set_option maxRecDepth 100000 in
theorem parse_any (s : ByteArray) (b : Int) (w : World) (hs : s.size ≤ 9223372036854775807) :
    Calls Tryd.prog 20 #[.string s, .int .i64 b] w fun e w' => e = .returned (.tuple #[.int .i64 (In.parse s.data.toList b).1, .int .i64 (In.parse s.data.toList b).2]) ∧ w = w' := by
  by_cases hb : b < 2
  · rw [In.parse_base (.inl hb)]
    go_enter Tryd.func20, Tryd.ntmps20
    go_wp2_with fail
    go_ret2
    exact ⟨rfl, rfl⟩
  by_cases hb' : 36 < b
  · rw [In.parse_base (.inr hb')]
    have hb2 : 2 ≤ b := by omega
    clear hb
    go_enter Tryd.func20, Tryd.ntmps20
    go_wp2_with fail
    go_ret2
    exact ⟨rfl, rfl⟩
  have hb2 : 2 ≤ b := by omega
  have hb36 : b ≤ 36 := by omega
  clear hb hb'
  obtain ⟨u, hu⟩ : ∃ u : ByteArray, u = ⟨(In.rest s.data.toList).toArray⟩ := ⟨_, rfl⟩
  have hul : u.data.toList = In.rest s.data.toList := by rw [hu]
  have hus : u.size ≤ 9223372036854775807 := by
    have h1 : u.size = (In.rest s.data.toList).length := by rw [hu]; rfl
    have h2 := In.rest_le s.data.toList
    have h3 : s.data.toList.length = s.size := by simp
    omega
  have c1 : ∀ w, Calls Tryd.prog 39 #[.string s, .string ⟨#[45]⟩] w fun e w' => e = .returned (.tuple #[.string u, .bool (In.minus s.data.toList)]) ∧ w' = w := fun w => by
    rw [hu]; exact Tryd.strings_CutPrefix s ⟨#[45]⟩ w
  have c2 := fun w => areDigits_any u b w hus
  have c3 := fun w => natural_any u b w hus hb2 hb36
  rw [hul] at c2 c3
  obtain ⟨neg, hneg⟩ : ∃ n, n = In.minus s.data.toList := ⟨_, rfl⟩
  rw [← hneg] at c1
  have C1 := Lib.hid c1
  have HN := Lib.hid hneg
  clear c1 hul hu hneg
  cases ha : In.areD b (In.rest s.data.toList)
  · rw [In.parse_form hb2 hb36 ha]
    rw [ha] at c2
    have C2 := Lib.hid c2
    clear c2 c3 ha hus
    go_enter Tryd.func20, Tryd.ntmps20
    go_wp2_with fail
    refine (C1.out _).mono ?_
    rintro e w1 ⟨rfl, rfl⟩
    go_wp2_with fail
    refine (C2.out _).mono ?_
    rintro e w1 ⟨rfl, rfl⟩
    go_wp2_with fail
    go_ret2
    exact ⟨rfl, rfl⟩
  · rw [In.parse_num hb2 hb36 ha]
    rw [ha] at c2
    have C2 := Lib.hid c2
    clear c2 ha hus
    by_cases hv : In.val b (In.rest s.data.toList) < 18446744073709551616
    · obtain ⟨e1, e2⟩ := In.natV_yes hv
      rw [e1, e2] at c3
      have g1 := fun w => signed_any neg (In.val b (In.rest s.data.toList)) w (In.val_nonneg b (by omega) _) hv
      rw [HN.out] at g1
      rw [← HN.out] at g1
      obtain ⟨v, hvv⟩ : ∃ v, v = In.val b (In.rest s.data.toList) := ⟨_, rfl⟩
      rw [← hvv] at c3 g1
      have C3 := Lib.hid c3
      have G1 := Lib.hid g1
      have HV := Lib.hid hvv
      clear c3 g1 e1 e2 hv hvv
      go_enter Tryd.func20, Tryd.ntmps20
      go_wp2_with fail
      refine (C1.out _).mono ?_
      rintro e w1 ⟨rfl, rfl⟩
      go_wp2_with fail
      refine (C2.out _).mono ?_
      rintro e w1 ⟨rfl, rfl⟩
      go_wp2_with fail
      refine (C3.out _).mono ?_
      rintro e w1 ⟨rfl, rfl⟩
      go_wp2_with fail
      refine (G1.out _).mono ?_
      rintro e w1 ⟨rfl, rfl⟩
      go_wp2_with fail
      go_ret2
      exact ⟨ret_two (by rw [HV.out, HN.out]) (by rw [HV.out, HN.out]), rfl⟩
    · rw [In.parse_big hv]
      obtain ⟨e1, e2⟩ := In.natV_no hv
      rw [e1, e2] at c3
      have C3 := Lib.hid c3
      clear c3 e1 e2 hv
      go_enter Tryd.func20, Tryd.ntmps20
      go_wp2_with fail
      refine (C1.out _).mono ?_
      rintro e w1 ⟨rfl, rfl⟩
      go_wp2_with fail
      refine (C2.out _).mono ?_
      rintro e w1 ⟨rfl, rfl⟩
      go_wp2_with fail
      refine (C3.out _).mono ?_
      rintro e w1 ⟨rfl, rfl⟩
      go_wp2_with fail
      go_ret2
      exact ⟨rfl, rfl⟩

/-- The table of powers of ten that the library's numerals read. -/
def Tabs (w : World) : Prop := Lib.TabIs Tryd.prog w "internal/strconv.uint64pow10" .u64 Lib.pow10Tab
theorem Tabs.below {w w' : World} (h : Tabs w) (hb : Below w.heap.size w w') : Tabs w' := (Lib.tabBelow_of_tabIs h) w' hb

set_option maxHeartbeats 400000 in
theorem text_any (n : Int) (w : World) (hn : In.ok n) (hT : Tabs w) :
    Calls Tryd.prog 22 #[.int .i64 n] w fun e w' => e = .returned (.string ⟨(Lib.itoa n).toArray⟩) ∧ Below w.heap.size w w' := by
  have c1 := Tryd.strconv_FormatInt_10 n hn.1 hn.2 w hT
  have C1 := Lib.hid c1
  clear c1 hn hT
  go_enter Tryd.func22, Tryd.ntmps22
  go_wp2_with fail
  refine (C1.out).mono ?_
  rintro e w1 ⟨rfl, k, os, rfl⟩
  go_wp2_with fail
  go_ret
  exact ⟨rfl, Lib.below_grow _ _ (Nat.le_refl _) _ _⟩
end Go.Proofs.YtlajghpikilkgaaDoor
