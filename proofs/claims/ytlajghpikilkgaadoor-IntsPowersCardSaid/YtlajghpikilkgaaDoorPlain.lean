/-
  PLAIN MATHEMATICS over 64-bit integers: what the functions of package ints answer, as functions on integers. No program in sight.
-/
namespace Go.Proofs.YtlajghpikilkgaaDoor
set_option linter.unusedVariables false
set_option linter.unusedSimpArgs false
namespace In

/-- An integer of the range. -/
def ok (z : Int) : Prop := -9223372036854775808 ≤ z ∧ z ≤ 9223372036854775807
instance (z : Int) : Decidable (ok z) := by unfold ok; exact inferInstance
/-- The value, or ErrOverflow. -/
def fit (z : Int) : Int × Int := if ok z then (z, 0) else (0, 10)
theorem fit_yes {z : Int} (h : ok z) : fit z = (z, 0) := if_pos h
theorem fit_no {z : Int} (h : ¬ ok z) : fit z = (0, 10) := if_neg h
theorem fit_ok (z : Int) : ok (fit z).1 ∧ 0 ≤ (fit z).2 ∧ (fit z).2 ≤ 12 := by
  unfold fit; split
  · exact ⟨‹_›, Int.le_refl 0, (by decide : (0 : Int) ≤ 12)⟩
  · exact ⟨by decide, by decide, by decide⟩
/-- The absolute value. -/
def size (a : Int) : Int := if a < 0 then -a else a
theorem size_nat (a : Int) : size a = (a.natAbs : Int) := by unfold size; split <;> omega
theorem size_lo (a : Int) : 0 ≤ size a := by unfold size; split <;> omega
theorem size_hi {a : Int} (h : ok a) : size a ≤ 9223372036854775808 := by unfold ok at h; unfold size; split <;> omega
/-- A sign and an absolute value. -/
def sgn (n : Bool) (m : Int) : Int := if n then -m else m

/-- A result of a function: a value of the range and an error. -/
def Res (p : Int × Int) : Prop := ok p.1 ∧ 0 ≤ p.2 ∧ p.2 ≤ 12
theorem res_fit (z : Int) : Res (fit z) := fit_ok z

def quo (a b : Int) : Int × Int := if b = 0 then (0, 11) else fit (a.tdiv b)
def rem (a b : Int) : Int × Int := if b = 0 then (0, 11) else (a.tmod b, 0)
def div (a b : Int) : Int × Int := if b = 0 then (0, 11) else fit (a.fdiv b)
def mod (a b : Int) : Int × Int := if b = 0 then (0, 11) else (a.fmod b, 0)
def least (a b : Int) : Int × Int := (min a b, 0)
def most (a b : Int) : Int × Int := (max a b, 0)
def shr (a b : Int) : Int × Int := if b < 0 ∨ 63 < b then (0, 12) else (a / 2 ^ b.toNat, 0)
def shl (a b : Int) : Int × Int := if b < 0 ∨ 63 < b then (0, 12) else fit (a * 2 ^ b.toNat)
/-- 1 to a power below 0 is 1, that of -1 goes by the parity. -/
def inv (a b : Int) : Int × Int := if a = 0 then (0, 11) else if a = 1 then (1, 0) else if a = -1 then (if b % 2 = 0 then (1, 0) else (-1, 0)) else (0, 12)
def pow (a b : Int) : Int × Int := if b < 0 then inv a b else fit (a ^ b.toNat)
def gcd (a b : Int) : Int × Int := fit (Int.gcd a b)
def sign (a : Int) : Int × Int := (if a < 0 then -1 else if a = 0 then 0 else 1, 0)
end In
end Go.Proofs.YtlajghpikilkgaaDoor
