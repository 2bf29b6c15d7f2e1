/-
  PLAIN MATHEMATICS: and, or, exclusive or and complement of 64-bit integers fit together.
-/
import Derived.Test.YtlajghpikilkgaaDoorSmall
import Derived.Laws.BitsAllLaws
namespace Go.Proofs.YtlajghpikilkgaaDoor
set_option linter.unusedVariables false
set_option linter.unusedSimpArgs false
open Go.RowKit
namespace In

theorem nat_bits : ∀ a b : Nat, (a &&& b) + (a ||| b) = a + b ∧ (a ^^^ b) + (a &&& b) = a ||| b := by
  intro a
  induction a using Nat.strongRecOn with
  | ind a ih =>
    intro b
    by_cases h : a = 0
    · subst h; simp
    · obtain ⟨h1, h2⟩ := ih (a / 2) (by omega) (b / 2)
      have e1 := @Nat.and_div_two a b
      have e2 := @Nat.or_div_two a b
      have e3 := @Nat.xor_div_two a b
      have m1 := @Nat.and_mod_two_eq_one a b
      have m2 := @Nat.or_mod_two_eq_one a b
      have m3 := @Nat.xor_mod_two_eq_one a b
      rw [← e1, ← e2] at h1
      rw [← e1, ← e2, ← e3] at h2
      omega

theorem wrap_toInt (v : BitVec 64) : IntKind.i64.wrap (v.toNat : Int) = v.toInt := by
  rw [IntKind.wrap_i64, BitVec.toInt_eq_toNat_cond]
  have := v.isLt
  split <;> omega
theorem and_toInt (a b : Int) : bits .and .i64 a b = (BitVec.ofInt 64 a &&& BitVec.ofInt 64 b).toInt := wrap_toInt _
theorem or_toInt (a b : Int) : bits .or .i64 a b = (BitVec.ofInt 64 a ||| BitVec.ofInt 64 b).toInt := wrap_toInt _
theorem xor_toInt (a b : Int) : bits .xor .i64 a b = (BitVec.ofInt 64 a ^^^ BitVec.ofInt 64 b).toInt := wrap_toInt _

theorem ok_toInt (v : BitVec 64) : ok v.toInt := by
  rw [BitVec.toInt_eq_toNat_cond]
  have := v.isLt
  unfold ok
  split <;> omega
theorem toInt_of_ok {a : Int} (h : ok a) : (BitVec.ofInt 64 a).toInt = a := by
  rw [BitVec.toInt_ofInt]
  unfold ok at h
  rw [Int.bmod_def]
  omega
theorem not_toInt (v : BitVec 64) : (~~~v).toInt = -1 - v.toInt := by
  rw [BitVec.toInt_eq_toNat_cond, BitVec.toInt_eq_toNat_cond, BitVec.toNat_not]
  have := v.isLt
  split <;> split <;> omega
theorem bits_not {a : Int} (h : ok a) : bits .xor .i64 (-1) a = -1 - a := by
  rw [xor_toInt, show BitVec.ofInt 64 (-1) = BitVec.allOnes 64 from by decide, BitVec.allOnes_xor, not_toInt, toInt_of_ok h]
theorem bits_ok (op : BinOp) (hop : op = .and ∨ op = .or ∨ op = .xor) (a b : Int) : ok (bits op .i64 a b) := by
  rcases hop with rfl | rfl | rfl
  · rw [and_toInt]; exact ok_toInt _
  · rw [or_toInt]; exact ok_toInt _
  · rw [xor_toInt]; exact ok_toInt _

theorem toInt_emod (v : BitVec 64) : v.toInt % 18446744073709551616 = (v.toNat : Int) := by
  rw [BitVec.toInt_eq_toNat_cond]
  have := v.isLt
  split <;> omega
/-- The and and the or have the sum of the two, modulo 2^64. -/
theorem and_or_sum {a b : Int} (ha : ok a) (hb : ok b) : wrap64 (bits .and .i64 a b + bits .or .i64 a b) = wrap64 (a + b) := by
  rw [and_toInt, or_toInt]
  obtain ⟨x, hx⟩ : ∃ x, x = BitVec.ofInt 64 a := ⟨_, rfl⟩
  obtain ⟨y, hy⟩ : ∃ y, y = BitVec.ofInt 64 b := ⟨_, rfl⟩
  have hxa : x.toInt = a := by rw [hx]; exact toInt_of_ok ha
  have hyb : y.toInt = b := by rw [hy]; exact toInt_of_ok hb
  rw [← hx, ← hy, ← hxa, ← hyb]
  have h := (nat_bits x.toNat y.toNat).1
  have e1 := toInt_emod (x &&& y)
  have e2 := toInt_emod (x ||| y)
  have e3 := toInt_emod x
  have e4 := toInt_emod y
  rw [BitVec.toNat_and] at e1
  rw [BitVec.toNat_or] at e2
  unfold wrap64
  omega
/-- Exclusive or is the or without the and. -/
theorem or_sub_and (a b : Int) : wrap64 (bits .or .i64 a b - bits .and .i64 a b) = bits .xor .i64 a b := by
  rw [and_toInt, or_toInt, xor_toInt]
  obtain ⟨x, hx⟩ : ∃ x, x = BitVec.ofInt 64 a := ⟨_, rfl⟩
  obtain ⟨y, hy⟩ : ∃ y, y = BitVec.ofInt 64 b := ⟨_, rfl⟩
  rw [← hx, ← hy]
  have h := (nat_bits x.toNat y.toNat).2
  have e1 := toInt_emod (x &&& y)
  have e2 := toInt_emod (x ||| y)
  have e3 := toInt_emod (x ^^^ y)
  have e4 := ok_toInt (x ^^^ y)
  rw [BitVec.toNat_and] at e1
  rw [BitVec.toNat_or] at e2
  rw [BitVec.toNat_xor] at e3
  unfold ok at e4
  unfold wrap64
  omega
/-- Complement exchanges and and or. -/
theorem nor_bits {a b : Int} (ha : ok a) (hb : ok b) : bits .and .i64 (-1 - a) (-1 - b) = -1 - bits .or .i64 a b := by
  have e : ∀ {z : Int}, ok z → BitVec.ofInt 64 (-1 - z) = ~~~ BitVec.ofInt 64 z := by
    intro z hz
    apply BitVec.eq_of_toInt_eq
    rw [not_toInt, toInt_of_ok hz, toInt_of_ok (by unfold ok at *; omega)]
  rw [and_toInt, or_toInt, e ha, e hb, ← BitVec.not_or, not_toInt]
end In
end Go.Proofs.YtlajghpikilkgaaDoor
