/-
  PLAIN MATHEMATICS: the number that digits of a base are. No program in sight.
-/
import Derived.Test.YtlajghpikilkgaaDoorParse0
namespace Go.Proofs.YtlajghpikilkgaaDoor
set_option linter.unusedVariables false
set_option linter.unusedSimpArgs false
namespace In

/-- The number of digits. -/
def val (b : Int) (l : List UInt8) : Int := l.foldl (fun n c => n * b + dg (c.toNat : Int)) 0
/-- Digits of the base, all of them. -/
def allD (b : Int) (l : List UInt8) : Bool := l.all fun c => decide (dg (c.toNat : Int) < b)
/-- .. and there is one. -/
def areD (b : Int) (l : List UInt8) : Bool := allD b l && !l.isEmpty

theorem val_snoc (b : Int) (l : List UInt8) (c : UInt8) : val b (l ++ [c]) = val b l * b + dg (c.toNat : Int) := by simp [val]
theorem val_nonneg (b : Int) (hb : 0 ≤ b) (l : List UInt8) : 0 ≤ val b l := by
  suffices h : ∀ (l : List UInt8) (n : Int), 0 ≤ n → 0 ≤ l.foldl (fun n c => n * b + dg (c.toNat : Int)) n from h l 0 (Int.le_refl 0)
  intro l
  induction l with
  | nil => intro n hn; exact hn
  | cons c l ih =>
    intro n hn
    refine ih _ ?_
    have := Int.mul_nonneg hn hb
    have := (dg_bd (c.toNat : Int)).1
    simp only
    omega
theorem val_more (b : Int) (hb : 1 ≤ b) (l m : List UInt8) : val b l ≤ val b (l ++ m) := by
  suffices h : ∀ (m : List UInt8) (n : Int), 0 ≤ n → n ≤ m.foldl (fun n c => n * b + dg (c.toNat : Int)) n by
    unfold val
    rw [List.foldl_append]
    exact h m _ (val_nonneg b (by omega) l)
  intro m
  induction m with
  | nil => intro n _; exact Int.le_refl n
  | cons c m ih =>
    intro n hn
    have h1 := (dg_bd (c.toNat : Int)).1
    have h2 : n ≤ n * b := by
      have := Int.mul_le_mul_of_nonneg_left hb hn
      omega
    have h3 := ih (n * b + dg (c.toNat : Int)) (by omega)
    simp only [List.foldl_cons]
    omega
theorem val_take (b : Int) (hb : 1 ≤ b) (l : List UInt8) (k : Nat) : val b (l.take k) ≤ val b l := by
  have := val_more b hb (l.take k) (l.drop k)
  rwa [List.take_append_drop] at this
theorem take_snoc (l : List UInt8) (k : Nat) (h : k < l.length) : l.take (k + 1) = l.take k ++ [l[k]] := List.take_succ_eq_append_getElem h
theorem val_step (b : Int) (l : List UInt8) (k : Nat) (h : k < l.length) : val b (l.take (k + 1)) = val b (l.take k) * b + dg (l[k].toNat : Int) := by
  rw [take_snoc l k h, val_snoc]
theorem areD_iff (b : Int) (l : List UInt8) : areD b l = true ↔ l ≠ [] ∧ ∀ k (h : k < l.length), dg (l[k].toNat : Int) < b := by
  unfold areD allD
  rw [Bool.and_eq_true, List.all_eq_true]
  constructor
  · rintro ⟨h1, h2⟩
    refine ⟨fun e => by simp [e] at h2, fun k hk => ?_⟩
    simpa using h1 l[k] (List.getElem_mem hk)
  · rintro ⟨h1, h2⟩
    refine ⟨fun c hc => ?_, by simpa using h1⟩
    obtain ⟨k, hk, rfl⟩ := List.getElem_of_mem hc
    simpa using h2 k hk
theorem areD_bad {b : Int} {l : List UInt8} {k : Nat} (h : k < l.length) (hd : b ≤ dg (l[k].toNat : Int)) : areD b l = false := by
  cases e : areD b l
  · rfl
  · have := ((areD_iff b l).1 e).2 k h
    omega
theorem areD_all {b : Int} {l : List UInt8} (h : ∀ k (h : k < l.length), dg (l[k].toNat : Int) < b) : areD b l = !l.isEmpty := by
  have : allD b l = true := by
    unfold allD
    rw [List.all_eq_true]
    intro c hc
    obtain ⟨k, hk, rfl⟩ := List.getElem_of_mem hc
    simpa using h k hk
  unfold areD
  rw [this, Bool.true_and]
/-- The number, or whether it has more than 64 bits. -/
def natV (b : Int) (l : List UInt8) : Int := if val b l < 18446744073709551616 then val b l else 0
def natB (b : Int) (l : List UInt8) : Bool := decide (val b l < 18446744073709551616)
end In
end Go.Proofs.YtlajghpikilkgaaDoor
