/-
  Class of package chars returns the class that the table of groups gives, for any integer.
-/
import Derived.Test.YtdlobgnhoiednaaDoorShelf
import Derived.Test.YtdlobgnhoiednaaDoorRefDigit
import Derived.Deep.DeepMust
import Derived.Deep.DeepFit
namespace Go.Proofs.YtdlobgnhoiednaaDoor
set_option linter.unusedVariables false
set_option linter.unusedSimpArgs false
open Go.RowKit

def s1 : ByteArray := ⟨#[9, 10, 11, 12, 13, 32]⟩
def s2 : ByteArray := ⟨#[97, 98, 99, 100, 101, 102, 103, 104, 105, 106, 107, 108, 109, 110, 111, 112, 113, 114, 115, 116, 117, 118, 119, 120, 121, 122]⟩
def s3 : ByteArray := ⟨#[65, 66, 67, 68, 69, 70, 71, 72, 73, 74, 75, 76, 77, 78, 79, 80, 81, 82, 83, 84, 85, 86, 87, 88, 89, 90, 95]⟩
def s4 : ByteArray := ⟨#[48, 49, 50, 51, 52, 53, 54, 55, 56, 57]⟩
def s5 : ByteArray := ⟨#[35, 36, 38, 42, 43, 45, 46, 47, 58, 60, 61, 62, 63, 64, 94, 126, 92]⟩
def s6 : ByteArray := ⟨#[33, 40, 41, 44, 59, 91, 93, 123, 125, 37, 124]⟩
def s7 : ByteArray := ⟨#[39, 34, 96]⟩

/-- What the listed package-level variables hold, as far as the program reads them. -/
structure Tabs (w : World) : Prop where
  size : 5 ≤ w.heap.size
  g1 : w.cell? ⟨0, 0, none⟩ = some (.int .i64 1) ∧ w.cell? ⟨0, 1, none⟩ = some (.string s1)
  g2 : w.cell? ⟨0, 2, none⟩ = some (.int .i64 2) ∧ w.cell? ⟨0, 3, none⟩ = some (.string s2)
  g3 : w.cell? ⟨0, 4, none⟩ = some (.int .i64 3) ∧ w.cell? ⟨0, 5, none⟩ = some (.string s3)
  g4 : w.cell? ⟨0, 6, none⟩ = some (.int .i64 4) ∧ w.cell? ⟨0, 7, none⟩ = some (.string s4)
  g5 : w.cell? ⟨0, 8, none⟩ = some (.int .i64 5) ∧ w.cell? ⟨0, 9, none⟩ = some (.string s5)
  g6 : w.cell? ⟨0, 10, none⟩ = some (.int .i64 6) ∧ w.cell? ⟨0, 11, none⟩ = some (.string s6)
  g7 : w.cell? ⟨0, 12, none⟩ = some (.int .i64 7) ∧ w.cell? ⟨0, 13, none⟩ = some (.string s7)
  z16 : w.cell? ⟨4, 15, none⟩ = some (.int .u8 4)

theorem Tabs.keep {w w' : World} (h : Tabs w) (hs : 5 ≤ w'.heap.size) (hk : ∀ p : Addr, p.block < 5 → w'.cell? p = w.cell? p) : Tabs w' := by
  obtain ⟨_, a, b, c, d, e, f, g, i⟩ := h
  refine ⟨hs, ?_, ?_, ?_, ?_, ?_, ?_, ?_, ?_⟩
  all_goals (try rw [hk _ (show (0 : Nat) < 5 by omega), hk _ (show (0 : Nat) < 5 by omega)])
  all_goals (first | assumption | (rw [hk _ (show (4 : Nat) < 5 by omega)]; assumption))
theorem Tabs.below {w w' : World} (h : Tabs w) (hb : Below w.heap.size w w') : Tabs w' :=
  h.keep (Nat.le_trans h.size hb.size) fun _ hp => hb.cell (Nat.lt_of_lt_of_le hp h.size)
theorem Tabs.below' {w w' : World} {B : Nat} (h : Tabs w) (hB : 5 ≤ B) (hb : Below B w w') : Tabs w' :=
  h.keep (Nat.le_trans h.size hb.size) fun _ hp => hb.cell (Nat.lt_of_lt_of_le hp hB)

/-- Whether a character is one of some. -/
def memB (s : ByteArray) (c : Int) : Bool := decide (0 ≤ Lib.indexByte s.data.toList c.toNat.toUInt8)

/-- The closure of Class. -/
theorem contains_any (k c : Int) (s : ByteArray) (a : Addr) (w : World) (h0 : 0 ≤ c) (h1 : c ≤ 255) (ha : a.block < w.heap.size) (hc : w.cell? a = some (.int .i64 c)) :
    Calls Tryd.prog 28 #[.agg #[.int .i64 k, .string s], .pointer (some a)] w fun e w' => e = .returned (.bool (memB s c)) ∧ Below w.heap.size w w' := by
  have hx : (w.alloc (.cells #[.int .i64 k, .string s] 44)).cell? a = some (.int .i64 c) := by
    rw [World.cell?_alloc_lt _ _ _ ha]; exact hc
  clear hc
  go_enter Tryd.func28, Tryd.ntmps28
  go_wp2_with fail
  refine (Tryd.strings_IndexByte _ _ _).mono ?_
  rintro e w' ⟨rfl, rfl⟩
  go_wp2
  go_ret
  exact ⟨rfl, (Below.refl _ _).alloc (Nat.le_refl _) _⟩

/-- The string of a group's characters, and the class that Class returns. -/
def sOf : Nat → ByteArray
  | 0 => s1 | 1 => s2 | 2 => s3 | 3 => s4 | 4 => s5 | 5 => s6 | _ => s7
def clsFrom (c : Int) : Nat → Nat → Int
  | 0, _ => 8
  | n + 1, k => if memB (sOf k) c then (k : Int) + 1 else clsFrom c n (k + 1)
def cls (c : Int) : Int := if Ch.isCh c then clsFrom c 7 0 else 0

theorem class_no (c : Int) (w : World) (h : ¬ (0 ≤ c ∧ c ≤ 255)) :
    Calls Tryd.prog 11 #[.int .i64 c] w fun e w' => e = .returned (.int .i64 0) ∧ Below w.heap.size w w' := by
  have hi := Ch.isCh_no h
  clear h
  go_enter Tryd.func11, Tryd.ntmps11
  go_wp2_with fail
  refine (isChar_any _ _).mono ?_
  rintro e w' ⟨rfl, rfl⟩
  go_wp2_with fail
  go_ret
  exact ⟨rfl, (Below.refl _ _).alloc (Nat.le_refl _) _⟩

theorem Tabs.alloc {w : World} (h : Tabs w) (o : Obj) : Tabs (w.alloc o) := h.below ((Below.refl _ _).alloc (Nat.le_refl _) o)

theorem cls_at (c : Int) (n k : Nat) : (memB (sOf k) c = true → clsFrom c (n + 1) k = (k : Int) + 1) ∧ (memB (sOf k) c = false → clsFrom c (n + 1) k = clsFrom c n (k + 1)) := by
  constructor <;> intro h <;> simp [clsFrom, h]

set_option maxHeartbeats 1000000 in
theorem class_yes (c : Int) (w : World) (h0 : 0 ≤ c) (h1 : c ≤ 255) (hT : Tabs w) :
    Calls Tryd.prog 11 #[.int .i64 c] w fun e w' => e = .returned (.int .i64 (clsFrom c 7 0)) ∧ Below w.heap.size w w' := by
  have hi := Ch.isCh_yes h0 h1
  have hmf : ∀ (fn : Fn) (first cap : Array Value) (w : World), (Instr.makeFunc fn first cap).run Tryd.prog w = .ok (.func fn first cap) w := fun _ _ _ _ => rfl
  obtain ⟨hs, ⟨a1, b1⟩, ⟨a2, b2⟩, ⟨a3, b3⟩, ⟨a4, b4⟩, ⟨a5, b5⟩, ⟨a6, b6⟩, ⟨a7, b7⟩, _⟩ := hT.alloc (.cells #[.int .i64 c] 3)
  clear hT
  have i0 : ∀ w : World, (Instr.index 47 (.agg #[.int .i64 1, .string s1, .int .i64 2, .string s2, .int .i64 3, .string s3, .int .i64 4, .string s4, .int .i64 5, .string s5, .int .i64 6, .string s6, .int .i64 7, .string s7]) (.int .i64 0)).run Tryd.prog w = .ok (.agg #[.int .i64 1, .string s1]) w := fun _ => by kernel_rfl
  have i1 : ∀ w : World, (Instr.index 47 (.agg #[.int .i64 1, .string s1, .int .i64 2, .string s2, .int .i64 3, .string s3, .int .i64 4, .string s4, .int .i64 5, .string s5, .int .i64 6, .string s6, .int .i64 7, .string s7]) (.int .i64 1)).run Tryd.prog w = .ok (.agg #[.int .i64 2, .string s2]) w := fun _ => by kernel_rfl
  have i2 : ∀ w : World, (Instr.index 47 (.agg #[.int .i64 1, .string s1, .int .i64 2, .string s2, .int .i64 3, .string s3, .int .i64 4, .string s4, .int .i64 5, .string s5, .int .i64 6, .string s6, .int .i64 7, .string s7]) (.int .i64 2)).run Tryd.prog w = .ok (.agg #[.int .i64 3, .string s3]) w := fun _ => by kernel_rfl
  have i3 : ∀ w : World, (Instr.index 47 (.agg #[.int .i64 1, .string s1, .int .i64 2, .string s2, .int .i64 3, .string s3, .int .i64 4, .string s4, .int .i64 5, .string s5, .int .i64 6, .string s6, .int .i64 7, .string s7]) (.int .i64 3)).run Tryd.prog w = .ok (.agg #[.int .i64 4, .string s4]) w := fun _ => by kernel_rfl
  have i4 : ∀ w : World, (Instr.index 47 (.agg #[.int .i64 1, .string s1, .int .i64 2, .string s2, .int .i64 3, .string s3, .int .i64 4, .string s4, .int .i64 5, .string s5, .int .i64 6, .string s6, .int .i64 7, .string s7]) (.int .i64 4)).run Tryd.prog w = .ok (.agg #[.int .i64 5, .string s5]) w := fun _ => by kernel_rfl
  have i5 : ∀ w : World, (Instr.index 47 (.agg #[.int .i64 1, .string s1, .int .i64 2, .string s2, .int .i64 3, .string s3, .int .i64 4, .string s4, .int .i64 5, .string s5, .int .i64 6, .string s6, .int .i64 7, .string s7]) (.int .i64 5)).run Tryd.prog w = .ok (.agg #[.int .i64 6, .string s6]) w := fun _ => by kernel_rfl
  have i6 : ∀ w : World, (Instr.index 47 (.agg #[.int .i64 1, .string s1, .int .i64 2, .string s2, .int .i64 3, .string s3, .int .i64 4, .string s4, .int .i64 5, .string s5, .int .i64 6, .string s6, .int .i64 7, .string s7]) (.int .i64 6)).run Tryd.prog w = .ok (.agg #[.int .i64 7, .string s7]) w := fun _ => by kernel_rfl
  go_enter Tryd.func11, Tryd.ntmps11
  go_wp2_with fail
  refine (isChar_any _ _).mono ?_
  rintro e w' ⟨rfl, rfl⟩
  go_wp2_with fail
  clear a1 b1 a2 b2 a3 b3 a4 b4 a5 b5 a6 b6 a7 b7
  go_loopw [11] (fun i wr => ∃ k : Nat, k ≤ 7 ∧ i = .int .i64 k ∧ clsFrom c (7 - k) k = clsFrom c 7 0 ∧ wr.cell? ⟨w.heap.size, 0, none⟩ = some (.int .i64 c) ∧ w.heap.size < wr.heap.size ∧ Below w.heap.size w wr)
    (fun i _ => 7 - (intOf i).toNat)
  case atStart =>
    exact ⟨0, by omega, rfl, rfl, by rw [World.cell?_alloc_at _ _ _ _ rfl]; rfl, by simp, (Below.refl _ _).alloc (Nat.le_refl _) _⟩
  case round =>
    obtain ⟨k, hk, rfl, hcl, hc, hz, hb⟩ := hrel
    have hk8 : k = 0 ∨ k = 1 ∨ k = 2 ∨ k = 3 ∨ k = 4 ∨ k = 5 ∨ k = 6 ∨ k = 7 := by omega
    rcases hk8 with rfl | rfl | rfl | rfl | rfl | rfl | rfl | rfl
    · have hst := cls_at c 6 0
      clear hcl
      have hc' : (wr.alloc (.cells #[.int .i64 1, .string s1] 44)).cell? ⟨w.heap.size, 0, none⟩ = some (.int .i64 c) := by
        rw [World.cell?_alloc_lt _ _ _ hz]; exact hc
      cases hm : memB (sOf 0) c
      · have h2 := Lib.hid (hst.2 hm)
        have hm' : memB s1 c = false := hm
        clear hst hm
        go_wp2_with fail
        refine (contains_any _ c _ _ _ h0 h1 ?_ hc').mono ?_
        · simp; omega
        rintro e w1 ⟨rfl, hb1⟩
        go_wp2_with fail
        exact ⟨⟨1, by omega, rfl, h2.out.symm, (hb1.cell (by simp; omega)).trans hc', by have := hb1.size; simp at this; omega, (hb.alloc (by omega) _).trans (hb1.mono (by simp; omega))⟩, by simp [intOf]⟩
      · have h2 := Lib.hid (hst.1 hm)
        have hm' : memB s1 c = true := hm
        clear hst hm
        go_wp2_with fail
        refine (contains_any _ c _ _ _ h0 h1 ?_ hc').mono ?_
        · simp; omega
        rintro e w1 ⟨rfl, hb1⟩
        have hp : w1.cell? ⟨wr.heap.size, 0, none⟩ = some (.int .i64 1) := (hb1.cell (by simp)).trans (by rw [World.cell?_alloc_at _ _ _ _ rfl]; rfl)
        go_wp2_with fail
        go_ret
        exact ⟨by rw [show clsFrom c 7 0 = _ from h2.out]; rfl, (hb.alloc (by omega) _).trans (hb1.mono (by simp; omega))⟩
    · have hst := cls_at c 5 1
      have HC := Lib.hid hcl
      clear hcl
      have hc' : (wr.alloc (.cells #[.int .i64 2, .string s2] 44)).cell? ⟨w.heap.size, 0, none⟩ = some (.int .i64 c) := by
        rw [World.cell?_alloc_lt _ _ _ hz]; exact hc
      cases hm : memB (sOf 1) c
      · have h2 := Lib.hid (hst.2 hm)
        have hm' : memB s2 c = false := hm
        clear hst hm
        go_wp2_with fail
        refine (contains_any _ c _ _ _ h0 h1 ?_ hc').mono ?_
        · simp; omega
        rintro e w1 ⟨rfl, hb1⟩
        go_wp2_with fail
        exact ⟨⟨2, by omega, rfl, h2.out.symm.trans HC.out, (hb1.cell (by simp; omega)).trans hc', by have := hb1.size; simp at this; omega, (hb.alloc (by omega) _).trans (hb1.mono (by simp; omega))⟩, by simp [intOf]⟩
      · have h2 := Lib.hid (hst.1 hm)
        have hm' : memB s2 c = true := hm
        clear hst hm
        go_wp2_with fail
        refine (contains_any _ c _ _ _ h0 h1 ?_ hc').mono ?_
        · simp; omega
        rintro e w1 ⟨rfl, hb1⟩
        have hp : w1.cell? ⟨wr.heap.size, 0, none⟩ = some (.int .i64 2) := (hb1.cell (by simp)).trans (by rw [World.cell?_alloc_at _ _ _ _ rfl]; rfl)
        go_wp2_with fail
        go_ret
        exact ⟨by rw [← HC.out, h2.out]; rfl, (hb.alloc (by omega) _).trans (hb1.mono (by simp; omega))⟩
    · have hst := cls_at c 4 2
      have HC := Lib.hid hcl
      clear hcl
      have hc' : (wr.alloc (.cells #[.int .i64 3, .string s3] 44)).cell? ⟨w.heap.size, 0, none⟩ = some (.int .i64 c) := by
        rw [World.cell?_alloc_lt _ _ _ hz]; exact hc
      cases hm : memB (sOf 2) c
      · have h2 := Lib.hid (hst.2 hm)
        have hm' : memB s3 c = false := hm
        clear hst hm
        go_wp2_with fail
        refine (contains_any _ c _ _ _ h0 h1 ?_ hc').mono ?_
        · simp; omega
        rintro e w1 ⟨rfl, hb1⟩
        go_wp2_with fail
        exact ⟨⟨3, by omega, rfl, h2.out.symm.trans HC.out, (hb1.cell (by simp; omega)).trans hc', by have := hb1.size; simp at this; omega, (hb.alloc (by omega) _).trans (hb1.mono (by simp; omega))⟩, by simp [intOf]⟩
      · have h2 := Lib.hid (hst.1 hm)
        have hm' : memB s3 c = true := hm
        clear hst hm
        go_wp2_with fail
        refine (contains_any _ c _ _ _ h0 h1 ?_ hc').mono ?_
        · simp; omega
        rintro e w1 ⟨rfl, hb1⟩
        have hp : w1.cell? ⟨wr.heap.size, 0, none⟩ = some (.int .i64 3) := (hb1.cell (by simp)).trans (by rw [World.cell?_alloc_at _ _ _ _ rfl]; rfl)
        go_wp2_with fail
        go_ret
        exact ⟨by rw [← HC.out, h2.out]; rfl, (hb.alloc (by omega) _).trans (hb1.mono (by simp; omega))⟩
    · have hst := cls_at c 3 3
      have HC := Lib.hid hcl
      clear hcl
      have hc' : (wr.alloc (.cells #[.int .i64 4, .string s4] 44)).cell? ⟨w.heap.size, 0, none⟩ = some (.int .i64 c) := by
        rw [World.cell?_alloc_lt _ _ _ hz]; exact hc
      cases hm : memB (sOf 3) c
      · have h2 := Lib.hid (hst.2 hm)
        have hm' : memB s4 c = false := hm
        clear hst hm
        go_wp2_with fail
        refine (contains_any _ c _ _ _ h0 h1 ?_ hc').mono ?_
        · simp; omega
        rintro e w1 ⟨rfl, hb1⟩
        go_wp2_with fail
        exact ⟨⟨4, by omega, rfl, h2.out.symm.trans HC.out, (hb1.cell (by simp; omega)).trans hc', by have := hb1.size; simp at this; omega, (hb.alloc (by omega) _).trans (hb1.mono (by simp; omega))⟩, by simp [intOf]⟩
      · have h2 := Lib.hid (hst.1 hm)
        have hm' : memB s4 c = true := hm
        clear hst hm
        go_wp2_with fail
        refine (contains_any _ c _ _ _ h0 h1 ?_ hc').mono ?_
        · simp; omega
        rintro e w1 ⟨rfl, hb1⟩
        have hp : w1.cell? ⟨wr.heap.size, 0, none⟩ = some (.int .i64 4) := (hb1.cell (by simp)).trans (by rw [World.cell?_alloc_at _ _ _ _ rfl]; rfl)
        go_wp2_with fail
        go_ret
        exact ⟨by rw [← HC.out, h2.out]; rfl, (hb.alloc (by omega) _).trans (hb1.mono (by simp; omega))⟩
    · have hst := cls_at c 2 4
      have HC := Lib.hid hcl
      clear hcl
      have hc' : (wr.alloc (.cells #[.int .i64 5, .string s5] 44)).cell? ⟨w.heap.size, 0, none⟩ = some (.int .i64 c) := by
        rw [World.cell?_alloc_lt _ _ _ hz]; exact hc
      cases hm : memB (sOf 4) c
      · have h2 := Lib.hid (hst.2 hm)
        have hm' : memB s5 c = false := hm
        clear hst hm
        go_wp2_with fail
        refine (contains_any _ c _ _ _ h0 h1 ?_ hc').mono ?_
        · simp; omega
        rintro e w1 ⟨rfl, hb1⟩
        go_wp2_with fail
        exact ⟨⟨5, by omega, rfl, h2.out.symm.trans HC.out, (hb1.cell (by simp; omega)).trans hc', by have := hb1.size; simp at this; omega, (hb.alloc (by omega) _).trans (hb1.mono (by simp; omega))⟩, by simp [intOf]⟩
      · have h2 := Lib.hid (hst.1 hm)
        have hm' : memB s5 c = true := hm
        clear hst hm
        go_wp2_with fail
        refine (contains_any _ c _ _ _ h0 h1 ?_ hc').mono ?_
        · simp; omega
        rintro e w1 ⟨rfl, hb1⟩
        have hp : w1.cell? ⟨wr.heap.size, 0, none⟩ = some (.int .i64 5) := (hb1.cell (by simp)).trans (by rw [World.cell?_alloc_at _ _ _ _ rfl]; rfl)
        go_wp2_with fail
        go_ret
        exact ⟨by rw [← HC.out, h2.out]; rfl, (hb.alloc (by omega) _).trans (hb1.mono (by simp; omega))⟩
    · have hst := cls_at c 1 5
      have HC := Lib.hid hcl
      clear hcl
      have hc' : (wr.alloc (.cells #[.int .i64 6, .string s6] 44)).cell? ⟨w.heap.size, 0, none⟩ = some (.int .i64 c) := by
        rw [World.cell?_alloc_lt _ _ _ hz]; exact hc
      cases hm : memB (sOf 5) c
      · have h2 := Lib.hid (hst.2 hm)
        have hm' : memB s6 c = false := hm
        clear hst hm
        go_wp2_with fail
        refine (contains_any _ c _ _ _ h0 h1 ?_ hc').mono ?_
        · simp; omega
        rintro e w1 ⟨rfl, hb1⟩
        go_wp2_with fail
        exact ⟨⟨6, by omega, rfl, h2.out.symm.trans HC.out, (hb1.cell (by simp; omega)).trans hc', by have := hb1.size; simp at this; omega, (hb.alloc (by omega) _).trans (hb1.mono (by simp; omega))⟩, by simp [intOf]⟩
      · have h2 := Lib.hid (hst.1 hm)
        have hm' : memB s6 c = true := hm
        clear hst hm
        go_wp2_with fail
        refine (contains_any _ c _ _ _ h0 h1 ?_ hc').mono ?_
        · simp; omega
        rintro e w1 ⟨rfl, hb1⟩
        have hp : w1.cell? ⟨wr.heap.size, 0, none⟩ = some (.int .i64 6) := (hb1.cell (by simp)).trans (by rw [World.cell?_alloc_at _ _ _ _ rfl]; rfl)
        go_wp2_with fail
        go_ret
        exact ⟨by rw [← HC.out, h2.out]; rfl, (hb.alloc (by omega) _).trans (hb1.mono (by simp; omega))⟩
    · have hst := cls_at c 0 6
      have HC := Lib.hid hcl
      clear hcl
      have hc' : (wr.alloc (.cells #[.int .i64 7, .string s7] 44)).cell? ⟨w.heap.size, 0, none⟩ = some (.int .i64 c) := by
        rw [World.cell?_alloc_lt _ _ _ hz]; exact hc
      cases hm : memB (sOf 6) c
      · have h2 := Lib.hid (hst.2 hm)
        have hm' : memB s7 c = false := hm
        clear hst hm
        go_wp2_with fail
        refine (contains_any _ c _ _ _ h0 h1 ?_ hc').mono ?_
        · simp; omega
        rintro e w1 ⟨rfl, hb1⟩
        go_wp2_with fail
        exact ⟨⟨7, by omega, rfl, h2.out.symm.trans HC.out, (hb1.cell (by simp; omega)).trans hc', by have := hb1.size; simp at this; omega, (hb.alloc (by omega) _).trans (hb1.mono (by simp; omega))⟩, by simp [intOf]⟩
      · have h2 := Lib.hid (hst.1 hm)
        have hm' : memB s7 c = true := hm
        clear hst hm
        go_wp2_with fail
        refine (contains_any _ c _ _ _ h0 h1 ?_ hc').mono ?_
        · simp; omega
        rintro e w1 ⟨rfl, hb1⟩
        have hp : w1.cell? ⟨wr.heap.size, 0, none⟩ = some (.int .i64 7) := (hb1.cell (by simp)).trans (by rw [World.cell?_alloc_at _ _ _ _ rfl]; rfl)
        go_wp2_with fail
        go_ret
        exact ⟨by rw [← HC.out, h2.out]; rfl, (hb.alloc (by omega) _).trans (hb1.mono (by simp; omega))⟩
    · have HC := Lib.hid hcl
      clear hcl
      go_wp2_with fail
      go_ret
      exact ⟨by rw [← HC.out]; rfl, hb⟩

/-- Class, for every integer. -/
theorem class_any (c : Int) (w : World) (hT : Tabs w) :
    Calls Tryd.prog 11 #[.int .i64 c] w fun e w' => e = .returned (.int .i64 (cls c)) ∧ Below w.heap.size w w' := by
  by_cases h : 0 ≤ c ∧ c ≤ 255
  · have e : cls c = clsFrom c 7 0 := by simp [cls, Ch.isCh_yes h.1 h.2]
    rw [e]
    exact class_yes c w h.1 h.2 hT
  · have e : cls c = 0 := by simp [cls, Ch.isCh_no h]
    rw [e]
    exact class_no c w h

end Go.Proofs.YtdlobgnhoiednaaDoor
