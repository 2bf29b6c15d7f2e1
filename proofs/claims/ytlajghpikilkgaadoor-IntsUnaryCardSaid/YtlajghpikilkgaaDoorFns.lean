/-
  The function values of package ints, and what a function value is good for: it returns what a plain function gives, wherever nothing but one map has turned.
-/
import Derived.Test.YtlajghpikilkgaaDoorPower
import Derived.Maps.OwnSet
namespace Go.Proofs.YtlajghpikilkgaaDoor
set_option linter.unusedVariables false
set_option linter.unusedSimpArgs false
open Go.RowKit

/-- Nothing of w but block B has turned. -/
def Kept (B : Nat) (w w' : World) : Prop := w.heap.size ≤ w'.heap.size ∧ ∀ p : Addr, p.block < w.heap.size → p.block ≠ B → w'.cell? p = w.cell? p
theorem Kept.refl (B : Nat) (w : World) : Kept B w w := ⟨Nat.le_refl _, fun _ _ _ => rfl⟩
theorem Kept.trans {B : Nat} {w w' w'' : World} (h : Kept B w w') (h' : Kept B w' w'') : Kept B w w'' :=
  ⟨Nat.le_trans h.1 h'.1, fun p hp hB => (h'.2 p (Nat.lt_of_lt_of_le hp h.1) hB).trans (h.2 p hp hB)⟩
theorem Kept.of_below {B : Nat} {w w' : World} (h : Below w.heap.size w w') : Kept B w w' := ⟨h.size, fun p hp _ => h.cell hp⟩
theorem Kept.of_grown {B : Nat} {w w' : World} (h : w.grownBy w' (some B)) : Kept B w w' := by
  refine ⟨h.size, fun p hp hB => ?_⟩
  have := h.block p.block hp (by simpa using hB)
  unfold World.cell?
  rw [this]

/-- A function value's code is entered. -/
def Enters (g : Nat) : Prop := ∀ (args : Array Value) (w : World), (callFunc g args).run Tryd.prog w = .ok (.enter g args) w

/-- A function of the program that captures nothing returns an integer. -/
structure Plain2 (g : Nat) (f : Int → Int → Int) (pre : Int → Int → Prop) : Prop where
  enters : Enters g
  gives : ∀ (a b : Int) (w : World), In.ok a → In.ok b → pre a b → Calls Tryd.prog g #[.int .i64 a, .int .i64 b] w fun e w' => e = .returned (.int .i64 (f a b)) ∧ w = w'

def Ret2 (r : Int × Int) (w : World) (e : Ending) (w' : World) : Prop := e = .returned (.tuple #[.int .i64 r.1, .int .i64 r.2]) ∧ Below w.heap.size w w'

/-- A function value returns an integer and an error, in w and wherever nothing of w but block B has turned. -/
structure Sem2 (B : Nat) (w : World) (g : Nat) (cap : Array Value) (pre : Int → Int → Prop) (F : Int → Int → Int × Int) : Prop where
  enters : Enters g
  gives : ∀ (w' : World), Kept B w w' → ∀ a b : Int, In.ok a → In.ok b → pre a b → Calls Tryd.prog g (#[.int .i64 a, .int .i64 b] ++ cap) w' (Ret2 (F a b) w')
theorem Sem2.kept {B : Nat} {w w1 : World} {g : Nat} {cap : Array Value} {pre : Int → Int → Prop} {F : Int → Int → Int × Int} (h : Sem2 B w g cap pre F) (hk : Kept B w w1) : Sem2 B w1 g cap pre F :=
  ⟨h.enters, fun w' hw' => h.gives w' (hk.trans hw')⟩

set_option maxHeartbeats 400000 in
theorem total1 (k g : Nat) (f : Int → Int → Int) (pre : Int → Int → Prop) (h : Plain2 g f pre) (a b : Int) (w : World) (ha : In.ok a) (hb : In.ok b) (hp : pre a b) (hc : w.cell? ⟨k, 0, none⟩ = some (.func (.func g) #[] #[])) :
    Calls Tryd.prog 78 #[.int .i64 a, .int .i64 b, .pointer (some ⟨k, 0, none⟩)] w (Ret2 (f a b, 0) w) := by
  have eg := h.enters
  unfold Enters at eg
  have c := fun w => h.gives a b w ha hb hp
  have C := Lib.hid c
  clear c h ha hb hp
  go_enter Tryd.func78, Tryd.ntmps78
  go_wp2_with fail
  refine (C.out _).mono ?_
  rintro e w1 ⟨rfl, rfl⟩
  go_wp2_with fail
  go_ret2
  exact ⟨rfl, Below.refl _ _⟩

set_option maxHeartbeats 400000 in
theorem divisor1 (k g B : Nat) (cap : Array Value) (w0 : World) (F : Int → Int → Int × Int) (h : Sem2 B w0 g cap (fun _ b => b ≠ 0) F) (a b : Int) (w : World) (hk : Kept B w0 w) (ha : In.ok a) (hb : In.ok b) (hc : w.cell? ⟨k, 0, none⟩ = some (.func (.func g) #[] cap)) :
    Calls Tryd.prog 77 #[.int .i64 a, .int .i64 b, .pointer (some ⟨k, 0, none⟩)] w (Ret2 (if b = 0 then (0, 11) else F a b) w) := by
  by_cases h0 : b = 0
  · rw [if_pos h0]
    subst h0
    clear h hc
    go_enter Tryd.func77, Tryd.ntmps77
    go_wp2_with fail
    go_ret2
    exact ⟨rfl, Below.refl _ _⟩
  · rw [if_neg h0]
    have eg := h.enters
    unfold Enters at eg
    have c := h.gives w hk a b ha hb h0
    unfold Ret2 at c
    have C := Lib.hid c
    have h0' : (b == 0) = false := by simpa using h0
    clear c h ha hb hk h0
    go_enter Tryd.func77, Tryd.ntmps77
    go_wp2_with fail
    refine (C.out).mono ?_
    rintro e w1 ⟨rfl, hb1⟩
    have HB1 := Lib.hid hb1
    clear hb1
    go_wp2_with fail
    go_ret2
    exact ⟨rfl, HB1.out⟩

set_option maxHeartbeats 400000 in
theorem count1 (k g B : Nat) (cap : Array Value) (w0 : World) (F : Int → Int → Int × Int) (h : Sem2 B w0 g cap (fun _ b => 0 ≤ b ∧ b ≤ 63) F) (a b : Int) (w : World) (hk : Kept B w0 w) (ha : In.ok a) (hb : In.ok b) (hc : w.cell? ⟨k, 0, none⟩ = some (.func (.func g) #[] cap)) :
    Calls Tryd.prog 79 #[.int .i64 a, .int .i64 b, .pointer (some ⟨k, 0, none⟩)] w (Ret2 (if b < 0 ∨ 63 < b then (0, 12) else F a b) w) := by
  by_cases h0 : b < 0
  · rw [if_pos (.inl h0)]
    clear h hc
    go_enter Tryd.func79, Tryd.ntmps79
    go_wp2_with fail
    go_ret2
    exact ⟨rfl, Below.refl _ _⟩
  · by_cases h1 : 63 < b
    · rw [if_pos (.inr h1)]
      have h2 : 0 ≤ b := by omega
      clear h hc h0
      go_enter Tryd.func79, Tryd.ntmps79
      go_wp2_with fail
      go_ret2
      exact ⟨rfl, Below.refl _ _⟩
    · rw [if_neg (by omega)]
      have eg := h.enters
      unfold Enters at eg
      have c := h.gives w hk a b ha hb ⟨by omega, by omega⟩
      unfold Ret2 at c
      have C := Lib.hid c
      have h2 : 0 ≤ b := by omega
      have h3 : b ≤ 63 := by omega
      clear c h ha hb hk h0 h1
      go_enter Tryd.func79, Tryd.ntmps79
      go_wp2_with fail
      refine (C.out).mono ?_
      rintro e w1 ⟨rfl, hb1⟩
      have HB1 := Lib.hid hb1
      clear hb1
      go_wp2_with fail
      go_ret2
      exact ⟨rfl, HB1.out⟩

theorem ent78 : Enters 78 := enters_of Tryd.func78 (by kernel_rfl) rfl
theorem ent77 : Enters 77 := enters_of Tryd.func77 (by kernel_rfl) rfl
theorem ent79 : Enters 79 := enters_of Tryd.func79 (by kernel_rfl) rfl

theorem kept_alloc (B : Nat) (w : World) (o : Obj) : Kept B w (w.alloc o) := Kept.of_below ((Below.refl _ _).alloc (Nat.le_refl _) o)
theorem below_alloc (w : World) (o : Obj) : Below w.heap.size w (w.alloc o) := (Below.refl _ _).alloc (Nat.le_refl _) o

/-- What total, divisor and count hand back: a function value that is good in the world behind the call. -/
def Fun2 (B : Nat) (pre : Int → Int → Prop) (F : Int → Int → Int × Int) (w : World) (e : Ending) (w' : World) : Prop :=
  ∃ g cap, e = .returned (.func (.func g) #[] cap) ∧ Sem2 B w' g cap pre F ∧ Below w.heap.size w w'

set_option maxHeartbeats 400000 in
theorem total_any (B g : Nat) (f : Int → Int → Int) (pre : Int → Int → Prop) (h : Plain2 g f pre) (w : World) (hB : B < w.heap.size) :
    Calls Tryd.prog 57 #[.func (.func g) #[] #[]] w (Fun2 B pre (fun a b => (f a b, 0)) w) := by
  have H := Lib.hid h
  clear h
  go_enter Tryd.func57, Tryd.ntmps57
  go_wp2_with fail
  go_ret
  refine ⟨_, _, rfl, ⟨ent78, fun w' hk a b ha hb hp => ?_⟩, below_alloc _ _⟩
  have hc : w'.cell? ⟨w.heap.size, 0, none⟩ = some (.func (.func g) #[] #[]) := by
    rw [hk.2 _ (by simp) (by simp; omega), World.cell?_alloc_at _ _ _ _ rfl]; rfl
  exact total1 _ g f pre H.out a b w' ha hb hp hc

set_option maxHeartbeats 400000 in
theorem divisor_any (B g : Nat) (cap : Array Value) (F : Int → Int → Int × Int) (w : World) (h : Sem2 B w g cap (fun _ b => b ≠ 0) F) (hB : B < w.heap.size) :
    Calls Tryd.prog 55 #[.func (.func g) #[] cap] w (Fun2 B (fun _ _ => True) (fun a b => if b = 0 then (0, 11) else F a b) w) := by
  have H := Lib.hid h
  clear h
  go_enter Tryd.func55, Tryd.ntmps55
  go_wp2_with fail
  go_ret
  refine ⟨_, _, rfl, ⟨ent77, fun w' hk a b ha hb hp => ?_⟩, below_alloc _ _⟩
  have hc : w'.cell? ⟨w.heap.size, 0, none⟩ = some (.func (.func g) #[] cap) := by
    rw [hk.2 _ (by simp) (by simp; omega), World.cell?_alloc_at _ _ _ _ rfl]; rfl
  exact divisor1 _ g B cap w F H.out a b w' ((kept_alloc _ _ _).trans hk) ha hb hc

set_option maxHeartbeats 400000 in
theorem count_any (B g : Nat) (cap : Array Value) (F : Int → Int → Int × Int) (w : World) (h : Sem2 B w g cap (fun _ b => 0 ≤ b ∧ b ≤ 63) F) (hB : B < w.heap.size) :
    Calls Tryd.prog 63 #[.func (.func g) #[] cap] w (Fun2 B (fun _ _ => True) (fun a b => if b < 0 ∨ 63 < b then (0, 12) else F a b) w) := by
  have H := Lib.hid h
  clear h
  go_enter Tryd.func63, Tryd.ntmps63
  go_wp2_with fail
  go_ret
  refine ⟨_, _, rfl, ⟨ent79, fun w' hk a b ha hb hp => ?_⟩, below_alloc _ _⟩
  have hc : w'.cell? ⟨w.heap.size, 0, none⟩ = some (.func (.func g) #[] cap) := by
    rw [hk.2 _ (by simp) (by simp; omega), World.cell?_alloc_at _ _ _ _ rfl]; rfl
  exact count1 _ g B cap w F H.out a b w' ((kept_alloc _ _ _).trans hk) ha hb hc

/-! ### the literals -/
theorem fRem : Plain2 58 (fun a b => a.tmod b) (fun _ b => b ≠ 0) := by
  refine ⟨enters_of Tryd.func58 (by kernel_rfl) rfl, fun a b w ha hb hp => ?_⟩
  have hp' : (b == 0) = false := by simpa using hp
  clear ha hb
  go_enter Tryd.func58, Tryd.ntmps58
  go_wp2_with fail
  go_ret
  exact ⟨rfl, rfl⟩
theorem fMin : Plain2 61 (fun a b => min a b) (fun _ _ => True) := by
  refine ⟨enters_of Tryd.func61 (by kernel_rfl) rfl, fun a b w ha hb hp => ?_⟩
  clear ha hb hp
  go_enter Tryd.func61, Tryd.ntmps61
  go_wp2_with fail
  go_ret
  exact ⟨rfl, rfl⟩
theorem fMax : Plain2 62 (fun a b => max a b) (fun _ _ => True) := by
  refine ⟨enters_of Tryd.func62 (by kernel_rfl) rfl, fun a b w ha hb hp => ?_⟩
  clear ha hb hp
  go_enter Tryd.func62, Tryd.ntmps62
  go_wp2_with fail
  go_ret
  exact ⟨rfl, rfl⟩
theorem fShr : Plain2 64 (fun a b => a / 2 ^ b.toNat) (fun _ b => 0 ≤ b ∧ b ≤ 63) := by
  refine ⟨enters_of Tryd.func64 (by kernel_rfl) rfl, fun a b w ha hb hp => ?_⟩
  obtain ⟨h0, h1⟩ := hp
  clear ha hb
  go_enter Tryd.func64, Tryd.ntmps64
  go_wp2_with fail
  go_ret
  exact ⟨rfl, rfl⟩
theorem fAnd : Plain2 66 (fun a b => bits .and .i64 a b) (fun _ _ => True) := by
  refine ⟨enters_of Tryd.func66 (by kernel_rfl) rfl, fun a b w ha hb hp => ?_⟩
  clear ha hb hp
  go_enter Tryd.func66, Tryd.ntmps66
  go_wp2_with fail
  go_ret
  exact ⟨rfl, rfl⟩
theorem fOr : Plain2 67 (fun a b => bits .or .i64 a b) (fun _ _ => True) := by
  refine ⟨enters_of Tryd.func67 (by kernel_rfl) rfl, fun a b w ha hb hp => ?_⟩
  clear ha hb hp
  go_enter Tryd.func67, Tryd.ntmps67
  go_wp2_with fail
  go_ret
  exact ⟨rfl, rfl⟩
theorem fXor : Plain2 68 (fun a b => bits .xor .i64 a b) (fun _ _ => True) := by
  refine ⟨enters_of Tryd.func68 (by kernel_rfl) rfl, fun a b w ha hb hp => ?_⟩
  clear ha hb hp
  go_enter Tryd.func68, Tryd.ntmps68
  go_wp2_with fail
  go_ret
  exact ⟨rfl, rfl⟩
theorem fMod : Plain2 60 (fun a b => a.fmod b) (fun _ b => b ≠ 0) :=
  ⟨enters_of Tryd.func60 (by kernel_rfl) rfl, fun a b w ha hb hp => (modulus_any a b w ha hb hp).mono fun _ _ ⟨h, h'⟩ => ⟨h, h'.symm⟩⟩

/-! ### the functions that are entries themselves -/
theorem below_drawn {w w' : World} (h : ∃ q, w' = w.drewN q) : Below w.heap.size w w' := by
  obtain ⟨q, rfl⟩ := h
  exact below_drewN (Below.refl _ _) q
theorem gAdd (B : Nat) (w : World) : Sem2 B w 52 #[] (fun _ _ => True) (fun a b => In.fit (a + b)) :=
  ⟨enters_of Tryd.func52 (by kernel_rfl) rfl, fun w' _ a b ha hb _ => (add_any a b w' ha hb).mono fun _ _ ⟨h, h'⟩ => ⟨h, h' ▸ Below.refl _ _⟩⟩
theorem gSub (B : Nat) (w : World) : Sem2 B w 53 #[] (fun _ _ => True) (fun a b => In.fit (a - b)) :=
  ⟨enters_of Tryd.func53 (by kernel_rfl) rfl, fun w' _ a b ha hb _ => (subtract_any a b w' ha hb).mono fun _ _ ⟨h, h'⟩ => ⟨h, h' ▸ Below.refl _ _⟩⟩
theorem gMul (B : Nat) (w : World) : Sem2 B w 54 #[] (fun _ _ => True) (fun a b => In.fit (a * b)) :=
  ⟨enters_of Tryd.func54 (by kernel_rfl) rfl, fun w' _ a b ha hb _ => (multiply_any a b w' ha hb).mono fun _ _ ⟨h, h'⟩ => ⟨h, h' ▸ Below.refl _ _⟩⟩
theorem gQuo (B : Nat) (w : World) : Sem2 B w 56 #[] (fun _ b => b ≠ 0) (fun a b => In.fit (a.tdiv b)) :=
  ⟨enters_of Tryd.func56 (by kernel_rfl) rfl, fun w' _ a b ha hb h0 => (quotient_any a b w' ha hb h0).mono fun _ _ ⟨h, h'⟩ => ⟨h, h' ▸ Below.refl _ _⟩⟩
theorem gDiv (B : Nat) (w : World) : Sem2 B w 59 #[] (fun _ b => b ≠ 0) (fun a b => In.fit (a.fdiv b)) :=
  ⟨enters_of Tryd.func59 (by kernel_rfl) rfl, fun w' _ a b ha hb h0 => (floorQuotient_any a b w' ha hb h0).mono fun _ _ ⟨h, h'⟩ => ⟨h, below_drawn h'⟩⟩
theorem gShl (B : Nat) (w : World) : Sem2 B w 65 #[] (fun _ b => 0 ≤ b ∧ b ≤ 63) (fun a b => In.fit (a * 2 ^ b.toNat)) :=
  ⟨enters_of Tryd.func65 (by kernel_rfl) rfl, fun w' _ a b ha hb h0 => (shiftLeft_any a b w' ha h0.1 h0.2).mono fun _ _ ⟨h, h'⟩ => ⟨h, h' ▸ Below.refl _ _⟩⟩
theorem gPow (B : Nat) (w : World) : Sem2 B w 69 #[] (fun _ _ => True) In.pow :=
  ⟨enters_of Tryd.func69 (by kernel_rfl) rfl, fun w' _ a b ha hb _ => (power_any a b w' ha hb).mono fun _ _ ⟨h, h'⟩ => ⟨h, h' ▸ Below.refl _ _⟩⟩
theorem gGcd (B : Nat) (w : World) : Sem2 B w 70 #[] (fun _ _ => True) In.gcd :=
  ⟨enters_of Tryd.func70 (by kernel_rfl) rfl, fun w' _ a b ha hb _ => (gcd_any a b w' ha hb).mono fun _ _ ⟨h, h'⟩ => ⟨h, below_drawn h'⟩⟩
end Go.Proofs.YtlajghpikilkgaaDoor
