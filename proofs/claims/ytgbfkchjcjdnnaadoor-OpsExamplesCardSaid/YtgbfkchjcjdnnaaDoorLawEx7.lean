/-
  The walk of OpsExamples: it returns true.
-/
import Derived.Test.YtgbfkchjcjdnnaaDoorLawSL7
namespace Go.Proofs.YtgbfkchjcjdnnaaDoor
set_option linter.unusedVariables false
set_option linter.unusedSimpArgs false
open Go.RowKit Q

def nPlus : ByteArray := ⟨#[43]⟩
def nIs : ByteArray := ⟨#[105, 115]⟩
def nBar : ByteArray := ⟨#[124]⟩
def nNil : ByteArray := ⟨#[91, 93]⟩
def nA : ByteArray := ⟨#[97]⟩
def nFoo : ByteArray := ⟨#[102, 111, 111]⟩
def nNot : ByteArray := ⟨#[92, 43]⟩
def nXf : ByteArray := ⟨#[120, 102]⟩
theorem ex1 : lookE defL 3 nMinus = (⟨#[]⟩, 0, 0) := by kernel_rfl
theorem ex2 : lookB defL 3 nMinus = false := by kernel_rfl
theorem ex3 : lookE (resM defL 700 1 nIn) 2 nIn = (nIn, 1, 700) := by kernel_rfl
theorem ex4 : lookB (resM defL 700 1 nIn) 2 nIn = true := by kernel_rfl
theorem ex5 : errM defL 0 3 nPlus = 0 := by kernel_rfl
theorem ex6 : (resM defL 0 3 nPlus).length = 40 := by kernel_rfl
theorem ex7 : lookE (resM defL 0 3 nPlus) 2 nPlus = (⟨#[]⟩, 0, 0) := by kernel_rfl
theorem ex8 : lookB (resM defL 0 3 nPlus) 2 nPlus = false := by kernel_rfl
theorem ex9 : lookE (resM defL 0 3 nPlus) 1 nPlus = (nPlus, 4, 200) := by kernel_rfl
theorem ex10 : lookB (resM defL 0 3 nPlus) 1 nPlus = true := by kernel_rfl
theorem ex11 : errM defL 200 6 nIs = 5 := by kernel_rfl
theorem ex12 : errM defL 900 2 nBar = 5 := by kernel_rfl
theorem ex13 : errM defL 200 4 nNil = 5 := by kernel_rfl
theorem ex14 : errM defL 1201 4 nA = 1 := by kernel_rfl
theorem ex15 : (goodB defL && nameIn defL nFoo) = false := by kernel_rfl
theorem ex16 : TypeIs nXf 6 true := by
  refine ⟨fun j h1 h2 h3 => ?_, fun _ => ⟨by omega, by omega, rfl⟩, fun h => by cases h⟩
  have hall : ∀ m : Fin 8, 1 ≤ m.val → m.val < 6 → tyN m.val ≠ nXf := by decide
  rcases h3 with h3 | h3
  · cases h3
  · exact hall ⟨j, h2⟩ h1 h3
theorem ex17 : nameM 3 = (⟨#[121, 102, 120]⟩, true) := by kernel_rfl

set_option maxHeartbeats 8000000 in
set_option maxRecDepth 100000 in
theorem walk_examples (w : World) (hT : Tabs w) (hNM : Nams w) :
    Calls Tryd.prog 3 #[] w fun e w' => e = .returned (.bool true) ∧ Below w.heap.size w w' := by
  have HA := Lib.hid (hAwake hT)
  have HB := Lib.hid (Below.refl w.heap.size w)
  have hD : ∀ W : World, Below w.heap.size w W → Calls Tryd.prog 12 #[] W fun e w' => (∃ A, e = .returned (.slice A 41 41) ∧ OpsIn w' w'.heap.size A 41 defL) ∧ Below W.heap.size W w' := fun W hW => default_any W (hT.below hW)
  have hPost : ∀ (A : Option Addr) (W : World), Below w.heap.size w W → OpsIn W W.heap.size A 41 defL → Calls Tryd.prog 13 #[.slice A 41 41, .string nMinus] W fun e w' => e = .returned (.tuple #[.agg #[.string ⟨#[]⟩, .int .i64 0, .int .i64 0], .bool false]) ∧ Below W.heap.size W w' := fun A W hW ho => by
    have h := postfix_any A 41 41 nMinus defL W (hT.below hW) (by omega) ho
    unfold LookEnd opV at h
    rw [ex1, ex2] at h
    exact h
  have hS : ∀ W : World, Calls Tryd.prog 14 #[.agg #[.string nNot, .int .i64 4, .int .i64 900]] W fun e w' => e = .returned (.tuple #[.int .i64 0, .int .i64 900]) ∧ Below W.heap.size W w' := fun W => sides_any nNot 4 900 W
  have hSet1 : ∀ (A : Option Addr) (W : World), Below w.heap.size w W → OpsIn W W.heap.size A 41 defL → Calls Tryd.prog 15 #[.slice A 41 41, .int .i64 700, .int .i64 1, .string nIn] W fun e w' => (∃ A' c', e = .returned (.tuple #[.slice A' 42 c', .int .i64 0]) ∧ OpsIn w' w'.heap.size A' 42 (resM defL 700 1 nIn)) ∧ Below W.heap.size W w' := fun A W hW ho => by
    have h := set_any A 41 41 700 1 nIn defL W (hT.below hW) (by omega) ho
    unfold ResEnd at h
    rw [aw5, aw6] at h
    exact h
  have hInf1 : ∀ (A : Option Addr) (c : Nat) (W : World), Below w.heap.size w W → OpsIn W W.heap.size A 42 (resM defL 700 1 nIn) → Calls Tryd.prog 16 #[.slice A 42 c, .string nIn] W fun e w' => e = .returned (.tuple #[.agg #[.string nIn, .int .i64 1, .int .i64 700], .bool true]) ∧ Below W.heap.size W w' := fun A c W hW ho => by
    have h := infix_any A 42 c nIn (resM defL 700 1 nIn) W (hT.below hW) (by omega) ho
    unfold LookEnd opV at h
    rw [ex3, ex4] at h
    exact h
  have hSet2 : ∀ (A : Option Addr) (W : World), Below w.heap.size w W → OpsIn W W.heap.size A 41 defL → Calls Tryd.prog 15 #[.slice A 41 41, .int .i64 0, .int .i64 3, .string nPlus] W fun e w' => (∃ A' c', e = .returned (.tuple #[.slice A' 40 c', .int .i64 0]) ∧ OpsIn w' w'.heap.size A' 40 (resM defL 0 3 nPlus)) ∧ Below W.heap.size W w' := fun A W hW ho => by
    have h := set_any A 41 41 0 3 nPlus defL W (hT.below hW) (by omega) ho
    unfold ResEnd at h
    rw [ex5, ex6] at h
    exact h
  have hInf2 : ∀ (A : Option Addr) (c : Nat) (W : World), Below w.heap.size w W → OpsIn W W.heap.size A 40 (resM defL 0 3 nPlus) → Calls Tryd.prog 16 #[.slice A 40 c, .string nPlus] W fun e w' => e = .returned (.tuple #[.agg #[.string ⟨#[]⟩, .int .i64 0, .int .i64 0], .bool false]) ∧ Below W.heap.size W w' := fun A c W hW ho => by
    have h := infix_any A 40 c nPlus (resM defL 0 3 nPlus) W (hT.below hW) (by omega) ho
    unfold LookEnd opV at h
    rw [ex7, ex8] at h
    exact h
  have hPre2 : ∀ (A : Option Addr) (c : Nat) (W : World), Below w.heap.size w W → OpsIn W W.heap.size A 40 (resM defL 0 3 nPlus) → Calls Tryd.prog 17 #[.slice A 40 c, .string nPlus] W fun e w' => e = .returned (.tuple #[.agg #[.string nPlus, .int .i64 4, .int .i64 200], .bool true]) ∧ Below W.heap.size W w' := fun A c W hW ho => by
    have h := prefix_any A 40 c nPlus (resM defL 0 3 nPlus) W (hT.below hW) (by omega) ho
    unfold LookEnd opV at h
    rw [ex9, ex10] at h
    exact h
  have hSet3 : ∀ (A : Option Addr) (W : World), Below w.heap.size w W → OpsIn W W.heap.size A 41 defL → Calls Tryd.prog 15 #[.slice A 41 41, .int .i64 200, .int .i64 6, .string nIs] W fun e w' => (∃ A' r c', e = .returned (.tuple #[.slice A' r c', .int .i64 5])) ∧ Below W.heap.size W w' := fun A W hW ho => by
    have h := set_any A 41 41 200 6 nIs defL W (hT.below hW) (by omega) ho
    unfold ResEnd at h
    rw [ex11] at h
    exact h.mono fun e w' ⟨⟨A', c', he, _⟩, hb⟩ => ⟨⟨A', _, c', he⟩, hb⟩
  have hSet4 : ∀ (A : Option Addr) (W : World), Below w.heap.size w W → OpsIn W W.heap.size A 41 defL → Calls Tryd.prog 15 #[.slice A 41 41, .int .i64 900, .int .i64 2, .string nBar] W fun e w' => (∃ A' r c', e = .returned (.tuple #[.slice A' r c', .int .i64 5])) ∧ Below W.heap.size W w' := fun A W hW ho => by
    have h := set_any A 41 41 900 2 nBar defL W (hT.below hW) (by omega) ho
    unfold ResEnd at h
    rw [ex12] at h
    exact h.mono fun e w' ⟨⟨A', c', he, _⟩, hb⟩ => ⟨⟨A', _, c', he⟩, hb⟩
  have hSet5 : ∀ (A : Option Addr) (W : World), Below w.heap.size w W → OpsIn W W.heap.size A 41 defL → Calls Tryd.prog 15 #[.slice A 41 41, .int .i64 200, .int .i64 4, .string nNil] W fun e w' => (∃ A' r c', e = .returned (.tuple #[.slice A' r c', .int .i64 5])) ∧ Below W.heap.size W w' := fun A W hW ho => by
    have h := set_any A 41 41 200 4 nNil defL W (hT.below hW) (by omega) ho
    unfold ResEnd at h
    rw [ex13] at h
    exact h.mono fun e w' ⟨⟨A', c', he, _⟩, hb⟩ => ⟨⟨A', _, c', he⟩, hb⟩
  have hSet6 : ∀ (A : Option Addr) (W : World), Below w.heap.size w W → OpsIn W W.heap.size A 41 defL → Calls Tryd.prog 15 #[.slice A 41 41, .int .i64 1201, .int .i64 4, .string nA] W fun e w' => (∃ A' r c', e = .returned (.tuple #[.slice A' r c', .int .i64 1])) ∧ Below W.heap.size W w' := fun A W hW ho => by
    have h := set_any A 41 41 1201 4 nA defL W (hT.below hW) (by omega) ho
    unfold ResEnd at h
    rw [ex14] at h
    exact h.mono fun e w' ⟨⟨A', c', he, _⟩, hb⟩ => ⟨⟨A', _, c', he⟩, hb⟩
  have hTN : ∀ W : World, Below w.heap.size w W → Calls Tryd.prog 18 #[.int .i64 3] W fun e w' => e = .returned (.tuple #[.string ⟨#[121, 102, 120]⟩, .bool true]) ∧ W = w' := fun W hW => by
    have h := typeName_any 3 W (hT.below hW) (hNM.below hW)
    unfold NameEnd at h
    rw [ex17] at h
    exact h
  have hTO : ∀ W : World, Below w.heap.size w W → Calls Tryd.prog 19 #[.string nXf] W fun e w' => TypeEnd nXf e ∧ W = w' := fun W hW => typeOf_any nXf W (hNM.below hW)
  have hIs : ∀ (A : Option Addr) (W : World), Below w.heap.size w W → OpsIn W W.heap.size A 41 defL → Calls Tryd.prog 20 #[.slice A 41 41, .string nFoo] W fun e w' => e = .returned (.bool false) ∧ Below W.heap.size W w' := fun A W hW ho => by
    have h := is_any A 41 41 nFoo defL W (hT.below hW) (by omega) ho
    rw [ex15] at h
    exact h
  have HXF := Lib.hid ex16
  have hq1 := eq_yes ⟨#[105, 110]⟩ 1 700
  have hq2 := eq_yes ⟨#[43]⟩ 4 200
  have hgu := guardOff
  generalize resM defL 700 1 nIn = R1 at hSet1 hInf1
  generalize resM defL 0 3 nPlus = R2 at hSet2 hInf2 hPre2
  unfold TypeEnd at hTO
  unfold nMinus at hPost
  unfold nNot at hS
  unfold nIn at hSet1 hInf1
  unfold nPlus at hSet2 hInf2 hPre2
  unfold nIs at hSet3
  unfold nBar at hSet4
  unfold nNil at hSet5
  unfold nA at hSet6
  unfold nXf at hTO HXF
  unfold nFoo at hIs
  have HD := Lib.hid hD
  have HPost := Lib.hid hPost
  have HS := Lib.hid hS
  have HSet1 := Lib.hid hSet1
  have HInf1 := Lib.hid hInf1
  have HSet2 := Lib.hid hSet2
  have HInf2 := Lib.hid hInf2
  have HPre2 := Lib.hid hPre2
  have HSet3 := Lib.hid hSet3
  have HSet4 := Lib.hid hSet4
  have HSet5 := Lib.hid hSet5
  have HSet6 := Lib.hid hSet6
  have HTN := Lib.hid hTN
  have HTO := Lib.hid hTO
  have HIs := Lib.hid hIs
  clear hD hPost hS hSet1 hInf1 hSet2 hInf2 hPre2 hSet3 hSet4 hSet5 hSet6 hTN hTO hIs hT hNM
  go_enter Tryd.func3, Tryd.ntmps3
  go_wp2_with fail
  refine (HA.out _ HB.out).mono ?_
  rintro e w1 ⟨rfl, hb⟩
  replace HB := Lib.hid (HB.out.trans (hb.mono HB.out.size))
  clear hb
  go_wp2_with fail
  refine (HD.out _ HB.out).mono ?_
  rintro e w2 ⟨⟨A, rfl, ho⟩, hb⟩
  replace HB := Lib.hid (HB.out.trans (hb.mono HB.out.size))
  have HO := Lib.hid ho
  clear ho
  clear hb
  go_wp2_with fail
  refine (HPost.out _ _ HB.out HO.out).mono ?_
  rintro e w3 ⟨rfl, hb⟩
  replace HB := Lib.hid (HB.out.trans (hb.mono HB.out.size))
  replace HO := Lib.hid (HO.out.on hb hb.size)
  clear hb
  go_wp2_with (refine wpList_store_own rfl 26 (.tmp 2) (.tmp 36) rfl w3.heap.size #[.string ⟨#[]⟩, .int .i64 0, .int .i64 0] rfl rfl 26 _ (heap_alloc_new w3 _) op_size rfl (one3 _ _ _) w3.heap.size w3 ((Below.refl _ _).alloc (Nat.le_refl _) _) (Nat.le_refl _) ?_; intro w4 hg hb hs)
  replace HB := Lib.hid (HB.out.trans (hb.out.mono HB.out.size))
  replace HO := Lib.hid (HO.out.on hb.out hb.out.size)
  have X1 := Lib.hid (show Box w4 w3.heap.size (⟨#[]⟩, 0, 0) from ⟨by rw [hs.out]; simp, hg.out⟩)
  clear hg hb hs
  refine (HS.out _).mono ?_
  rintro e w5 ⟨rfl, hb⟩
  replace HB := Lib.hid (HB.out.trans (hb.mono HB.out.size))
  replace HO := Lib.hid (HO.out.on hb hb.size)
  replace X1 := Lib.hid (X1.out.on hb)
  clear hb
  go_wp2_with fail
  refine (HSet1.out _ _ HB.out HO.out).mono ?_
  rintro e w6 ⟨⟨A1, c1, rfl, ho1⟩, hb⟩
  replace HB := Lib.hid (HB.out.trans (hb.mono HB.out.size))
  replace HO := Lib.hid (HO.out.on hb hb.size)
  replace X1 := Lib.hid (X1.out.on hb)
  have HO1 := Lib.hid ho1
  clear ho1
  clear hb
  go_wp2_with fail
  refine (HInf1.out _ _ _ HB.out HO1.out).mono ?_
  rintro e w7 ⟨rfl, hb⟩
  replace HB := Lib.hid (HB.out.trans (hb.mono HB.out.size))
  replace HO := Lib.hid (HO.out.on hb hb.size)
  replace X1 := Lib.hid (X1.out.on hb)
  replace HO1 := Lib.hid (HO1.out.on hb hb.size)
  clear hb
  go_wp2_with (refine wpList_store_own rfl 26 (.tmp 8) (.tmp 51) rfl w7.heap.size #[.string ⟨#[105, 110]⟩, .int .i64 1, .int .i64 700] rfl rfl 26 _ (heap_alloc_new w7 _) op_size rfl (one3 _ _ _) w7.heap.size w7 ((Below.refl _ _).alloc (Nat.le_refl _) _) (Nat.le_refl _) ?_; intro w8 hg hb hs)
  replace HB := Lib.hid (HB.out.trans (hb.out.mono HB.out.size))
  replace HO := Lib.hid (HO.out.on hb.out hb.out.size)
  replace X1 := Lib.hid (X1.out.on hb.out)
  replace HO1 := Lib.hid (HO1.out.on hb.out hb.out.size)
  have X2 := Lib.hid (show Box w8 w7.heap.size (⟨#[105, 110]⟩, 1, 700) from ⟨by rw [hs.out]; simp, hg.out⟩)
  clear hg hb hs
  refine (HSet2.out _ _ HB.out HO.out).mono ?_
  rintro e w9 ⟨⟨A2, c2, rfl, ho2⟩, hb⟩
  replace HB := Lib.hid (HB.out.trans (hb.mono HB.out.size))
  replace HO := Lib.hid (HO.out.on hb hb.size)
  replace X1 := Lib.hid (X1.out.on hb)
  replace HO1 := Lib.hid (HO1.out.on hb hb.size)
  replace X2 := Lib.hid (X2.out.on hb)
  have HO2 := Lib.hid ho2
  clear ho2
  clear hb
  go_wp2_with fail
  refine (HInf2.out _ _ _ HB.out HO2.out).mono ?_
  rintro e w10 ⟨rfl, hb⟩
  replace HB := Lib.hid (HB.out.trans (hb.mono HB.out.size))
  replace HO := Lib.hid (HO.out.on hb hb.size)
  replace X1 := Lib.hid (X1.out.on hb)
  replace HO1 := Lib.hid (HO1.out.on hb hb.size)
  replace X2 := Lib.hid (X2.out.on hb)
  replace HO2 := Lib.hid (HO2.out.on hb hb.size)
  clear hb
  go_wp2_with (refine wpList_store_own rfl 26 (.tmp 12) (.tmp 61) rfl w10.heap.size #[.string ⟨#[]⟩, .int .i64 0, .int .i64 0] rfl rfl 26 _ (heap_alloc_new w10 _) op_size rfl (one3 _ _ _) w10.heap.size w10 ((Below.refl _ _).alloc (Nat.le_refl _) _) (Nat.le_refl _) ?_; intro w11 hg hb hs)
  replace HB := Lib.hid (HB.out.trans (hb.out.mono HB.out.size))
  replace HO := Lib.hid (HO.out.on hb.out hb.out.size)
  replace X1 := Lib.hid (X1.out.on hb.out)
  replace HO1 := Lib.hid (HO1.out.on hb.out hb.out.size)
  replace X2 := Lib.hid (X2.out.on hb.out)
  replace HO2 := Lib.hid (HO2.out.on hb.out hb.out.size)
  have X3 := Lib.hid (show Box w11 w10.heap.size (⟨#[]⟩, 0, 0) from ⟨by rw [hs.out]; simp, hg.out⟩)
  clear hg hb hs
  refine (HPre2.out _ _ _ HB.out HO2.out).mono ?_
  rintro e w12 ⟨rfl, hb⟩
  replace HB := Lib.hid (HB.out.trans (hb.mono HB.out.size))
  replace HO := Lib.hid (HO.out.on hb hb.size)
  replace X1 := Lib.hid (X1.out.on hb)
  replace HO1 := Lib.hid (HO1.out.on hb hb.size)
  replace X2 := Lib.hid (X2.out.on hb)
  replace HO2 := Lib.hid (HO2.out.on hb hb.size)
  replace X3 := Lib.hid (X3.out.on hb)
  clear hb
  go_wp2_with (refine wpList_store_own rfl 26 (.tmp 14) (.tmp 66) rfl w12.heap.size #[.string ⟨#[43]⟩, .int .i64 4, .int .i64 200] rfl rfl 26 _ (heap_alloc_new w12 _) op_size rfl (one3 _ _ _) w12.heap.size w12 ((Below.refl _ _).alloc (Nat.le_refl _) _) (Nat.le_refl _) ?_; intro w13 hg hb hs)
  replace HB := Lib.hid (HB.out.trans (hb.out.mono HB.out.size))
  replace HO := Lib.hid (HO.out.on hb.out hb.out.size)
  replace X1 := Lib.hid (X1.out.on hb.out)
  replace HO1 := Lib.hid (HO1.out.on hb.out hb.out.size)
  replace X2 := Lib.hid (X2.out.on hb.out)
  replace HO2 := Lib.hid (HO2.out.on hb.out hb.out.size)
  replace X3 := Lib.hid (X3.out.on hb.out)
  have X4 := Lib.hid (show Box w13 w12.heap.size (⟨#[43]⟩, 4, 200) from ⟨by rw [hs.out]; simp, hg.out⟩)
  clear hg hb hs
  refine (HSet3.out _ _ HB.out HO.out).mono ?_
  rintro e w14 ⟨⟨A3, r3, c3, rfl⟩, hb⟩
  replace HB := Lib.hid (HB.out.trans (hb.mono HB.out.size))
  replace HO := Lib.hid (HO.out.on hb hb.size)
  replace X1 := Lib.hid (X1.out.on hb)
  replace HO1 := Lib.hid (HO1.out.on hb hb.size)
  replace X2 := Lib.hid (X2.out.on hb)
  replace HO2 := Lib.hid (HO2.out.on hb hb.size)
  replace X3 := Lib.hid (X3.out.on hb)
  replace X4 := Lib.hid (X4.out.on hb)
  clear hb
  go_wp2_with fail
  refine (HSet4.out _ _ HB.out HO.out).mono ?_
  rintro e w15 ⟨⟨A4, r4, c4, rfl⟩, hb⟩
  replace HB := Lib.hid (HB.out.trans (hb.mono HB.out.size))
  replace HO := Lib.hid (HO.out.on hb hb.size)
  replace X1 := Lib.hid (X1.out.on hb)
  replace HO1 := Lib.hid (HO1.out.on hb hb.size)
  replace X2 := Lib.hid (X2.out.on hb)
  replace HO2 := Lib.hid (HO2.out.on hb hb.size)
  replace X3 := Lib.hid (X3.out.on hb)
  replace X4 := Lib.hid (X4.out.on hb)
  clear hb
  go_wp2_with fail
  refine (HSet5.out _ _ HB.out HO.out).mono ?_
  rintro e w16 ⟨⟨A5, r5, c5, rfl⟩, hb⟩
  replace HB := Lib.hid (HB.out.trans (hb.mono HB.out.size))
  replace HO := Lib.hid (HO.out.on hb hb.size)
  replace X1 := Lib.hid (X1.out.on hb)
  replace HO1 := Lib.hid (HO1.out.on hb hb.size)
  replace X2 := Lib.hid (X2.out.on hb)
  replace HO2 := Lib.hid (HO2.out.on hb hb.size)
  replace X3 := Lib.hid (X3.out.on hb)
  replace X4 := Lib.hid (X4.out.on hb)
  clear hb
  go_wp2_with fail
  refine (HSet6.out _ _ HB.out HO.out).mono ?_
  rintro e w17 ⟨⟨A6, r6, c6, rfl⟩, hb⟩
  replace HB := Lib.hid (HB.out.trans (hb.mono HB.out.size))
  replace HO := Lib.hid (HO.out.on hb hb.size)
  replace X1 := Lib.hid (X1.out.on hb)
  replace HO1 := Lib.hid (HO1.out.on hb hb.size)
  replace X2 := Lib.hid (X2.out.on hb)
  replace HO2 := Lib.hid (HO2.out.on hb hb.size)
  replace X3 := Lib.hid (X3.out.on hb)
  replace X4 := Lib.hid (X4.out.on hb)
  clear hb
  go_wp2_with fail
  refine (HTN.out _ HB.out).mono ?_
  rintro e wt ⟨rfl, rfl⟩
  go_wp2_with fail
  refine (HTO.out _ HB.out).mono ?_
  rintro e wu ⟨⟨n, ok, hn, rfl⟩, rfl⟩
  obtain ⟨rfl, rfl⟩ := hn.uniq HXF.out
  clear hn
  go_wp2_with fail
  refine (HIs.out _ _ HB.out HO.out).mono ?_
  rintro e w18 ⟨rfl, hb⟩
  replace HB := Lib.hid (HB.out.trans (hb.mono HB.out.size))
  replace HO := Lib.hid (HO.out.on hb hb.size)
  replace X1 := Lib.hid (X1.out.on hb)
  replace HO1 := Lib.hid (HO1.out.on hb hb.size)
  replace X2 := Lib.hid (X2.out.on hb)
  replace HO2 := Lib.hid (HO2.out.on hb hb.size)
  replace X3 := Lib.hid (X3.out.on hb)
  replace X4 := Lib.hid (X4.out.on hb)
  clear hb
  have x0 := X2.out.c0
  have x1 := X2.out.c1
  have x2 := X2.out.c2
  have y0 := X4.out.c0
  have y1 := X4.out.c1
  have y2 := X4.out.c2
  simp only at x0 x1 x2 y0 y1 y2
  go_wp2_with fail
  go_ret
  exact ⟨rfl, HB.out⟩
end Go.Proofs.YtgbfkchjcjdnnaaDoor
