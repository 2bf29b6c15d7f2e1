/-
  The examples that every statement of the layer holds besides: awake returns true.
-/
import Derived.Test.YtgbfkchjcjdnnaaDoorRSet7
namespace Go.Proofs.YtgbfkchjcjdnnaaDoor
set_option linter.unusedVariables false
set_option linter.unusedSimpArgs false
open Go.RowKit Q

def nMinus : ByteArray := ⟨#[45]⟩
def nIn : ByteArray := ⟨#[105, 110]⟩
theorem aw1 : lookE defL 2 nMinus = (nMinus, 3, 500) := by kernel_rfl
theorem aw2 : lookB defL 2 nMinus = true := by kernel_rfl
theorem aw3 : lookE defL 1 nMinus = (nMinus, 4, 200) := by kernel_rfl
theorem aw4 : lookB defL 1 nMinus = true := by kernel_rfl
theorem aw5 : errM defL 700 1 nIn = 0 := by kernel_rfl
theorem aw6 : (resM defL 700 1 nIn).length = 42 := by kernel_rfl
theorem cell_heap {w : World} {g i : Nat} {cs : Array Value} {t : TypeId} {v : Value} (h : w.heap[g]? = some (.cells cs t (0, 0))) (hv : cs[i]? = some v) : w.cell? ⟨g, i, none⟩ = some v := by
  simp only [World.cell?, h]
  exact hv

set_option maxHeartbeats 4000000 in
theorem awake_true (w : World) (hT : Tabs w) :
    Calls Tryd.prog 11 #[] w fun e w' => e = .returned (.bool true) ∧ Below w.heap.size w w' := by
  have hD := default_any w hT
  have hI : ∀ (A : Option Addr) (W : World), Below w.heap.size w W → OpsIn W W.heap.size A 41 defL → Calls Tryd.prog 16 #[.slice A 41 41, .string nMinus] W fun e w' => e = .returned (.tuple #[.agg #[.string nMinus, .int .i64 3, .int .i64 500], .bool true]) ∧ Below W.heap.size W w' := fun A W hW ho => by
    have h := infix_any A 41 41 nMinus defL W (hT.below hW) (by omega) ho
    unfold LookEnd opV at h
    rw [aw1, aw2] at h
    exact h
  have hP : ∀ (A : Option Addr) (W : World), Below w.heap.size w W → OpsIn W W.heap.size A 41 defL → Calls Tryd.prog 17 #[.slice A 41 41, .string nMinus] W fun e w' => e = .returned (.tuple #[.agg #[.string nMinus, .int .i64 4, .int .i64 200], .bool true]) ∧ Below W.heap.size W w' := fun A W hW ho => by
    have h := prefix_any A 41 41 nMinus defL W (hT.below hW) (by omega) ho
    unfold LookEnd opV at h
    rw [aw3, aw4] at h
    exact h
  have hS : ∀ W : World, Calls Tryd.prog 14 #[.agg #[.string sComma, .int .i64 2, .int .i64 1000]] W fun e w' => e = .returned (.tuple #[.int .i64 999, .int .i64 1000]) ∧ Below W.heap.size W w' := fun W => sides_any sComma 2 1000 W
  have hSet : ∀ (A : Option Addr) (W : World), Below w.heap.size w W → OpsIn W W.heap.size A 41 defL → Calls Tryd.prog 15 #[.slice A 41 41, .int .i64 700, .int .i64 1, .string nIn] W fun e w' => (∃ A' c', e = .returned (.tuple #[.slice A' 42 c', .int .i64 0])) ∧ Below W.heap.size W w' := fun A W hW ho => by
    refine (set_any A 41 41 700 1 nIn defL W (hT.below hW) (by omega) ho).mono fun e w' ⟨⟨A', c', he, _⟩, hb⟩ => ⟨⟨A', c', ?_⟩, hb⟩
    rw [aw5, aw6] at he
    exact he
  unfold nMinus at hI hP
  unfold sComma at hS
  unfold nIn at hSet
  have HD := Lib.hid hD
  have HI := Lib.hid hI
  have HP := Lib.hid hP
  have HS := Lib.hid hS
  have HSet := Lib.hid hSet
  clear hD hI hP hS hSet hT
  go_enter Tryd.func11, Tryd.ntmps11
  go_wp2_with fail
  refine HD.out.mono ?_
  rintro e w1 ⟨⟨A, rfl, ho⟩, hb⟩
  have HO := Lib.hid ho
  have HB := Lib.hid hb
  clear ho hb
  go_wp2_with fail
  refine (HI.out _ _ HB.out HO.out).mono ?_
  rintro e w2 ⟨rfl, hb⟩
  have HB2 := Lib.hid (HB.out.trans (hb.mono HB.out.size))
  have HO2 := Lib.hid (HO.out.on hb hb.size)
  clear hb
  go_wp2_with (refine wpList_store_own rfl 26 (.tmp 2) (.tmp 14) rfl w2.heap.size #[.string ⟨#[45]⟩, .int .i64 3, .int .i64 500] rfl rfl 26 _ (heap_alloc_new w2 _) op_size rfl (one3 _ _ _) w2.heap.size w2 ((Below.refl _ _).alloc (Nat.le_refl _) _) (Nat.le_refl _) ?_; intro w3 hg3 hb3 hs3)
  have HB3 := Lib.hid (HB2.out.trans (hb3.out.mono HB2.out.size))
  have HO3 := Lib.hid (HO2.out.on hb3.out hb3.out.size)
  refine (HP.out _ _ HB3.out HO3.out).mono ?_
  rintro e w4 ⟨rfl, hb⟩
  have HB4 := Lib.hid (HB3.out.trans (hb.mono HB3.out.size))
  have HO4 := Lib.hid (HO3.out.on hb hb.size)
  have HG4 := Lib.hid ((hb.block w2.heap.size (by rw [hs3.out]; simp)).trans hg3.out)
  have hl4 : w2.heap.size < w4.heap.size := Nat.lt_of_lt_of_le (by rw [hs3.out]; simp) hb.size
  clear hb
  go_wp2_with (refine wpList_store_own rfl 26 (.tmp 4) (.tmp 19) rfl w4.heap.size #[.string ⟨#[45]⟩, .int .i64 4, .int .i64 200] rfl rfl 26 _ (heap_alloc_new w4 _) op_size rfl (one3 _ _ _) w4.heap.size w4 ((Below.refl _ _).alloc (Nat.le_refl _) _) (Nat.le_refl _) ?_; intro w5 hg5 hb5 hs5)
  have HB5 := Lib.hid (HB4.out.trans (hb5.out.mono HB4.out.size))
  have HO5 := Lib.hid (HO4.out.on hb5.out hb5.out.size)
  have HG5 := Lib.hid ((hb5.out.block w2.heap.size hl4).trans HG4.out)
  have hl5 : w4.heap.size < w5.heap.size := by rw [hs5.out]; simp
  refine (HS.out _).mono ?_
  rintro e w6 ⟨rfl, hb⟩
  have HB6 := Lib.hid (HB5.out.trans (hb.mono HB5.out.size))
  have HO6 := Lib.hid (HO5.out.on hb hb.size)
  have HG6 := Lib.hid ((hb.block w2.heap.size (by omega)).trans HG5.out)
  have HH6 := Lib.hid ((hb.block w4.heap.size hl5).trans hg5.out)
  have hl6 : w4.heap.size < w6.heap.size := Nat.lt_of_lt_of_le hl5 hb.size
  clear hb
  go_wp2_with fail
  refine (HSet.out _ _ HB6.out HO6.out).mono ?_
  rintro e w7 ⟨⟨A', c', rfl⟩, hb⟩
  have HB7 := Lib.hid (HB6.out.trans (hb.mono HB6.out.size))
  have hG7 := (hb.block w2.heap.size (by omega)).trans HG6.out
  have hH7 := (hb.block w4.heap.size hl6).trans HH6.out
  have p1 : w7.cell? ⟨w2.heap.size, 1, none⟩ = some (.int .i64 3) := cell_heap hG7 rfl
  have p2 : w7.cell? ⟨w2.heap.size, 2, none⟩ = some (.int .i64 500) := cell_heap hG7 rfl
  have p3 : w7.cell? ⟨w4.heap.size, 2, none⟩ = some (.int .i64 200) := cell_heap hH7 rfl
  clear hb hG7 hH7
  go_wp2_with fail
  go_ret
  exact ⟨rfl, HB7.out⟩
end Go.Proofs.YtgbfkchjcjdnnaaDoor
