/-
  The reference's Names and Known.
-/
import Derived.Test.YtlajghpikilkgaaDoorRefUnary
namespace Go.Proofs.YtlajghpikilkgaaDoor
set_option linter.unusedVariables false
set_option linter.unusedSimpArgs false
open Go.RowKit

def N1 : List (List UInt8) := [[45], [43], [97, 98, 115], [115, 105, 103, 110], [92]]
def N2 : List (List UInt8) := [[43], [45], [42], [47, 47], [114, 101, 109], [100, 105, 118], [109, 111, 100], [109, 105, 110], [109, 97, 120], [62, 62], [60, 60], [47, 92], [92, 47], [120, 111, 114], [94], [103, 99, 100]]
def str (l : List UInt8) : ByteArray := ⟨l.toArray⟩

set_option maxHeartbeats 1000000 in
theorem names_1 (w : World) : Calls Tryd.prog 29 #[.int .i64 1] w fun e w' => e = .returned (.slice (some ⟨w.heap.size, 0, none⟩) 5 5) ∧ w' = w.alloc (.cells (N1.map fun l => Value.string (str l)).toArray 9) := by
  go_enter Tryd.func29, Tryd.ntmps29
  go_wp2_with fail
  go_ret
  exact ⟨rfl, rfl⟩
set_option maxHeartbeats 1000000 in
theorem names_2 (w : World) : Calls Tryd.prog 29 #[.int .i64 2] w fun e w' => e = .returned (.slice (some ⟨w.heap.size, 0, none⟩) 16 16) ∧ w' = w.alloc (.cells (N2.map fun l => Value.string (str l)).toArray 9) := by
  go_enter Tryd.func29, Tryd.ntmps29
  go_wp2_with fail
  go_ret
  exact ⟨rfl, rfl⟩
theorem names_0 (n : Int) (w : World) (h1 : n ≠ 1) (h2 : n ≠ 2) : Calls Tryd.prog 29 #[.int .i64 n] w fun e w' => e = .returned (.slice none 0 0) ∧ w' = w := by
  have g1 : (n == 1) = false := by simpa using h1
  have g2 : (n == 2) = false := by simpa using h2
  clear h1 h2
  go_enter Tryd.func29, Tryd.ntmps29
  go_wp2_with fail
  go_ret
  exact ⟨rfl, rfl⟩

def NamesAre (L : List (List UInt8)) (w : World) (e : Ending) (w' : World) : Prop :=
  e = .returned (.slice (some ⟨w.heap.size, 0, none⟩) L.length L.length) ∧ (∀ k, k < L.length → w'.cell? ⟨w.heap.size, k, none⟩ = some (.string (str (L.getD k [])))) ∧ Below w.heap.size w w'
theorem cell_names (L : List (List UInt8)) (w : World) (k : Nat) (h : k < L.length) : (w.alloc (.cells (L.map fun l => Value.string (str l)).toArray 9)).cell? ⟨w.heap.size, k, none⟩ = some (.string (str (L.getD k []))) := by
  rw [World.cell?_alloc_at _ _ _ _ rfl]
  simp [List.getD, h]
theorem names1 (w : World) : Calls Tryd.prog 29 #[.int .i64 1] w (NamesAre N1 w) := (names_1 w).mono fun _ _ ⟨h, h'⟩ => ⟨h, fun k hk => h' ▸ cell_names N1 w k hk, h' ▸ below_alloc _ _⟩
theorem names2 (w : World) : Calls Tryd.prog 29 #[.int .i64 2] w (NamesAre N2 w) := (names_2 w).mono fun _ _ ⟨h, h'⟩ => ⟨h, fun k hk => h' ▸ cell_names N2 w k hk, h' ▸ below_alloc _ _⟩

set_option maxHeartbeats 2000000 in
set_option maxRecDepth 100000 in
theorem refKnown_list (n : Int) (L : List (List UInt8)) (hL : L.length ≤ 100) (hnames : ∀ w, Calls Tryd.prog 29 #[.int .i64 n] w (NamesAre L w)) (s : ByteArray) (w : World) :
    Calls Tryd.prog 16 #[.string s, .int .i64 n] w fun e w' => e = .returned (.bool (L.contains s.data.toList)) ∧ Below w.heap.size w w' := by
  have HN := Lib.hid hnames
  clear hnames
  obtain ⟨r, hr⟩ : ∃ r, r = L.contains s.data.toList := ⟨_, rfl⟩
  rw [← hr]
  have HR := Lib.hid hr
  clear hr
  go_enter Tryd.func16, Tryd.ntmps16
  go_wp2_with fail
  refine (HN.out _).mono ?_
  rintro e w1 ⟨rfl, hc, hb⟩
  have HC := Lib.hid hc
  have HB := Lib.hid hb
  obtain ⟨B, hB⟩ : ∃ B, B = w.heap.size := ⟨_, rfl⟩
  obtain ⟨m, hm⟩ : ∃ m, m = L.length := ⟨_, rfl⟩
  rw [← hB, ← hm] at HC ⊢
  rw [← hm] at hL
  have HM := Lib.hid hm
  clear hc hb hB hm HN
  go_wp2_with fail
  go_loop [6] (fun i => ∃ k : Nat, k ≤ m ∧ (∀ j, j < k → L.getD j [] ≠ s.data.toList) ∧ i = .int .i64 k) (fun i => m - (Lib.intOf i).toNat)
  case atStart => exact ⟨0, Nat.zero_le _, fun _ h => absurd h (Nat.not_lt_zero _), rfl⟩
  case round =>
    obtain ⟨k, hk, hall, rfl⟩ := hrel
    have HALL := Lib.hid hall
    clear hall
    by_cases hlt : k < m
    · have hck := HC.out k hlt
      obtain ⟨nm, hnm⟩ : ∃ nm, nm = str (L.getD k []) := ⟨_, rfl⟩
      rw [← hnm] at hck
      have HNM := Lib.hid hnm
      clear hnm
      have hnd : nm.data.toList = L.getD k [] := by rw [HNM.out]; rfl
      by_cases he : L.getD k [] = s.data.toList
      · have ht : (nm.toList == s.toList) = true := by rw [Lib.toList_data, Lib.toList_data, hnd, he]; simp
        have hr : r = true := by
          rw [HR.out, List.contains_iff_mem]
          have hk' : k < L.length := by have := HM.out; omega
          rw [← he, List.getD_eq_getElem?_getD, List.getElem?_eq_getElem hk']
          exact List.getElem_mem hk'
        have HR2 := Lib.hid hr
        clear hnd he hr
        go_wp2_with fail
        go_ret
        exact ⟨by rw [HR2.out]; rfl, HB.out⟩
      · have ht : (nm.toList == s.toList) = false := by rw [Lib.toList_data, Lib.toList_data, hnd]; simpa using he
        have HE := Lib.hid he
        clear hnd he
        go_wp2_with fail
        go_round
        case rel =>
          refine ⟨k + 1, by omega, fun j hj => ?_, by go_num⟩
          by_cases e : j < k
          · exact HALL.out j e
          · obtain rfl : j = k := by omega
            exact HE.out
        case measure => simp [Lib.intOf]; omega
    · have hr : r = false := by
        rw [HR.out]
        cases hc : L.contains s.data.toList
        · rfl
        · rw [List.contains_iff_mem] at hc
          obtain ⟨j, hj, e⟩ := List.getElem_of_mem hc
          have := HALL.out j (by have := HM.out; omega)
          rw [List.getD_eq_getElem?_getD, List.getElem?_eq_getElem hj] at this
          exact absurd e this
      have HR2 := Lib.hid hr
      clear hr
      go_wp2_with fail
      go_ret
      exact ⟨by rw [HR2.out]; rfl, HB.out⟩

theorem known_1 (s : List UInt8) : known s 1 = N1.contains s := by
  show (specU.lookup s).isSome = _
  unfold specU N1
  by_cases h1 : s = [45]
  · subst h1; rfl
  by_cases h2 : s = [43]
  · subst h2; rfl
  by_cases h3 : s = [97, 98, 115]
  · subst h3; rfl
  by_cases h4 : s = [115, 105, 103, 110]
  · subst h4; rfl
  by_cases h5 : s = [92]
  · subst h5; rfl
  simp only [List.lookup, beq_eq_false_iff_ne.2 h1, beq_eq_false_iff_ne.2 h2, beq_eq_false_iff_ne.2 h3, beq_eq_false_iff_ne.2 h4, beq_eq_false_iff_ne.2 h5]
  simp [h1, h2, h3, h4, h5]
theorem known_2 (s : List UInt8) : known s 2 = N2.contains s := by
  show (specB.lookup s).isSome = _
  unfold specB N2
  by_cases h0 : s = [43]
  · subst h0; rfl
  by_cases h1 : s = [45]
  · subst h1; rfl
  by_cases h2 : s = [42]
  · subst h2; rfl
  by_cases h3 : s = [47, 47]
  · subst h3; rfl
  by_cases h4 : s = [114, 101, 109]
  · subst h4; rfl
  by_cases h5 : s = [100, 105, 118]
  · subst h5; rfl
  by_cases h6 : s = [109, 111, 100]
  · subst h6; rfl
  by_cases h7 : s = [109, 105, 110]
  · subst h7; rfl
  by_cases h8 : s = [109, 97, 120]
  · subst h8; rfl
  by_cases h9 : s = [62, 62]
  · subst h9; rfl
  by_cases h10 : s = [60, 60]
  · subst h10; rfl
  by_cases h11 : s = [47, 92]
  · subst h11; rfl
  by_cases h12 : s = [92, 47]
  · subst h12; rfl
  by_cases h13 : s = [120, 111, 114]
  · subst h13; rfl
  by_cases h14 : s = [94]
  · subst h14; rfl
  by_cases h15 : s = [103, 99, 100]
  · subst h15; rfl
  simp only [List.lookup, beq_eq_false_iff_ne.2 h0, beq_eq_false_iff_ne.2 h1, beq_eq_false_iff_ne.2 h2, beq_eq_false_iff_ne.2 h3, beq_eq_false_iff_ne.2 h4, beq_eq_false_iff_ne.2 h5, beq_eq_false_iff_ne.2 h6, beq_eq_false_iff_ne.2 h7, beq_eq_false_iff_ne.2 h8, beq_eq_false_iff_ne.2 h9, beq_eq_false_iff_ne.2 h10, beq_eq_false_iff_ne.2 h11, beq_eq_false_iff_ne.2 h12, beq_eq_false_iff_ne.2 h13, beq_eq_false_iff_ne.2 h14, beq_eq_false_iff_ne.2 h15]
  simp [h0, h1, h2, h3, h4, h5, h6, h7, h8, h9, h10, h11, h12, h13, h14, h15]

set_option maxHeartbeats 1000000 in
set_option maxRecDepth 100000 in
theorem refKnown_any (s : ByteArray) (n : Int) (w : World) :
    Calls Tryd.prog 16 #[.string s, .int .i64 n] w fun e w' => e = .returned (.bool (known s.data.toList n)) ∧ Below w.heap.size w w' := by
  by_cases h1 : n = 1
  · subst h1
    rw [known_1]
    exact refKnown_list 1 N1 (by decide) names1 s w
  by_cases h2 : n = 2
  · subst h2
    rw [known_2]
    exact refKnown_list 2 N2 (by decide) names2 s w
  have hk : known s.data.toList n = false := by unfold known; rw [if_neg h1, if_neg h2]
  rw [hk]
  have c1 := fun w => names_0 n w h1 h2
  have C1 := Lib.hid c1
  clear c1 h1 h2 hk
  go_enter Tryd.func16, Tryd.ntmps16
  go_wp2_with fail
  refine (C1.out _).mono ?_
  rintro e w1 ⟨rfl, rfl⟩
  go_wp2_with fail
  refine wp_loop_rounds 1 ?_
  rw [rounds_succ]
  go_wp2_with fail
  go_ret
  exact ⟨rfl, Below.refl _ _⟩
end Go.Proofs.YtlajghpikilkgaaDoor
