/-
  awake answers true.
-/
import Derived.Test.YtmljkhofahgelaaSeq
import Derived.Test.YtmljkhofahgelaaAwakeOps
namespace Go.Proofs.Ytmljkhofahgelaa
set_option linter.unusedVariables false
set_option linter.unusedSimpArgs false
open Go.RowKit

noncomputable def awOps0 : Array Oper := ((Try.f14.body).bind (findRegion 0)).getD #[]
def awEs0 : List Kd := [
  .val (.bool false)]
def awE0 (i : Nat) : Kd := (awEs0[i]?).getD .any
def awD0 (i : Nat) : Nat := (([0] : List Nat)[i]?).getD (1000 + i)
def awB0 (t : Nat) : Option Kd := if t < 0 then awakeBase t else none
theorem aw0_0 {Q : Exit → Act → World → Prop} : Step Try.prog awOps0 Q awE0 awD0 awB0 200 0 := step_assign (by kernel_rfl) (Opd.const _) rfl
set_option maxHeartbeats 1000000 in
theorem aw0_region {Q : Exit → Act → World → Prop} {a : Act} {w : World} (hsize : a.tmps.size = 200) (hdef : a.defers = []) (hbase : ∀ t kd, awB0 t = some kd → kd.R (a.tmps.getD t undef) w)
    (hQ : ∀ a' w', a'.tmps.size = 200 → a'.defers = [] → Below w.heap.size w w' → (∀ t kd, (if t < 1 then awakeBase t else none) = some kd → kd.R (a'.tmps.getD t undef) w') → Q .normal a' w') : (Code.region 0 awOps0 false).wp Try.prog Q a w := by
  refine region_seq (w0 := w) 1 (by kernel_rfl) ?_
  rw [show List.range 1 = [0] from rfl]
  have st : Sq awE0 awD0 awB0 200 w 0 a w := ⟨hsize, hdef, Below.refl _ _, hbase, fun j hj => absurd hj (by omega)⟩
  clear hsize hdef hbase
  refine seq_one aw0_0 (by kernel_rfl) st ?_
  clear st
  intro a w st
  refine hQ a w st.size st.defers st.world fun t kd h => ?_
  by_cases ht : t < 0
  · refine st.base t kd ?_
    rw [if_pos (by omega)] at h
    show (if t < 0 then awakeBase t else none) = some kd
    rw [if_pos ht]
    exact h
  · have ht1 : t < 1 := by
      by_cases h1 : t < 1
      · exact h1
      · rw [if_neg h1] at h; cases h
    have ht2 : t = 0 := by omega
    subst ht2
    · cases h

noncomputable def awOps1 : Array Oper := ((Try.f14.body).bind (findRegion 1)).getD #[]
def awEs1 : List Kd := [
  .term (0, 5, ByteArray.empty) .nil,
  .term (0, 2, ByteArray.empty) .nil,
  .term (0, 5, ByteArray.empty) .nil,
  .row (.node (0, 2, ByteArray.empty) .nil (.node (0, 5, ByteArray.empty) .nil .nil)),
  .term (3, 0, ⟨#[103]⟩) (.node (0, 2, ByteArray.empty) .nil (.node (0, 5, ByteArray.empty) .nil .nil)),
  .row (.node (0, 5, ByteArray.empty) .nil (.node (3, 0, ⟨#[103]⟩) (.node (0, 2, ByteArray.empty) .nil (.node (0, 5, ByteArray.empty) .nil .nil)) .nil)),
  .term (3, 0, ⟨#[102]⟩) (.node (0, 5, ByteArray.empty) .nil (.node (3, 0, ⟨#[103]⟩) (.node (0, 2, ByteArray.empty) .nil (.node (0, 5, ByteArray.empty) .nil .nil)) .nil)),
  .ptrT (3, 0, ⟨#[102]⟩) (.node (0, 5, ByteArray.empty) .nil (.node (3, 0, ⟨#[103]⟩) (.node (0, 2, ByteArray.empty) .nil (.node (0, 5, ByteArray.empty) .nil .nil)) .nil)),
  .any]
def awE1 (i : Nat) : Kd := (awEs1[i]?).getD .any
def awD1 (i : Nat) : Nat := (([14, 15, 16, 17, 18, 19, 20, 1, 1008] : List Nat)[i]?).getD (1000 + i)
def awB1 (t : Nat) : Option Kd := if t < 1 then awakeBase t else none
theorem aw1_0 {Q : Exit → Act → World → Prop} : Step Try.prog awOps1 Q awE1 awD1 awB1 200 0 := step_x (n := 5) (by kernel_rfl) rfl
theorem aw1_1 {Q : Exit → Act → World → Prop} : Step Try.prog awOps1 Q awE1 awD1 awB1 200 1 := step_x (n := 2) (by kernel_rfl) rfl
theorem aw1_2 {Q : Exit → Act → World → Prop} : Step Try.prog awOps1 Q awE1 awD1 awB1 200 2 := step_x (n := 5) (by kernel_rfl) rfl
theorem aw1_3 {Q : Exit → Act → World → Prop} : Step Try.prog awOps1 Q awE1 awD1 awB1 200 3 := step_slice2 (by kernel_rfl) (Opd.dep 1 rfl rfl (by kernel_rfl)) (Opd.dep 2 rfl rfl (by kernel_rfl)) rfl
theorem aw1_4 {Q : Exit → Act → World → Prop} : Step Try.prog awOps1 Q awE1 awD1 awB1 200 4 := step_f (s := ⟨#[103]⟩) (by kernel_rfl) (Opd.dep 3 rfl rfl (by kernel_rfl)) rfl
theorem aw1_5 {Q : Exit → Act → World → Prop} : Step Try.prog awOps1 Q awE1 awD1 awB1 200 5 := step_slice2 (by kernel_rfl) (Opd.dep 0 rfl rfl (by kernel_rfl)) (Opd.dep 4 rfl rfl (by kernel_rfl)) rfl
theorem aw1_6 {Q : Exit → Act → World → Prop} : Step Try.prog awOps1 Q awE1 awD1 awB1 200 6 := step_f (s := ⟨#[102]⟩) (by kernel_rfl) (Opd.dep 5 rfl rfl (by kernel_rfl)) rfl
set_option maxHeartbeats 1000000 in
theorem aw1_region {Q : Exit → Act → World → Prop} {a : Act} {w : World} (hsize : a.tmps.size = 200) (hdef : a.defers = []) (hbase : ∀ t kd, awB1 t = some kd → kd.R (a.tmps.getD t undef) w)
    (hQ : ∀ a' w', a'.tmps.size = 200 → a'.defers = [] → Below w.heap.size w w' → (∀ t kd, (if t < 2 then awakeBase t else none) = some kd → kd.R (a'.tmps.getD t undef) w') → Q .normal a' w') : (Code.region 1 awOps1 false).wp Try.prog Q a w := by
  refine region_seq (w0 := w) 9 (by kernel_rfl) ?_
  rw [show List.range 9 = [0, 1, 2, 3, 4, 5, 6, 7, 8] from rfl]
  have st : Sq awE1 awD1 awB1 200 w 0 a w := ⟨hsize, hdef, Below.refl _ _, hbase, fun j hj => absurd hj (by omega)⟩
  clear hsize hdef hbase
  refine seq_one aw1_0 (by kernel_rfl) st ?_
  clear st
  intro a w st
  refine seq_one aw1_1 (by kernel_rfl) st ?_
  clear st
  intro a w st
  refine seq_one aw1_2 (by kernel_rfl) st ?_
  clear st
  intro a w st
  refine seq_one aw1_3 (by kernel_rfl) st ?_
  clear st
  intro a w st
  refine seq_one aw1_4 (by kernel_rfl) st ?_
  clear st
  intro a w st
  refine seq_one aw1_5 (by kernel_rfl) st ?_
  clear st
  intro a w st
  refine seq_one aw1_6 (by kernel_rfl) st ?_
  clear st
  intro a w st
  refine seq_box (j := 6) (by kernel_rfl) (by kernel_rfl) (by kernel_rfl) (by omega) rfl rfl rfl st ?_
  clear st
  intro a w st
  refine hQ a w st.size st.defers st.world fun t kd h => ?_
  by_cases ht : t < 1
  · refine st.base t kd ?_
    rw [if_pos (by omega)] at h
    show (if t < 1 then awakeBase t else none) = some kd
    rw [if_pos ht]
    exact h
  · have ht1 : t < 2 := by
      by_cases h1 : t < 2
      · exact h1
      · rw [if_neg h1] at h; cases h
    have ht2 : t = 1 := by omega
    subst ht2
    · exact (Option.some.inj (show some (awE1 7) = some kd from h)) ▸ st.done 7 (by omega)

noncomputable def awOps2 : Array Oper := ((Try.f14.body).bind (findRegion 2)).getD #[]
def awEs2 : List Kd := [
  .term (3, 0, ⟨#[102]⟩) (.node (0, 5, ByteArray.empty) .nil (.node (3, 0, ⟨#[103]⟩) (.node (0, 2, ByteArray.empty) .nil (.node (0, 5, ByteArray.empty) .nil .nil)) .nil)),
  .ints [5, 2],
  .ints [5, 2]]
def awE2 (i : Nat) : Kd := (awEs2[i]?).getD .any
def awD2 (i : Nat) : Nat := (([21, 22, 2] : List Nat)[i]?).getD (1000 + i)
def awB2 (t : Nat) : Option Kd := if t < 2 then awakeBase t else none
theorem aw2_0 {Q : Exit → Act → World → Prop} : Step Try.prog awOps2 Q awE2 awD2 awB2 200 0 := step_load_term (by kernel_rfl) (Opd.of_base 1 rfl) rfl
theorem aw2_1 {Q : Exit → Act → World → Prop} : Step Try.prog awOps2 Q awE2 awD2 awB2 200 1 := step_vars (by kernel_rfl) (Opd.dep 0 rfl rfl (by kernel_rfl)) (by kernel_rfl) rfl
theorem aw2_2 {Q : Exit → Act → World → Prop} : Step Try.prog awOps2 Q awE2 awD2 awB2 200 2 := step_assign (by kernel_rfl) (Opd.dep 1 rfl rfl (by kernel_rfl)) rfl
set_option maxHeartbeats 1000000 in
theorem aw2_region {Q : Exit → Act → World → Prop} {a : Act} {w : World} (hsize : a.tmps.size = 200) (hdef : a.defers = []) (hbase : ∀ t kd, awB2 t = some kd → kd.R (a.tmps.getD t undef) w)
    (hQ : ∀ a' w', a'.tmps.size = 200 → a'.defers = [] → Below w.heap.size w w' → (∀ t kd, (if t < 3 then awakeBase t else none) = some kd → kd.R (a'.tmps.getD t undef) w') → Q .normal a' w') : (Code.region 2 awOps2 false).wp Try.prog Q a w := by
  refine region_seq (w0 := w) 3 (by kernel_rfl) ?_
  rw [show List.range 3 = [0, 1, 2] from rfl]
  have st : Sq awE2 awD2 awB2 200 w 0 a w := ⟨hsize, hdef, Below.refl _ _, hbase, fun j hj => absurd hj (by omega)⟩
  clear hsize hdef hbase
  refine seq_one aw2_0 (by kernel_rfl) st ?_
  clear st
  intro a w st
  refine seq_one aw2_1 (by kernel_rfl) st ?_
  clear st
  intro a w st
  refine seq_one aw2_2 (by kernel_rfl) st ?_
  clear st
  intro a w st
  refine hQ a w st.size st.defers st.world fun t kd h => ?_
  by_cases ht : t < 2
  · refine st.base t kd ?_
    rw [if_pos (by omega)] at h
    show (if t < 2 then awakeBase t else none) = some kd
    rw [if_pos ht]
    exact h
  · have ht1 : t < 3 := by
      by_cases h1 : t < 3
      · exact h1
      · rw [if_neg h1] at h; cases h
    have ht2 : t = 2 := by omega
    subst ht2
    · exact (Option.some.inj (show some (awE2 2) = some kd from h)) ▸ st.done 2 (by omega)

noncomputable def awOps3 : Array Oper := ((Try.f14.body).bind (findRegion 3)).getD #[]
def awEs3 : List Kd := [
  .term (0, 0, ByteArray.empty) .nil,
  .term (0, 1, ByteArray.empty) .nil,
  .row (.node (0, 0, ByteArray.empty) .nil (.node (0, 1, ByteArray.empty) .nil .nil)),
  .term (3, 0, ⟨#[102]⟩) (.node (0, 0, ByteArray.empty) .nil (.node (0, 1, ByteArray.empty) .nil .nil)),
  .pair (3, 0, ⟨#[102]⟩) (.node (0, 10, ByteArray.empty) .nil (.node (0, 11, ByteArray.empty) .nil .nil)) 0,
  .pair (3, 0, ⟨#[102]⟩) (.node (0, 10, ByteArray.empty) .nil (.node (0, 11, ByteArray.empty) .nil .nil)) 0,
  .term (3, 0, ⟨#[102]⟩) (.node (0, 10, ByteArray.empty) .nil (.node (0, 11, ByteArray.empty) .nil .nil)),
  .val (.int .i64 0),
  .ptrT (3, 0, ⟨#[102]⟩) (.node (0, 10, ByteArray.empty) .nil (.node (0, 11, ByteArray.empty) .nil .nil)),
  .any,
  .val (.int .i64 0)]
def awE3 (i : Nat) : Kd := (awEs3[i]?).getD .any
def awD3 (i : Nat) : Nat := (([24, 25, 26, 27, 28, 23, 29, 30, 3, 1009, 4] : List Nat)[i]?).getD (1000 + i)
def awB3 (t : Nat) : Option Kd := if t < 3 then awakeBase t else none
theorem aw3_0 {Q : Exit → Act → World → Prop} : Step Try.prog awOps3 Q awE3 awD3 awB3 200 0 := step_x (n := 0) (by kernel_rfl) rfl
theorem aw3_1 {Q : Exit → Act → World → Prop} : Step Try.prog awOps3 Q awE3 awD3 awB3 200 1 := step_x (n := 1) (by kernel_rfl) rfl
theorem aw3_2 {Q : Exit → Act → World → Prop} : Step Try.prog awOps3 Q awE3 awD3 awB3 200 2 := step_slice2 (by kernel_rfl) (Opd.dep 0 rfl rfl (by kernel_rfl)) (Opd.dep 1 rfl rfl (by kernel_rfl)) rfl
theorem aw3_3 {Q : Exit → Act → World → Prop} : Step Try.prog awOps3 Q awE3 awD3 awB3 200 3 := step_f (s := ⟨#[102]⟩) (by kernel_rfl) (Opd.dep 2 rfl rfl (by kernel_rfl)) rfl
theorem aw3_4 {Q : Exit → Act → World → Prop} : Step Try.prog awOps3 Q awE3 awD3 awB3 200 4 := step_rename (d := 10) (by kernel_rfl) (Opd.dep 3 rfl rfl (by kernel_rfl)) (by kernel_rfl) rfl
theorem aw3_5 {Q : Exit → Act → World → Prop} : Step Try.prog awOps3 Q awE3 awD3 awB3 200 5 := step_move (by kernel_rfl) (Opd.dep 4 rfl rfl (by kernel_rfl)) rfl
theorem aw3_6 {Q : Exit → Act → World → Prop} : Step Try.prog awOps3 Q awE3 awD3 awB3 200 6 := step_pair0 (by kernel_rfl) (Opd.dep 5 rfl rfl (by kernel_rfl)) rfl
theorem aw3_7 {Q : Exit → Act → World → Prop} : Step Try.prog awOps3 Q awE3 awD3 awB3 200 7 := step_pair1 (by kernel_rfl) (Opd.dep 5 rfl rfl (by kernel_rfl)) rfl
theorem aw3_10 {Q : Exit → Act → World → Prop} : Step Try.prog awOps3 Q awE3 awD3 awB3 200 10 := step_assign (by kernel_rfl) (Opd.dep 7 rfl rfl (by kernel_rfl)) rfl
set_option maxHeartbeats 1000000 in
theorem aw3_region {Q : Exit → Act → World → Prop} {a : Act} {w : World} (hsize : a.tmps.size = 200) (hdef : a.defers = []) (hbase : ∀ t kd, awB3 t = some kd → kd.R (a.tmps.getD t undef) w)
    (hQ : ∀ a' w', a'.tmps.size = 200 → a'.defers = [] → Below w.heap.size w w' → (∀ t kd, (if t < 5 then awakeBase t else none) = some kd → kd.R (a'.tmps.getD t undef) w') → Q .normal a' w') : (Code.region 3 awOps3 false).wp Try.prog Q a w := by
  refine region_seq (w0 := w) 11 (by kernel_rfl) ?_
  rw [show List.range 11 = [0, 1, 2, 3, 4, 5, 6, 7, 8, 9, 10] from rfl]
  have st : Sq awE3 awD3 awB3 200 w 0 a w := ⟨hsize, hdef, Below.refl _ _, hbase, fun j hj => absurd hj (by omega)⟩
  clear hsize hdef hbase
  refine seq_one aw3_0 (by kernel_rfl) st ?_
  clear st
  intro a w st
  refine seq_one aw3_1 (by kernel_rfl) st ?_
  clear st
  intro a w st
  refine seq_one aw3_2 (by kernel_rfl) st ?_
  clear st
  intro a w st
  refine seq_one aw3_3 (by kernel_rfl) st ?_
  clear st
  intro a w st
  refine seq_one aw3_4 (by kernel_rfl) st ?_
  clear st
  intro a w st
  refine seq_one aw3_5 (by kernel_rfl) st ?_
  clear st
  intro a w st
  refine seq_one aw3_6 (by kernel_rfl) st ?_
  clear st
  intro a w st
  refine seq_one aw3_7 (by kernel_rfl) st ?_
  clear st
  intro a w st
  refine seq_box (j := 6) (by kernel_rfl) (by kernel_rfl) (by kernel_rfl) (by omega) rfl rfl rfl st ?_
  clear st
  intro a w st
  refine seq_one aw3_10 (by kernel_rfl) st ?_
  clear st
  intro a w st
  refine hQ a w st.size st.defers st.world fun t kd h => ?_
  by_cases ht : t < 3
  · refine st.base t kd ?_
    rw [if_pos (by omega)] at h
    show (if t < 3 then awakeBase t else none) = some kd
    rw [if_pos ht]
    exact h
  · have ht1 : t < 5 := by
      by_cases h1 : t < 5
      · exact h1
      · rw [if_neg h1] at h; cases h
    have ht2 : t = 3 ∨ t = 4 := by omega
    rcases ht2 with rfl | rfl
    · exact (Option.some.inj (show some (awE3 8) = some kd from h)) ▸ st.done 8 (by omega)
    · exact (Option.some.inj (show some (awE3 10) = some kd from h)) ▸ st.done 10 (by omega)

noncomputable def awOps4 : Array Oper := ((Try.f14.body).bind (findRegion 4)).getD #[]
def awEs4 : List Kd := [
  .term (0, 0, ByteArray.empty) .nil,
  .pair (0, 0, ByteArray.empty) .nil 1,
  .pair (0, 0, ByteArray.empty) .nil 1,
  .term (0, 0, ByteArray.empty) .nil,
  .val (.int .i64 1),
  .ptrT (0, 0, ByteArray.empty) .nil,
  .any,
  .val (.int .i64 1)]
def awE4 (i : Nat) : Kd := (awEs4[i]?).getD .any
def awD4 (i : Nat) : Nat := (([32, 33, 31, 34, 35, 5, 1006, 6] : List Nat)[i]?).getD (1000 + i)
def awB4 (t : Nat) : Option Kd := if t < 5 then awakeBase t else none
theorem aw4_0 {Q : Exit → Act → World → Prop} : Step Try.prog awOps4 Q awE4 awD4 awB4 200 0 := step_x (n := 0) (by kernel_rfl) rfl
theorem aw4_1 {Q : Exit → Act → World → Prop} : Step Try.prog awOps4 Q awE4 awD4 awB4 200 1 := step_rename (d := -1) (by kernel_rfl) (Opd.dep 0 rfl rfl (by kernel_rfl)) (by kernel_rfl) rfl
theorem aw4_2 {Q : Exit → Act → World → Prop} : Step Try.prog awOps4 Q awE4 awD4 awB4 200 2 := step_move (by kernel_rfl) (Opd.dep 1 rfl rfl (by kernel_rfl)) rfl
theorem aw4_3 {Q : Exit → Act → World → Prop} : Step Try.prog awOps4 Q awE4 awD4 awB4 200 3 := step_pair0 (by kernel_rfl) (Opd.dep 2 rfl rfl (by kernel_rfl)) rfl
theorem aw4_4 {Q : Exit → Act → World → Prop} : Step Try.prog awOps4 Q awE4 awD4 awB4 200 4 := step_pair1 (by kernel_rfl) (Opd.dep 2 rfl rfl (by kernel_rfl)) rfl
theorem aw4_7 {Q : Exit → Act → World → Prop} : Step Try.prog awOps4 Q awE4 awD4 awB4 200 7 := step_assign (by kernel_rfl) (Opd.dep 4 rfl rfl (by kernel_rfl)) rfl
set_option maxHeartbeats 1000000 in
theorem aw4_region {Q : Exit → Act → World → Prop} {a : Act} {w : World} (hsize : a.tmps.size = 200) (hdef : a.defers = []) (hbase : ∀ t kd, awB4 t = some kd → kd.R (a.tmps.getD t undef) w)
    (hQ : ∀ a' w', a'.tmps.size = 200 → a'.defers = [] → Below w.heap.size w w' → (∀ t kd, (if t < 7 then awakeBase t else none) = some kd → kd.R (a'.tmps.getD t undef) w') → Q .normal a' w') : (Code.region 4 awOps4 false).wp Try.prog Q a w := by
  refine region_seq (w0 := w) 8 (by kernel_rfl) ?_
  rw [show List.range 8 = [0, 1, 2, 3, 4, 5, 6, 7] from rfl]
  have st : Sq awE4 awD4 awB4 200 w 0 a w := ⟨hsize, hdef, Below.refl _ _, hbase, fun j hj => absurd hj (by omega)⟩
  clear hsize hdef hbase
  refine seq_one aw4_0 (by kernel_rfl) st ?_
  clear st
  intro a w st
  refine seq_one aw4_1 (by kernel_rfl) st ?_
  clear st
  intro a w st
  refine seq_one aw4_2 (by kernel_rfl) st ?_
  clear st
  intro a w st
  refine seq_one aw4_3 (by kernel_rfl) st ?_
  clear st
  intro a w st
  refine seq_one aw4_4 (by kernel_rfl) st ?_
  clear st
  intro a w st
  refine seq_box (j := 3) (by kernel_rfl) (by kernel_rfl) (by kernel_rfl) (by omega) rfl rfl rfl st ?_
  clear st
  intro a w st
  refine seq_one aw4_7 (by kernel_rfl) st ?_
  clear st
  intro a w st
  refine hQ a w st.size st.defers st.world fun t kd h => ?_
  by_cases ht : t < 5
  · refine st.base t kd ?_
    rw [if_pos (by omega)] at h
    show (if t < 5 then awakeBase t else none) = some kd
    rw [if_pos ht]
    exact h
  · have ht1 : t < 7 := by
      by_cases h1 : t < 7
      · exact h1
      · rw [if_neg h1] at h; cases h
    have ht2 : t = 5 ∨ t = 6 := by omega
    rcases ht2 with rfl | rfl
    · cases h
    · exact (Option.some.inj (show some (awE4 7) = some kd from h)) ▸ st.done 7 (by omega)

noncomputable def awOps5 : Array Oper := ((Try.f14.body).bind (findRegion 5)).getD #[]
def awEs5 : List Kd := [
  .term (0, 1, ByteArray.empty) .nil,
  .pair (0, 0, ByteArray.empty) .nil 2,
  .pair (0, 0, ByteArray.empty) .nil 2,
  .term (0, 0, ByteArray.empty) .nil,
  .val (.int .i64 2),
  .ptrT (0, 0, ByteArray.empty) .nil,
  .any,
  .val (.int .i64 2)]
def awE5 (i : Nat) : Kd := (awEs5[i]?).getD .any
def awD5 (i : Nat) : Nat := (([37, 38, 36, 39, 40, 7, 1006, 8] : List Nat)[i]?).getD (1000 + i)
def awB5 (t : Nat) : Option Kd := if t < 7 then awakeBase t else none
theorem aw5_0 {Q : Exit → Act → World → Prop} : Step Try.prog awOps5 Q awE5 awD5 awB5 200 0 := step_x (n := 1) (by kernel_rfl) rfl
theorem aw5_1 {Q : Exit → Act → World → Prop} : Step Try.prog awOps5 Q awE5 awD5 awB5 200 1 := step_rename (d := 1099511627776) (by kernel_rfl) (Opd.dep 0 rfl rfl (by kernel_rfl)) (by kernel_rfl) rfl
theorem aw5_2 {Q : Exit → Act → World → Prop} : Step Try.prog awOps5 Q awE5 awD5 awB5 200 2 := step_move (by kernel_rfl) (Opd.dep 1 rfl rfl (by kernel_rfl)) rfl
theorem aw5_3 {Q : Exit → Act → World → Prop} : Step Try.prog awOps5 Q awE5 awD5 awB5 200 3 := step_pair0 (by kernel_rfl) (Opd.dep 2 rfl rfl (by kernel_rfl)) rfl
theorem aw5_4 {Q : Exit → Act → World → Prop} : Step Try.prog awOps5 Q awE5 awD5 awB5 200 4 := step_pair1 (by kernel_rfl) (Opd.dep 2 rfl rfl (by kernel_rfl)) rfl
theorem aw5_7 {Q : Exit → Act → World → Prop} : Step Try.prog awOps5 Q awE5 awD5 awB5 200 7 := step_assign (by kernel_rfl) (Opd.dep 4 rfl rfl (by kernel_rfl)) rfl
set_option maxHeartbeats 1000000 in
theorem aw5_region {Q : Exit → Act → World → Prop} {a : Act} {w : World} (hsize : a.tmps.size = 200) (hdef : a.defers = []) (hbase : ∀ t kd, awB5 t = some kd → kd.R (a.tmps.getD t undef) w)
    (hQ : ∀ a' w', a'.tmps.size = 200 → a'.defers = [] → Below w.heap.size w w' → (∀ t kd, (if t < 9 then awakeBase t else none) = some kd → kd.R (a'.tmps.getD t undef) w') → Q .normal a' w') : (Code.region 5 awOps5 false).wp Try.prog Q a w := by
  refine region_seq (w0 := w) 8 (by kernel_rfl) ?_
  rw [show List.range 8 = [0, 1, 2, 3, 4, 5, 6, 7] from rfl]
  have st : Sq awE5 awD5 awB5 200 w 0 a w := ⟨hsize, hdef, Below.refl _ _, hbase, fun j hj => absurd hj (by omega)⟩
  clear hsize hdef hbase
  refine seq_one aw5_0 (by kernel_rfl) st ?_
  clear st
  intro a w st
  refine seq_one aw5_1 (by kernel_rfl) st ?_
  clear st
  intro a w st
  refine seq_one aw5_2 (by kernel_rfl) st ?_
  clear st
  intro a w st
  refine seq_one aw5_3 (by kernel_rfl) st ?_
  clear st
  intro a w st
  refine seq_one aw5_4 (by kernel_rfl) st ?_
  clear st
  intro a w st
  refine seq_box (j := 3) (by kernel_rfl) (by kernel_rfl) (by kernel_rfl) (by omega) rfl rfl rfl st ?_
  clear st
  intro a w st
  refine seq_one aw5_7 (by kernel_rfl) st ?_
  clear st
  intro a w st
  refine hQ a w st.size st.defers st.world fun t kd h => ?_
  by_cases ht : t < 7
  · refine st.base t kd ?_
    rw [if_pos (by omega)] at h
    show (if t < 7 then awakeBase t else none) = some kd
    rw [if_pos ht]
    exact h
  · have ht1 : t < 9 := by
      by_cases h1 : t < 9
      · exact h1
      · rw [if_neg h1] at h; cases h
    have ht2 : t = 7 ∨ t = 8 := by omega
    rcases ht2 with rfl | rfl
    · cases h
    · exact (Option.some.inj (show some (awE5 7) = some kd from h)) ▸ st.done 7 (by omega)

noncomputable def awOps6 : Array Oper := ((Try.f14.body).bind (findRegion 6)).getD #[]
def awEs6 : List Kd := [
  .term (0, 0, ByteArray.empty) .nil,
  .term (0, 1, ByteArray.empty) .nil,
  .row (.node (0, 0, ByteArray.empty) .nil (.node (0, 1, ByteArray.empty) .nil .nil)),
  .term (3, 0, ⟨#[102]⟩) (.node (0, 0, ByteArray.empty) .nil (.node (0, 1, ByteArray.empty) .nil .nil)),
  .term (0, 0, ByteArray.empty) .nil,
  .row (.node (0, 0, ByteArray.empty) .nil .nil),
  .term (3, 0, ⟨#[103]⟩) (.node (0, 0, ByteArray.empty) .nil .nil),
  .pair (3, 0, ⟨#[102]⟩) (.node (3, 0, ⟨#[103]⟩) (.node (0, 0, ByteArray.empty) .nil .nil) (.node (0, 1, ByteArray.empty) .nil .nil)) 0,
  .pair (3, 0, ⟨#[102]⟩) (.node (3, 0, ⟨#[103]⟩) (.node (0, 0, ByteArray.empty) .nil .nil) (.node (0, 1, ByteArray.empty) .nil .nil)) 0,
  .term (3, 0, ⟨#[102]⟩) (.node (3, 0, ⟨#[103]⟩) (.node (0, 0, ByteArray.empty) .nil .nil) (.node (0, 1, ByteArray.empty) .nil .nil)),
  .val (.int .i64 0),
  .ptrT (3, 0, ⟨#[102]⟩) (.node (3, 0, ⟨#[103]⟩) (.node (0, 0, ByteArray.empty) .nil .nil) (.node (0, 1, ByteArray.empty) .nil .nil)),
  .any,
  .val (.int .i64 0)]
def awE6 (i : Nat) : Kd := (awEs6[i]?).getD .any
def awD6 (i : Nat) : Nat := (([42, 43, 44, 45, 46, 47, 48, 49, 41, 50, 51, 9, 1012, 10] : List Nat)[i]?).getD (1000 + i)
def awB6 (t : Nat) : Option Kd := if t < 9 then awakeBase t else none
theorem aw6_0 {Q : Exit → Act → World → Prop} : Step Try.prog awOps6 Q awE6 awD6 awB6 200 0 := step_x (n := 0) (by kernel_rfl) rfl
theorem aw6_1 {Q : Exit → Act → World → Prop} : Step Try.prog awOps6 Q awE6 awD6 awB6 200 1 := step_x (n := 1) (by kernel_rfl) rfl
theorem aw6_2 {Q : Exit → Act → World → Prop} : Step Try.prog awOps6 Q awE6 awD6 awB6 200 2 := step_slice2 (by kernel_rfl) (Opd.dep 0 rfl rfl (by kernel_rfl)) (Opd.dep 1 rfl rfl (by kernel_rfl)) rfl
theorem aw6_3 {Q : Exit → Act → World → Prop} : Step Try.prog awOps6 Q awE6 awD6 awB6 200 3 := step_f (s := ⟨#[102]⟩) (by kernel_rfl) (Opd.dep 2 rfl rfl (by kernel_rfl)) rfl
theorem aw6_4 {Q : Exit → Act → World → Prop} : Step Try.prog awOps6 Q awE6 awD6 awB6 200 4 := step_x (n := 0) (by kernel_rfl) rfl
theorem aw6_5 {Q : Exit → Act → World → Prop} : Step Try.prog awOps6 Q awE6 awD6 awB6 200 5 := step_slice1 (by kernel_rfl) (Opd.dep 4 rfl rfl (by kernel_rfl)) rfl
theorem aw6_6 {Q : Exit → Act → World → Prop} : Step Try.prog awOps6 Q awE6 awD6 awB6 200 6 := step_f (s := ⟨#[103]⟩) (by kernel_rfl) (Opd.dep 5 rfl rfl (by kernel_rfl)) rfl
theorem aw6_7 {Q : Exit → Act → World → Prop} : Step Try.prog awOps6 Q awE6 awD6 awB6 200 7 := step_replace (v := 0) (by kernel_rfl) (Opd.dep 3 rfl rfl (by kernel_rfl)) (Opd.dep 6 rfl rfl (by kernel_rfl)) (by kernel_rfl) rfl
theorem aw6_8 {Q : Exit → Act → World → Prop} : Step Try.prog awOps6 Q awE6 awD6 awB6 200 8 := step_move (by kernel_rfl) (Opd.dep 7 rfl rfl (by kernel_rfl)) rfl
theorem aw6_9 {Q : Exit → Act → World → Prop} : Step Try.prog awOps6 Q awE6 awD6 awB6 200 9 := step_pair0 (by kernel_rfl) (Opd.dep 8 rfl rfl (by kernel_rfl)) rfl
theorem aw6_10 {Q : Exit → Act → World → Prop} : Step Try.prog awOps6 Q awE6 awD6 awB6 200 10 := step_pair1 (by kernel_rfl) (Opd.dep 8 rfl rfl (by kernel_rfl)) rfl
theorem aw6_13 {Q : Exit → Act → World → Prop} : Step Try.prog awOps6 Q awE6 awD6 awB6 200 13 := step_assign (by kernel_rfl) (Opd.dep 10 rfl rfl (by kernel_rfl)) rfl
set_option maxHeartbeats 1000000 in
theorem aw6_region {Q : Exit → Act → World → Prop} {a : Act} {w : World} (hsize : a.tmps.size = 200) (hdef : a.defers = []) (hbase : ∀ t kd, awB6 t = some kd → kd.R (a.tmps.getD t undef) w)
    (hQ : ∀ a' w', a'.tmps.size = 200 → a'.defers = [] → Below w.heap.size w w' → (∀ t kd, (if t < 11 then awakeBase t else none) = some kd → kd.R (a'.tmps.getD t undef) w') → Q .normal a' w') : (Code.region 6 awOps6 false).wp Try.prog Q a w := by
  refine region_seq (w0 := w) 14 (by kernel_rfl) ?_
  rw [show List.range 14 = [0, 1, 2, 3, 4, 5, 6, 7, 8, 9, 10, 11, 12, 13] from rfl]
  have st : Sq awE6 awD6 awB6 200 w 0 a w := ⟨hsize, hdef, Below.refl _ _, hbase, fun j hj => absurd hj (by omega)⟩
  clear hsize hdef hbase
  refine seq_one aw6_0 (by kernel_rfl) st ?_
  clear st
  intro a w st
  refine seq_one aw6_1 (by kernel_rfl) st ?_
  clear st
  intro a w st
  refine seq_one aw6_2 (by kernel_rfl) st ?_
  clear st
  intro a w st
  refine seq_one aw6_3 (by kernel_rfl) st ?_
  clear st
  intro a w st
  refine seq_one aw6_4 (by kernel_rfl) st ?_
  clear st
  intro a w st
  refine seq_one aw6_5 (by kernel_rfl) st ?_
  clear st
  intro a w st
  refine seq_one aw6_6 (by kernel_rfl) st ?_
  clear st
  intro a w st
  refine seq_one aw6_7 (by kernel_rfl) st ?_
  clear st
  intro a w st
  refine seq_one aw6_8 (by kernel_rfl) st ?_
  clear st
  intro a w st
  refine seq_one aw6_9 (by kernel_rfl) st ?_
  clear st
  intro a w st
  refine seq_one aw6_10 (by kernel_rfl) st ?_
  clear st
  intro a w st
  refine seq_box (j := 9) (by kernel_rfl) (by kernel_rfl) (by kernel_rfl) (by omega) rfl rfl rfl st ?_
  clear st
  intro a w st
  refine seq_one aw6_13 (by kernel_rfl) st ?_
  clear st
  intro a w st
  refine hQ a w st.size st.defers st.world fun t kd h => ?_
  by_cases ht : t < 9
  · refine st.base t kd ?_
    rw [if_pos (by omega)] at h
    show (if t < 9 then awakeBase t else none) = some kd
    rw [if_pos ht]
    exact h
  · have ht1 : t < 11 := by
      by_cases h1 : t < 11
      · exact h1
      · rw [if_neg h1] at h; cases h
    have ht2 : t = 9 ∨ t = 10 := by omega
    rcases ht2 with rfl | rfl
    · exact (Option.some.inj (show some (awE6 11) = some kd from h)) ▸ st.done 11 (by omega)
    · exact (Option.some.inj (show some (awE6 13) = some kd from h)) ▸ st.done 13 (by omega)

noncomputable def awOps7 : Array Oper := ((Try.f14.body).bind (findRegion 7)).getD #[]
def awEs7 : List Kd := [
  .term (2, 0, ⟨#[97]⟩) .nil,
  .term (2, 0, ⟨#[98]⟩) .nil,
  .row (.node (2, 0, ⟨#[97]⟩) .nil (.node (2, 0, ⟨#[98]⟩) .nil .nil)),
  .term (2, 0, ⟨#[91, 93]⟩) .nil,
  .term (3, 0, ⟨#[46]⟩) (.node (2, 0, ⟨#[97]⟩) .nil (.node (3, 0, ⟨#[46]⟩) (.node (2, 0, ⟨#[98]⟩) .nil (.node (2, 0, ⟨#[91, 93]⟩) .nil .nil)) .nil)),
  .ptrT (3, 0, ⟨#[46]⟩) (.node (2, 0, ⟨#[97]⟩) .nil (.node (3, 0, ⟨#[46]⟩) (.node (2, 0, ⟨#[98]⟩) .nil (.node (2, 0, ⟨#[91, 93]⟩) .nil .nil)) .nil)),
  .any]
def awE7 (i : Nat) : Kd := (awEs7[i]?).getD .any
def awD7 (i : Nat) : Nat := (([52, 53, 54, 55, 56, 11, 1006] : List Nat)[i]?).getD (1000 + i)
def awB7 (t : Nat) : Option Kd := if t < 11 then awakeBase t else none
theorem aw7_0 {Q : Exit → Act → World → Prop} : Step Try.prog awOps7 Q awE7 awD7 awB7 200 0 := step_a (s := ⟨#[97]⟩) (by kernel_rfl) rfl
theorem aw7_1 {Q : Exit → Act → World → Prop} : Step Try.prog awOps7 Q awE7 awD7 awB7 200 1 := step_a (s := ⟨#[98]⟩) (by kernel_rfl) rfl
theorem aw7_2 {Q : Exit → Act → World → Prop} : Step Try.prog awOps7 Q awE7 awD7 awB7 200 2 := step_slice2 (by kernel_rfl) (Opd.dep 0 rfl rfl (by kernel_rfl)) (Opd.dep 1 rfl rfl (by kernel_rfl)) rfl
theorem aw7_3 {Q : Exit → Act → World → Prop} : Step Try.prog awOps7 Q awE7 awD7 awB7 200 3 := step_a (s := ⟨#[91, 93]⟩) (by kernel_rfl) rfl
theorem aw7_4 {Q : Exit → Act → World → Prop} : Step Try.prog awOps7 Q awE7 awD7 awB7 200 4 := step_list (by kernel_rfl) (Opd.dep 2 rfl rfl (by kernel_rfl)) (Opd.dep 3 rfl rfl (by kernel_rfl)) (by kernel_rfl) rfl
set_option maxHeartbeats 1000000 in
theorem aw7_region {Q : Exit → Act → World → Prop} {a : Act} {w : World} (hsize : a.tmps.size = 200) (hdef : a.defers = []) (hbase : ∀ t kd, awB7 t = some kd → kd.R (a.tmps.getD t undef) w)
    (hQ : ∀ a' w', a'.tmps.size = 200 → a'.defers = [] → Below w.heap.size w w' → (∀ t kd, (if t < 12 then awakeBase t else none) = some kd → kd.R (a'.tmps.getD t undef) w') → Q .normal a' w') : (Code.region 7 awOps7 false).wp Try.prog Q a w := by
  refine region_seq (w0 := w) 7 (by kernel_rfl) ?_
  rw [show List.range 7 = [0, 1, 2, 3, 4, 5, 6] from rfl]
  have st : Sq awE7 awD7 awB7 200 w 0 a w := ⟨hsize, hdef, Below.refl _ _, hbase, fun j hj => absurd hj (by omega)⟩
  clear hsize hdef hbase
  refine seq_one aw7_0 (by kernel_rfl) st ?_
  clear st
  intro a w st
  refine seq_one aw7_1 (by kernel_rfl) st ?_
  clear st
  intro a w st
  refine seq_one aw7_2 (by kernel_rfl) st ?_
  clear st
  intro a w st
  refine seq_one aw7_3 (by kernel_rfl) st ?_
  clear st
  intro a w st
  refine seq_one aw7_4 (by kernel_rfl) st ?_
  clear st
  intro a w st
  refine seq_box (j := 4) (by kernel_rfl) (by kernel_rfl) (by kernel_rfl) (by omega) rfl rfl rfl st ?_
  clear st
  intro a w st
  refine hQ a w st.size st.defers st.world fun t kd h => ?_
  by_cases ht : t < 11
  · refine st.base t kd ?_
    rw [if_pos (by omega)] at h
    show (if t < 11 then awakeBase t else none) = some kd
    rw [if_pos ht]
    exact h
  · have ht1 : t < 12 := by
      by_cases h1 : t < 12
      · exact h1
      · rw [if_neg h1] at h; cases h
    have ht2 : t = 11 := by omega
    subst ht2
    · exact (Option.some.inj (show some (awE7 5) = some kd from h)) ▸ st.done 5 (by omega)

noncomputable def awOps8 : Array Oper := ((Try.f14.body).bind (findRegion 8)).getD #[]
def awEs8 : List Kd := [
  .term (3, 0, ⟨#[46]⟩) (.node (2, 0, ⟨#[97]⟩) .nil (.node (3, 0, ⟨#[46]⟩) (.node (2, 0, ⟨#[98]⟩) .nil (.node (2, 0, ⟨#[91, 93]⟩) .nil .nil)) .nil)),
  .rowPair (.node (2, 0, ⟨#[97]⟩) .nil (.node (2, 0, ⟨#[98]⟩) .nil .nil)) (2, 0, ⟨#[91, 93]⟩) .nil,
  .rowPair (.node (2, 0, ⟨#[97]⟩) .nil (.node (2, 0, ⟨#[98]⟩) .nil .nil)) (2, 0, ⟨#[91, 93]⟩) .nil,
  .row (.node (2, 0, ⟨#[97]⟩) .nil (.node (2, 0, ⟨#[98]⟩) .nil .nil)),
  .term (2, 0, ⟨#[91, 93]⟩) .nil,
  .ptrT (2, 0, ⟨#[91, 93]⟩) .nil,
  .row (.node (2, 0, ⟨#[97]⟩) .nil (.node (2, 0, ⟨#[98]⟩) .nil .nil)),
  .any]
def awE8 (i : Nat) : Kd := (awEs8[i]?).getD .any
def awD8 (i : Nat) : Nat := (([58, 59, 57, 60, 61, 13, 12, 1007] : List Nat)[i]?).getD (1000 + i)
def awB8 (t : Nat) : Option Kd := if t < 12 then awakeBase t else none
theorem aw8_0 {Q : Exit → Act → World → Prop} : Step Try.prog awOps8 Q awE8 awD8 awB8 200 0 := step_load_term (by kernel_rfl) (Opd.of_base 11 rfl) rfl
theorem aw8_1 {Q : Exit → Act → World → Prop} : Step Try.prog awOps8 Q awE8 awD8 awB8 200 1 := step_elems (by kernel_rfl) (Opd.dep 0 rfl rfl (by kernel_rfl)) (by kernel_rfl) rfl
theorem aw8_2 {Q : Exit → Act → World → Prop} : Step Try.prog awOps8 Q awE8 awD8 awB8 200 2 := step_move (by kernel_rfl) (Opd.dep 1 rfl rfl (by kernel_rfl)) rfl
theorem aw8_3 {Q : Exit → Act → World → Prop} : Step Try.prog awOps8 Q awE8 awD8 awB8 200 3 := step_rowPair0 (by kernel_rfl) (Opd.dep 2 rfl rfl (by kernel_rfl)) rfl
theorem aw8_4 {Q : Exit → Act → World → Prop} : Step Try.prog awOps8 Q awE8 awD8 awB8 200 4 := step_rowPair1 (by kernel_rfl) (Opd.dep 2 rfl rfl (by kernel_rfl)) rfl
set_option maxHeartbeats 1000000 in
theorem aw8_region {Q : Exit → Act → World → Prop} {a : Act} {w : World} (hsize : a.tmps.size = 200) (hdef : a.defers = []) (hbase : ∀ t kd, awB8 t = some kd → kd.R (a.tmps.getD t undef) w)
    (hQ : ∀ a' w', a'.tmps.size = 200 → a'.defers = [] → Below w.heap.size w w' → (∀ t kd, (if t < 14 then awakeBase t else none) = some kd → kd.R (a'.tmps.getD t undef) w') → Q .normal a' w') : (Code.region 8 awOps8 false).wp Try.prog Q a w := by
  refine region_seq (w0 := w) 8 (by kernel_rfl) ?_
  rw [show List.range 8 = [0, 1, 2, 3, 4, 5, 6, 7] from rfl]
  have st : Sq awE8 awD8 awB8 200 w 0 a w := ⟨hsize, hdef, Below.refl _ _, hbase, fun j hj => absurd hj (by omega)⟩
  clear hsize hdef hbase
  refine seq_one aw8_0 (by kernel_rfl) st ?_
  clear st
  intro a w st
  refine seq_one aw8_1 (by kernel_rfl) st ?_
  clear st
  intro a w st
  refine seq_one aw8_2 (by kernel_rfl) st ?_
  clear st
  intro a w st
  refine seq_one aw8_3 (by kernel_rfl) st ?_
  clear st
  intro a w st
  refine seq_one aw8_4 (by kernel_rfl) st ?_
  clear st
  intro a w st
  refine seq_box3 (j := 4) (m := 3) (by kernel_rfl) (by kernel_rfl) (by kernel_rfl) (by kernel_rfl) (by omega) rfl (by kernel_rfl) (by omega) rfl rfl rfl st ?_
  clear st
  intro a w st
  refine hQ a w st.size st.defers st.world fun t kd h => ?_
  by_cases ht : t < 12
  · refine st.base t kd ?_
    rw [if_pos (by omega)] at h
    show (if t < 12 then awakeBase t else none) = some kd
    rw [if_pos ht]
    exact h
  · have ht1 : t < 14 := by
      by_cases h1 : t < 14
      · exact h1
      · rw [if_neg h1] at h; cases h
    have ht2 : t = 12 ∨ t = 13 := by omega
    rcases ht2 with rfl | rfl
    · exact (Option.some.inj (show some (awE8 6) = some kd from h)) ▸ st.done 6 (by omega)
    · exact (Option.some.inj (show some (awE8 5) = some kd from h)) ▸ st.done 5 (by omega)

theorem awake_body : Try.f14.body = some (.seq (.region 0 awOps0 false) (.seq (.region 1 awOps1 false) (.seq (.region 2 awOps2 false) (.seq (.region 3 awOps3 false) (.seq (.region 4 awOps4 false) (.seq (.region 5 awOps5 false) (.seq (.region 6 awOps6 false) (.seq (.region 7 awOps7 false) (.seq (.region 8 awOps8 false) (.seq (.region 9 awakeOps true) .ret)))))))))) := by kernel_rfl
set_option maxHeartbeats 1000000 in
/-- The examples of the chapter hold. -/
theorem awake_any (w : World) : Calls Try.prog 14 #[] w fun e w' => e = .returned (.bool true) ∧ Below w.heap.size w w' := by
  refine calls_of_wp Try.func14 awake_body ?_
  have hs : (#[] ++ Array.replicate (Try.f14.ntmps - (#[] : Array Value).size) undef : Array Value).size = 200 := by kernel_rfl
  generalize (#[] ++ Array.replicate (Try.f14.ntmps - (#[] : Array Value).size) undef : Array Value) = tm at hs ⊢
  refine wp_seq ?_
  refine aw0_region hs rfl (fun t kd h => by unfold awB0 at h; rw [if_neg (by omega)] at h; cases h) fun a w1 s1 d1 b1 k1 => ?_
  show Code.wp _ _ _ a w1
  refine wp_seq ?_
  refine aw1_region s1 d1 k1 fun a w2 s2 d2 b2 k2 => ?_
  have b2 := b1.trans (b2.mono b1.size)
  show Code.wp _ _ _ a w2
  refine wp_seq ?_
  refine aw2_region s2 d2 k2 fun a w3 s3 d3 b3 k3 => ?_
  have b3 := b2.trans (b3.mono b2.size)
  show Code.wp _ _ _ a w3
  refine wp_seq ?_
  refine aw3_region s3 d3 k3 fun a w4 s4 d4 b4 k4 => ?_
  have b4 := b3.trans (b4.mono b3.size)
  show Code.wp _ _ _ a w4
  refine wp_seq ?_
  refine aw4_region s4 d4 k4 fun a w5 s5 d5 b5 k5 => ?_
  have b5 := b4.trans (b5.mono b4.size)
  show Code.wp _ _ _ a w5
  refine wp_seq ?_
  refine aw5_region s5 d5 k5 fun a w6 s6 d6 b6 k6 => ?_
  have b6 := b5.trans (b6.mono b5.size)
  show Code.wp _ _ _ a w6
  refine wp_seq ?_
  refine aw6_region s6 d6 k6 fun a w7 s7 d7 b7 k7 => ?_
  have b7 := b6.trans (b7.mono b6.size)
  show Code.wp _ _ _ a w7
  refine wp_seq ?_
  refine aw7_region s7 d7 k7 fun a w8 s8 d8 b8 k8 => ?_
  have b8 := b7.trans (b8.mono b7.size)
  show Code.wp _ _ _ a w8
  refine wp_seq ?_
  refine aw8_region s8 d8 k8 fun a w9 s9 d9 b9 k9 => ?_
  have b9 := b8.trans (b9.mono b8.size)
  show Code.wp _ _ _ a w9
  refine wp_seq ?_
  refine awake_region s9 d9 (fun t kd h => k9 t kd ?_) fun a w10 h0 d10 b10 => ?_
  · by_cases ht : t < 14
    · rw [if_pos ht]; exact h
    · exfalso
      unfold awakeBase at h
      split at h <;> first | omega | cases h
  show Code.wp _ _ _ a w10
  refine wp_ret ?_
  refine bodyPost_ret (v := .bool true) ?_ d10 ⟨rfl, b9.trans (b10.mono b9.size)⟩
  rw [← h0]
  exact results_tmp (fn := Try.f14) (t := 0) rfl a.tmps Try.prog w10
end Go.Proofs.Ytmljkhofahgelaa
