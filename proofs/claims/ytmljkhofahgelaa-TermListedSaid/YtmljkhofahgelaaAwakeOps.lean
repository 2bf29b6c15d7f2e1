/-
  The great region of awake: what each of its operations leaves.
-/
import Derived.Test.YtmljkhofahgelaaClasses
namespace Go.Proofs.Ytmljkhofahgelaa
set_option linter.unusedVariables false
set_option linter.unusedSimpArgs false
open Go.RowKit

/-- The operations of a function's region. -/
def findRegion (id : Nat) : Code → Option (Array Oper)
  | .region k ops _ => if k = id then some ops else none
  | .seq a b => match findRegion id a with
    | some r => some r
    | none => findRegion id b
  | _ => none
noncomputable def awakeOps : Array Oper := ((Try.f14.body).bind (findRegion 9)).getD #[]
def awakeBase : Nat → Option Kd
  | 1 => some (.ptrT (3, 0, ⟨#[102]⟩) (.node (0, 5, ByteArray.empty) .nil (.node (3, 0, ⟨#[103]⟩) (.node (0, 2, ByteArray.empty) .nil (.node (0, 5, ByteArray.empty) .nil .nil)) .nil)))
  | 2 => some (.ints [5, 2])
  | 3 => some (.ptrT (3, 0, ⟨#[102]⟩) (.node (0, 10, ByteArray.empty) .nil (.node (0, 11, ByteArray.empty) .nil .nil)))
  | 4 => some (.val (.int .i64 0))
  | 6 => some (.val (.int .i64 1))
  | 8 => some (.val (.int .i64 2))
  | 9 => some (.ptrT (3, 0, ⟨#[102]⟩) (.node (3, 0, ⟨#[103]⟩) (.node (0, 0, ByteArray.empty) .nil .nil) (.node (0, 1, ByteArray.empty) .nil .nil)))
  | 10 => some (.val (.int .i64 0))
  | 11 => some (.ptrT (3, 0, ⟨#[46]⟩) (.node (2, 0, ⟨#[97]⟩) .nil (.node (3, 0, ⟨#[46]⟩) (.node (2, 0, ⟨#[98]⟩) .nil (.node (2, 0, ⟨#[91, 93]⟩) .nil .nil)) .nil)))
  | 12 => some (.row (.node (2, 0, ⟨#[97]⟩) .nil (.node (2, 0, ⟨#[98]⟩) .nil .nil)))
  | 13 => some (.ptrT (2, 0, ⟨#[91, 93]⟩) .nil)
  | _ => none
def awakeEs : List Kd := [
  .term (3, 0, ⟨#[102]⟩) .nil,
  .val (.bool false),
  .val (.bool true),
  .val (.bool true),
  .term (0, (-1), ByteArray.empty) .nil,
  .val (.bool false),
  .val (.bool true),
  .val (.bool true),
  .val (.bool true),
  .term (2, 0, ⟨#[97]⟩) .nil,
  .term (0, 0, ByteArray.empty) .nil,
  .row (.node (0, 0, ByteArray.empty) .nil .nil),
  .term (3, 0, ⟨#[103]⟩) (.node (0, 0, ByteArray.empty) .nil .nil),
  .term (1, 3, ByteArray.empty) .nil,
  .row (.node (2, 0, ⟨#[97]⟩) .nil (.node (3, 0, ⟨#[103]⟩) (.node (0, 0, ByteArray.empty) .nil .nil) (.node (1, 3, ByteArray.empty) .nil .nil))),
  .term (3, 0, ⟨#[102]⟩) (.node (2, 0, ⟨#[97]⟩) .nil (.node (3, 0, ⟨#[103]⟩) (.node (0, 0, ByteArray.empty) .nil .nil) (.node (1, 3, ByteArray.empty) .nil .nil))),
  .val (.int .i64 5),
  .val (.bool true),
  .val (.bool true),
  .val (.bool true),
  .ints [5, 2],
  .val (.int .i64 2),
  .val (.bool true),
  .val (.bool true),
  .val (.bool true),
  .ints [5, 2],
  .ptrI 5,
  .val (.int .i64 5),
  .val (.bool true),
  .val (.bool true),
  .val (.bool true),
  .ints [5, 2],
  .ptrI 2,
  .val (.int .i64 2),
  .val (.bool true),
  .val (.bool true),
  .val (.bool true),
  .term (3, 0, ⟨#[102]⟩) (.node (0, 5, ByteArray.empty) .nil (.node (3, 0, ⟨#[103]⟩) (.node (0, 2, ByteArray.empty) .nil (.node (0, 5, ByteArray.empty) .nil .nil)) .nil)),
  .term (3, 0, ⟨#[102]⟩) (.node (0, 0, ByteArray.empty) .nil (.node (3, 0, ⟨#[103]⟩) (.node (0, 1, ByteArray.empty) .nil (.node (0, 0, ByteArray.empty) .nil .nil)) .nil)),
  .term (0, 0, ByteArray.empty) .nil,
  .term (0, 1, ByteArray.empty) .nil,
  .term (0, 0, ByteArray.empty) .nil,
  .row (.node (0, 1, ByteArray.empty) .nil (.node (0, 0, ByteArray.empty) .nil .nil)),
  .term (3, 0, ⟨#[103]⟩) (.node (0, 1, ByteArray.empty) .nil (.node (0, 0, ByteArray.empty) .nil .nil)),
  .row (.node (0, 0, ByteArray.empty) .nil (.node (3, 0, ⟨#[103]⟩) (.node (0, 1, ByteArray.empty) .nil (.node (0, 0, ByteArray.empty) .nil .nil)) .nil)),
  .term (3, 0, ⟨#[102]⟩) (.node (0, 0, ByteArray.empty) .nil (.node (3, 0, ⟨#[103]⟩) (.node (0, 1, ByteArray.empty) .nil (.node (0, 0, ByteArray.empty) .nil .nil)) .nil)),
  .val (.bool true),
  .val (.bool true),
  .val (.bool true),
  .val (.int .i64 0),
  .val (.bool true),
  .val (.bool true),
  .val (.bool true),
  .term (3, 0, ⟨#[102]⟩) (.node (0, 10, ByteArray.empty) .nil (.node (0, 11, ByteArray.empty) .nil .nil)),
  .term (0, 10, ByteArray.empty) .nil,
  .term (0, 11, ByteArray.empty) .nil,
  .row (.node (0, 10, ByteArray.empty) .nil (.node (0, 11, ByteArray.empty) .nil .nil)),
  .term (3, 0, ⟨#[102]⟩) (.node (0, 10, ByteArray.empty) .nil (.node (0, 11, ByteArray.empty) .nil .nil)),
  .val (.bool true),
  .val (.bool true),
  .val (.bool true),
  .val (.int .i64 1),
  .val (.bool true),
  .val (.bool true),
  .val (.bool true),
  .val (.int .i64 2),
  .val (.bool true),
  .val (.bool true),
  .val (.bool true),
  .val (.int .i64 0),
  .val (.bool true),
  .val (.bool true),
  .val (.bool true),
  .term (3, 0, ⟨#[102]⟩) (.node (3, 0, ⟨#[103]⟩) (.node (0, 0, ByteArray.empty) .nil .nil) (.node (0, 1, ByteArray.empty) .nil .nil)),
  .term (0, 0, ByteArray.empty) .nil,
  .row (.node (0, 0, ByteArray.empty) .nil .nil),
  .term (3, 0, ⟨#[103]⟩) (.node (0, 0, ByteArray.empty) .nil .nil),
  .term (0, 1, ByteArray.empty) .nil,
  .row (.node (3, 0, ⟨#[103]⟩) (.node (0, 0, ByteArray.empty) .nil .nil) (.node (0, 1, ByteArray.empty) .nil .nil)),
  .term (3, 0, ⟨#[102]⟩) (.node (3, 0, ⟨#[103]⟩) (.node (0, 0, ByteArray.empty) .nil .nil) (.node (0, 1, ByteArray.empty) .nil .nil)),
  .val (.bool true),
  .val (.bool true),
  .val (.bool true),
  .term (2, 0, ⟨#[102]⟩) .nil,
  .term (2, 0, ⟨#[102]⟩) .nil,
  .val (.bool true),
  .val (.bool true),
  .val (.bool true),
  .term (3, 0, ⟨#[46]⟩) (.node (2, 0, ⟨#[97]⟩) .nil (.node (3, 0, ⟨#[46]⟩) (.node (2, 0, ⟨#[98]⟩) .nil (.node (2, 0, ⟨#[91, 93]⟩) .nil .nil)) .nil)),
  .term (2, 0, ⟨#[97]⟩) .nil,
  .term (2, 0, ⟨#[98]⟩) .nil,
  .term (2, 0, ⟨#[91, 93]⟩) .nil,
  .row (.node (2, 0, ⟨#[98]⟩) .nil (.node (2, 0, ⟨#[91, 93]⟩) .nil .nil)),
  .term (3, 0, ⟨#[46]⟩) (.node (2, 0, ⟨#[98]⟩) .nil (.node (2, 0, ⟨#[91, 93]⟩) .nil .nil)),
  .row (.node (2, 0, ⟨#[97]⟩) .nil (.node (3, 0, ⟨#[46]⟩) (.node (2, 0, ⟨#[98]⟩) .nil (.node (2, 0, ⟨#[91, 93]⟩) .nil .nil)) .nil)),
  .term (3, 0, ⟨#[46]⟩) (.node (2, 0, ⟨#[97]⟩) .nil (.node (3, 0, ⟨#[46]⟩) (.node (2, 0, ⟨#[98]⟩) .nil (.node (2, 0, ⟨#[91, 93]⟩) .nil .nil)) .nil)),
  .val (.bool true),
  .val (.bool true),
  .val (.bool true),
  .row (.node (2, 0, ⟨#[97]⟩) .nil (.node (2, 0, ⟨#[98]⟩) .nil .nil)),
  .val (.int .i64 2),
  .val (.bool true),
  .val (.bool true),
  .val (.bool true),
  .row (.node (2, 0, ⟨#[97]⟩) .nil (.node (2, 0, ⟨#[98]⟩) .nil .nil)),
  .ptrT (2, 0, ⟨#[98]⟩) .nil,
  .term (2, 0, ⟨#[98]⟩) .nil,
  .term (2, 0, ⟨#[98]⟩) .nil,
  .val (.bool true),
  .val (.bool true),
  .val (.bool true),
  .term (2, 0, ⟨#[91, 93]⟩) .nil,
  .term (2, 0, ⟨#[91, 93]⟩) .nil,
  .val (.bool true),
  .val (.bool true),
  .val (.bool true),
  .term (0, 0, ByteArray.empty) .nil,
  .term (0, 1, ByteArray.empty) .nil,
  .row (.node (0, 0, ByteArray.empty) .nil (.node (0, 1, ByteArray.empty) .nil .nil)),
  .term (3, 0, ⟨#[102]⟩) (.node (0, 0, ByteArray.empty) .nil (.node (0, 1, ByteArray.empty) .nil .nil)),
  .term (0, 1, ByteArray.empty) .nil,
  .term (0, 0, ByteArray.empty) .nil,
  .row (.node (0, 1, ByteArray.empty) .nil (.node (0, 0, ByteArray.empty) .nil .nil)),
  .term (3, 0, ⟨#[102]⟩) (.node (0, 1, ByteArray.empty) .nil (.node (0, 0, ByteArray.empty) .nil .nil)),
  .val (.bool true),
  .val (.bool true),
  .val (.bool true),
  .term (0, 0, ByteArray.empty) .nil,
  .term (0, 1, ByteArray.empty) .nil,
  .row (.node (0, 0, ByteArray.empty) .nil (.node (0, 1, ByteArray.empty) .nil .nil)),
  .term (3, 0, ⟨#[102]⟩) (.node (0, 0, ByteArray.empty) .nil (.node (0, 1, ByteArray.empty) .nil .nil)),
  .term (0, 0, ByteArray.empty) .nil,
  .term (0, 0, ByteArray.empty) .nil,
  .row (.node (0, 0, ByteArray.empty) .nil (.node (0, 0, ByteArray.empty) .nil .nil)),
  .term (3, 0, ⟨#[102]⟩) (.node (0, 0, ByteArray.empty) .nil (.node (0, 0, ByteArray.empty) .nil .nil)),
  .val (.bool false),
  .val (.bool true),
  .val (.bool true),
  .val (.bool true)]
def awakeE (i : Nat) : Kd := (awakeEs[i]?).getD (.val undef)
def awakeD (i : Nat) : Nat := if i < 138 then 62 + i else 0
abbrev AwakeStep (Q : Exit → Act → World → Prop) (i : Nat) : Prop := Step Try.prog awakeOps Q awakeE awakeD awakeBase 200 i
theorem awake_0 {Q : Exit → Act → World → Prop} : AwakeStep Q 0 := step_build (s := ⟨#[102]⟩) (by kernel_rfl) rfl
theorem awake_1 {Q : Exit → Act → World → Prop} : AwakeStep Q 1 := step_valid (by kernel_rfl) (Opd.dep 0 rfl rfl (by kernel_rfl)) (by kernel_rfl) rfl
theorem awake_2 {Q : Exit → Act → World → Prop} : AwakeStep Q 2 := step_not (by kernel_rfl) (Opd.dep 1 rfl rfl (by kernel_rfl)) rfl
theorem awake_3 {Q : Exit → Act → World → Prop} : AwakeStep Q 3 := step_move (by kernel_rfl) (Opd.dep 2 rfl rfl (by kernel_rfl)) rfl
theorem awake_4 {Q : Exit → Act → World → Prop} : AwakeStep Q 4 := step_x (n := -1) (by kernel_rfl) rfl
theorem awake_5 {Q : Exit → Act → World → Prop} : AwakeStep Q 5 := step_valid (by kernel_rfl) (Opd.dep 4 rfl rfl (by kernel_rfl)) (by kernel_rfl) rfl
theorem awake_6 {Q : Exit → Act → World → Prop} : AwakeStep Q 6 := step_not (by kernel_rfl) (Opd.dep 5 rfl rfl (by kernel_rfl)) rfl
theorem awake_7 {Q : Exit → Act → World → Prop} : AwakeStep Q 7 := step_pick (by kernel_rfl) (Opd.dep 3 rfl rfl (by kernel_rfl)) (Opd.dep 6 rfl rfl (by kernel_rfl)) rfl
theorem awake_8 {Q : Exit → Act → World → Prop} : AwakeStep Q 8 := step_move (by kernel_rfl) (Opd.dep 7 rfl rfl (by kernel_rfl)) rfl
theorem awake_9 {Q : Exit → Act → World → Prop} : AwakeStep Q 9 := step_a (s := ⟨#[97]⟩) (by kernel_rfl) rfl
theorem awake_10 {Q : Exit → Act → World → Prop} : AwakeStep Q 10 := step_x (n := 0) (by kernel_rfl) rfl
theorem awake_11 {Q : Exit → Act → World → Prop} : AwakeStep Q 11 := step_slice1 (by kernel_rfl) (Opd.dep 10 rfl rfl (by kernel_rfl)) rfl
theorem awake_12 {Q : Exit → Act → World → Prop} : AwakeStep Q 12 := step_f (s := ⟨#[103]⟩) (by kernel_rfl) (Opd.dep 11 rfl rfl (by kernel_rfl)) rfl
theorem awake_13 {Q : Exit → Act → World → Prop} : AwakeStep Q 13 := step_int (n := 3) (by kernel_rfl) rfl
theorem awake_14 {Q : Exit → Act → World → Prop} : AwakeStep Q 14 := step_slice3 (by kernel_rfl) (Opd.dep 9 rfl rfl (by kernel_rfl)) (Opd.dep 12 rfl rfl (by kernel_rfl)) (Opd.dep 13 rfl rfl (by kernel_rfl)) rfl
theorem awake_15 {Q : Exit → Act → World → Prop} : AwakeStep Q 15 := step_f (s := ⟨#[102]⟩) (by kernel_rfl) (Opd.dep 14 rfl rfl (by kernel_rfl)) rfl
theorem awake_16 {Q : Exit → Act → World → Prop} : AwakeStep Q 16 := step_size (n := 5) (by kernel_rfl) (Opd.dep 15 rfl rfl (by kernel_rfl)) (by kernel_rfl) rfl
theorem awake_17 {Q : Exit → Act → World → Prop} : AwakeStep Q 17 := step_eq_int (m := 5) (n := 5) (by kernel_rfl) (Opd.dep 16 rfl rfl (by kernel_rfl)) (Opd.const _) rfl
theorem awake_18 {Q : Exit → Act → World → Prop} : AwakeStep Q 18 := step_pick (by kernel_rfl) (Opd.dep 8 rfl rfl (by kernel_rfl)) (Opd.dep 17 rfl rfl (by kernel_rfl)) rfl
theorem awake_19 {Q : Exit → Act → World → Prop} : AwakeStep Q 19 := step_move (by kernel_rfl) (Opd.dep 18 rfl rfl (by kernel_rfl)) rfl
theorem awake_20 {Q : Exit → Act → World → Prop} : AwakeStep Q 20 := step_move (by kernel_rfl) (Opd.of_base 2 rfl) rfl
theorem awake_21 {Q : Exit → Act → World → Prop} : AwakeStep Q 21 := step_len_ints (by kernel_rfl) (Opd.dep 20 rfl rfl (by kernel_rfl)) rfl
theorem awake_22 {Q : Exit → Act → World → Prop} : AwakeStep Q 22 := step_eq_int (m := 2) (n := 2) (by kernel_rfl) (Opd.dep 21 rfl rfl (by kernel_rfl)) (Opd.const _) rfl
theorem awake_23 {Q : Exit → Act → World → Prop} : AwakeStep Q 23 := step_pick (by kernel_rfl) (Opd.dep 19 rfl rfl (by kernel_rfl)) (Opd.dep 22 rfl rfl (by kernel_rfl)) rfl
theorem awake_24 {Q : Exit → Act → World → Prop} : AwakeStep Q 24 := step_move (by kernel_rfl) (Opd.dep 23 rfl rfl (by kernel_rfl)) rfl
theorem awake_25 {Q : Exit → Act → World → Prop} : AwakeStep Q 25 := step_move (by kernel_rfl) (Opd.of_base 2 rfl) rfl
theorem awake_26 {Q : Exit → Act → World → Prop} : AwakeStep Q 26 := step_ints0 (by kernel_rfl) (Opd.dep 25 rfl rfl (by kernel_rfl)) rfl
theorem awake_27 {Q : Exit → Act → World → Prop} : AwakeStep Q 27 := step_load_int (by kernel_rfl) (Opd.dep 26 rfl rfl (by kernel_rfl)) rfl
theorem awake_28 {Q : Exit → Act → World → Prop} : AwakeStep Q 28 := step_eq_int64 (m := 5) (n := 5) (by kernel_rfl) (Opd.dep 27 rfl rfl (by kernel_rfl)) (Opd.const _) rfl
theorem awake_29 {Q : Exit → Act → World → Prop} : AwakeStep Q 29 := step_pick (by kernel_rfl) (Opd.dep 24 rfl rfl (by kernel_rfl)) (Opd.dep 28 rfl rfl (by kernel_rfl)) rfl
theorem awake_30 {Q : Exit → Act → World → Prop} : AwakeStep Q 30 := step_move (by kernel_rfl) (Opd.dep 29 rfl rfl (by kernel_rfl)) rfl
theorem awake_31 {Q : Exit → Act → World → Prop} : AwakeStep Q 31 := step_move (by kernel_rfl) (Opd.of_base 2 rfl) rfl
theorem awake_32 {Q : Exit → Act → World → Prop} : AwakeStep Q 32 := step_ints1 (by kernel_rfl) (Opd.dep 31 rfl rfl (by kernel_rfl)) rfl
theorem awake_33 {Q : Exit → Act → World → Prop} : AwakeStep Q 33 := step_load_int (by kernel_rfl) (Opd.dep 32 rfl rfl (by kernel_rfl)) rfl
theorem awake_34 {Q : Exit → Act → World → Prop} : AwakeStep Q 34 := step_eq_int64 (m := 2) (n := 2) (by kernel_rfl) (Opd.dep 33 rfl rfl (by kernel_rfl)) (Opd.const _) rfl
theorem awake_35 {Q : Exit → Act → World → Prop} : AwakeStep Q 35 := step_pick (by kernel_rfl) (Opd.dep 30 rfl rfl (by kernel_rfl)) (Opd.dep 34 rfl rfl (by kernel_rfl)) rfl
theorem awake_36 {Q : Exit → Act → World → Prop} : AwakeStep Q 36 := step_move (by kernel_rfl) (Opd.dep 35 rfl rfl (by kernel_rfl)) rfl
theorem awake_37 {Q : Exit → Act → World → Prop} : AwakeStep Q 37 := step_load_term (by kernel_rfl) (Opd.of_base 1 rfl) rfl
theorem awake_38 {Q : Exit → Act → World → Prop} : AwakeStep Q 38 := step_canon (by kernel_rfl) (Opd.dep 37 rfl rfl (by kernel_rfl)) (by kernel_rfl) rfl
theorem awake_39 {Q : Exit → Act → World → Prop} : AwakeStep Q 39 := step_x (n := 0) (by kernel_rfl) rfl
theorem awake_40 {Q : Exit → Act → World → Prop} : AwakeStep Q 40 := step_x (n := 1) (by kernel_rfl) rfl
theorem awake_41 {Q : Exit → Act → World → Prop} : AwakeStep Q 41 := step_x (n := 0) (by kernel_rfl) rfl
theorem awake_42 {Q : Exit → Act → World → Prop} : AwakeStep Q 42 := step_slice2 (by kernel_rfl) (Opd.dep 40 rfl rfl (by kernel_rfl)) (Opd.dep 41 rfl rfl (by kernel_rfl)) rfl
theorem awake_43 {Q : Exit → Act → World → Prop} : AwakeStep Q 43 := step_f (s := ⟨#[103]⟩) (by kernel_rfl) (Opd.dep 42 rfl rfl (by kernel_rfl)) rfl
theorem awake_44 {Q : Exit → Act → World → Prop} : AwakeStep Q 44 := step_slice2 (by kernel_rfl) (Opd.dep 39 rfl rfl (by kernel_rfl)) (Opd.dep 43 rfl rfl (by kernel_rfl)) rfl
theorem awake_45 {Q : Exit → Act → World → Prop} : AwakeStep Q 45 := step_f (s := ⟨#[102]⟩) (by kernel_rfl) (Opd.dep 44 rfl rfl (by kernel_rfl)) rfl
theorem awake_46 {Q : Exit → Act → World → Prop} : AwakeStep Q 46 := step_same (by kernel_rfl) (Opd.dep 38 rfl rfl (by kernel_rfl)) (Opd.dep 45 rfl rfl (by kernel_rfl)) (by kernel_rfl) rfl
theorem awake_47 {Q : Exit → Act → World → Prop} : AwakeStep Q 47 := step_pick (by kernel_rfl) (Opd.dep 36 rfl rfl (by kernel_rfl)) (Opd.dep 46 rfl rfl (by kernel_rfl)) rfl
theorem awake_48 {Q : Exit → Act → World → Prop} : AwakeStep Q 48 := step_move (by kernel_rfl) (Opd.dep 47 rfl rfl (by kernel_rfl)) rfl
theorem awake_49 {Q : Exit → Act → World → Prop} : AwakeStep Q 49 := step_move (by kernel_rfl) (Opd.of_base 4 rfl) rfl
theorem awake_50 {Q : Exit → Act → World → Prop} : AwakeStep Q 50 := step_eq_err (m := 0) (n := 0) (by kernel_rfl) (Opd.dep 49 rfl rfl (by kernel_rfl)) (Opd.const _) rfl
theorem awake_51 {Q : Exit → Act → World → Prop} : AwakeStep Q 51 := step_pick (by kernel_rfl) (Opd.dep 48 rfl rfl (by kernel_rfl)) (Opd.dep 50 rfl rfl (by kernel_rfl)) rfl
theorem awake_52 {Q : Exit → Act → World → Prop} : AwakeStep Q 52 := step_move (by kernel_rfl) (Opd.dep 51 rfl rfl (by kernel_rfl)) rfl
theorem awake_53 {Q : Exit → Act → World → Prop} : AwakeStep Q 53 := step_load_term (by kernel_rfl) (Opd.of_base 3 rfl) rfl
theorem awake_54 {Q : Exit → Act → World → Prop} : AwakeStep Q 54 := step_x (n := 10) (by kernel_rfl) rfl
theorem awake_55 {Q : Exit → Act → World → Prop} : AwakeStep Q 55 := step_x (n := 11) (by kernel_rfl) rfl
theorem awake_56 {Q : Exit → Act → World → Prop} : AwakeStep Q 56 := step_slice2 (by kernel_rfl) (Opd.dep 54 rfl rfl (by kernel_rfl)) (Opd.dep 55 rfl rfl (by kernel_rfl)) rfl
theorem awake_57 {Q : Exit → Act → World → Prop} : AwakeStep Q 57 := step_f (s := ⟨#[102]⟩) (by kernel_rfl) (Opd.dep 56 rfl rfl (by kernel_rfl)) rfl
theorem awake_58 {Q : Exit → Act → World → Prop} : AwakeStep Q 58 := step_same (by kernel_rfl) (Opd.dep 53 rfl rfl (by kernel_rfl)) (Opd.dep 57 rfl rfl (by kernel_rfl)) (by kernel_rfl) rfl
theorem awake_59 {Q : Exit → Act → World → Prop} : AwakeStep Q 59 := step_pick (by kernel_rfl) (Opd.dep 52 rfl rfl (by kernel_rfl)) (Opd.dep 58 rfl rfl (by kernel_rfl)) rfl
theorem awake_60 {Q : Exit → Act → World → Prop} : AwakeStep Q 60 := step_move (by kernel_rfl) (Opd.dep 59 rfl rfl (by kernel_rfl)) rfl
theorem awake_61 {Q : Exit → Act → World → Prop} : AwakeStep Q 61 := step_move (by kernel_rfl) (Opd.of_base 6 rfl) rfl
theorem awake_62 {Q : Exit → Act → World → Prop} : AwakeStep Q 62 := step_eq_err (m := 1) (n := 1) (by kernel_rfl) (Opd.dep 61 rfl rfl (by kernel_rfl)) (Opd.const _) rfl
theorem awake_63 {Q : Exit → Act → World → Prop} : AwakeStep Q 63 := step_pick (by kernel_rfl) (Opd.dep 60 rfl rfl (by kernel_rfl)) (Opd.dep 62 rfl rfl (by kernel_rfl)) rfl
theorem awake_64 {Q : Exit → Act → World → Prop} : AwakeStep Q 64 := step_move (by kernel_rfl) (Opd.dep 63 rfl rfl (by kernel_rfl)) rfl
theorem awake_65 {Q : Exit → Act → World → Prop} : AwakeStep Q 65 := step_move (by kernel_rfl) (Opd.of_base 8 rfl) rfl
theorem awake_66 {Q : Exit → Act → World → Prop} : AwakeStep Q 66 := step_eq_err (m := 2) (n := 2) (by kernel_rfl) (Opd.dep 65 rfl rfl (by kernel_rfl)) (Opd.const _) rfl
theorem awake_67 {Q : Exit → Act → World → Prop} : AwakeStep Q 67 := step_pick (by kernel_rfl) (Opd.dep 64 rfl rfl (by kernel_rfl)) (Opd.dep 66 rfl rfl (by kernel_rfl)) rfl
theorem awake_68 {Q : Exit → Act → World → Prop} : AwakeStep Q 68 := step_move (by kernel_rfl) (Opd.dep 67 rfl rfl (by kernel_rfl)) rfl
theorem awake_69 {Q : Exit → Act → World → Prop} : AwakeStep Q 69 := step_move (by kernel_rfl) (Opd.of_base 10 rfl) rfl
theorem awake_70 {Q : Exit → Act → World → Prop} : AwakeStep Q 70 := step_eq_err (m := 0) (n := 0) (by kernel_rfl) (Opd.dep 69 rfl rfl (by kernel_rfl)) (Opd.const _) rfl
theorem awake_71 {Q : Exit → Act → World → Prop} : AwakeStep Q 71 := step_pick (by kernel_rfl) (Opd.dep 68 rfl rfl (by kernel_rfl)) (Opd.dep 70 rfl rfl (by kernel_rfl)) rfl
theorem awake_72 {Q : Exit → Act → World → Prop} : AwakeStep Q 72 := step_move (by kernel_rfl) (Opd.dep 71 rfl rfl (by kernel_rfl)) rfl
theorem awake_73 {Q : Exit → Act → World → Prop} : AwakeStep Q 73 := step_load_term (by kernel_rfl) (Opd.of_base 9 rfl) rfl
theorem awake_74 {Q : Exit → Act → World → Prop} : AwakeStep Q 74 := step_x (n := 0) (by kernel_rfl) rfl
theorem awake_75 {Q : Exit → Act → World → Prop} : AwakeStep Q 75 := step_slice1 (by kernel_rfl) (Opd.dep 74 rfl rfl (by kernel_rfl)) rfl
theorem awake_76 {Q : Exit → Act → World → Prop} : AwakeStep Q 76 := step_f (s := ⟨#[103]⟩) (by kernel_rfl) (Opd.dep 75 rfl rfl (by kernel_rfl)) rfl
theorem awake_77 {Q : Exit → Act → World → Prop} : AwakeStep Q 77 := step_x (n := 1) (by kernel_rfl) rfl
theorem awake_78 {Q : Exit → Act → World → Prop} : AwakeStep Q 78 := step_slice2 (by kernel_rfl) (Opd.dep 76 rfl rfl (by kernel_rfl)) (Opd.dep 77 rfl rfl (by kernel_rfl)) rfl
theorem awake_79 {Q : Exit → Act → World → Prop} : AwakeStep Q 79 := step_f (s := ⟨#[102]⟩) (by kernel_rfl) (Opd.dep 78 rfl rfl (by kernel_rfl)) rfl
theorem awake_80 {Q : Exit → Act → World → Prop} : AwakeStep Q 80 := step_same (by kernel_rfl) (Opd.dep 73 rfl rfl (by kernel_rfl)) (Opd.dep 79 rfl rfl (by kernel_rfl)) (by kernel_rfl) rfl
theorem awake_81 {Q : Exit → Act → World → Prop} : AwakeStep Q 81 := step_pick (by kernel_rfl) (Opd.dep 72 rfl rfl (by kernel_rfl)) (Opd.dep 80 rfl rfl (by kernel_rfl)) rfl
theorem awake_82 {Q : Exit → Act → World → Prop} : AwakeStep Q 82 := step_move (by kernel_rfl) (Opd.dep 81 rfl rfl (by kernel_rfl)) rfl
theorem awake_83 {Q : Exit → Act → World → Prop} : AwakeStep Q 83 := step_struct0 (s := ⟨#[102]⟩) (by kernel_rfl) (by kernel_rfl) rfl
theorem awake_84 {Q : Exit → Act → World → Prop} : AwakeStep Q 84 := step_a (s := ⟨#[102]⟩) (by kernel_rfl) rfl
theorem awake_85 {Q : Exit → Act → World → Prop} : AwakeStep Q 85 := step_same (by kernel_rfl) (Opd.dep 83 rfl rfl (by kernel_rfl)) (Opd.dep 84 rfl rfl (by kernel_rfl)) (by kernel_rfl) rfl
theorem awake_86 {Q : Exit → Act → World → Prop} : AwakeStep Q 86 := step_pick (by kernel_rfl) (Opd.dep 82 rfl rfl (by kernel_rfl)) (Opd.dep 85 rfl rfl (by kernel_rfl)) rfl
theorem awake_87 {Q : Exit → Act → World → Prop} : AwakeStep Q 87 := step_move (by kernel_rfl) (Opd.dep 86 rfl rfl (by kernel_rfl)) rfl
theorem awake_88 {Q : Exit → Act → World → Prop} : AwakeStep Q 88 := step_load_term (by kernel_rfl) (Opd.of_base 11 rfl) rfl
theorem awake_89 {Q : Exit → Act → World → Prop} : AwakeStep Q 89 := step_a (s := ⟨#[97]⟩) (by kernel_rfl) rfl
theorem awake_90 {Q : Exit → Act → World → Prop} : AwakeStep Q 90 := step_a (s := ⟨#[98]⟩) (by kernel_rfl) rfl
theorem awake_91 {Q : Exit → Act → World → Prop} : AwakeStep Q 91 := step_a (s := ⟨#[91, 93]⟩) (by kernel_rfl) rfl
theorem awake_92 {Q : Exit → Act → World → Prop} : AwakeStep Q 92 := step_slice2 (by kernel_rfl) (Opd.dep 90 rfl rfl (by kernel_rfl)) (Opd.dep 91 rfl rfl (by kernel_rfl)) rfl
theorem awake_93 {Q : Exit → Act → World → Prop} : AwakeStep Q 93 := step_f (s := ⟨#[46]⟩) (by kernel_rfl) (Opd.dep 92 rfl rfl (by kernel_rfl)) rfl
theorem awake_94 {Q : Exit → Act → World → Prop} : AwakeStep Q 94 := step_slice2 (by kernel_rfl) (Opd.dep 89 rfl rfl (by kernel_rfl)) (Opd.dep 93 rfl rfl (by kernel_rfl)) rfl
theorem awake_95 {Q : Exit → Act → World → Prop} : AwakeStep Q 95 := step_f (s := ⟨#[46]⟩) (by kernel_rfl) (Opd.dep 94 rfl rfl (by kernel_rfl)) rfl
theorem awake_96 {Q : Exit → Act → World → Prop} : AwakeStep Q 96 := step_same (by kernel_rfl) (Opd.dep 88 rfl rfl (by kernel_rfl)) (Opd.dep 95 rfl rfl (by kernel_rfl)) (by kernel_rfl) rfl
theorem awake_97 {Q : Exit → Act → World → Prop} : AwakeStep Q 97 := step_pick (by kernel_rfl) (Opd.dep 87 rfl rfl (by kernel_rfl)) (Opd.dep 96 rfl rfl (by kernel_rfl)) rfl
theorem awake_98 {Q : Exit → Act → World → Prop} : AwakeStep Q 98 := step_move (by kernel_rfl) (Opd.dep 97 rfl rfl (by kernel_rfl)) rfl
theorem awake_99 {Q : Exit → Act → World → Prop} : AwakeStep Q 99 := step_move (by kernel_rfl) (Opd.of_base 12 rfl) rfl
theorem awake_100 {Q : Exit → Act → World → Prop} : AwakeStep Q 100 := step_len_row (by kernel_rfl) (Opd.dep 99 rfl rfl (by kernel_rfl)) rfl
theorem awake_101 {Q : Exit → Act → World → Prop} : AwakeStep Q 101 := step_eq_int (m := 2) (n := 2) (by kernel_rfl) (Opd.dep 100 rfl rfl (by kernel_rfl)) (Opd.const _) rfl
theorem awake_102 {Q : Exit → Act → World → Prop} : AwakeStep Q 102 := step_pick (by kernel_rfl) (Opd.dep 98 rfl rfl (by kernel_rfl)) (Opd.dep 101 rfl rfl (by kernel_rfl)) rfl
theorem awake_103 {Q : Exit → Act → World → Prop} : AwakeStep Q 103 := step_move (by kernel_rfl) (Opd.dep 102 rfl rfl (by kernel_rfl)) rfl
theorem awake_104 {Q : Exit → Act → World → Prop} : AwakeStep Q 104 := step_move (by kernel_rfl) (Opd.of_base 12 rfl) rfl
theorem awake_105 {Q : Exit → Act → World → Prop} : AwakeStep Q 105 := step_row1 (by kernel_rfl) (Opd.dep 104 rfl rfl (by kernel_rfl)) rfl
theorem awake_106 {Q : Exit → Act → World → Prop} : AwakeStep Q 106 := step_load_term (by kernel_rfl) (Opd.dep 105 rfl rfl (by kernel_rfl)) rfl
theorem awake_107 {Q : Exit → Act → World → Prop} : AwakeStep Q 107 := step_a (s := ⟨#[98]⟩) (by kernel_rfl) rfl
theorem awake_108 {Q : Exit → Act → World → Prop} : AwakeStep Q 108 := step_same (by kernel_rfl) (Opd.dep 106 rfl rfl (by kernel_rfl)) (Opd.dep 107 rfl rfl (by kernel_rfl)) (by kernel_rfl) rfl
theorem awake_109 {Q : Exit → Act → World → Prop} : AwakeStep Q 109 := step_pick (by kernel_rfl) (Opd.dep 103 rfl rfl (by kernel_rfl)) (Opd.dep 108 rfl rfl (by kernel_rfl)) rfl
theorem awake_110 {Q : Exit → Act → World → Prop} : AwakeStep Q 110 := step_move (by kernel_rfl) (Opd.dep 109 rfl rfl (by kernel_rfl)) rfl
theorem awake_111 {Q : Exit → Act → World → Prop} : AwakeStep Q 111 := step_load_term (by kernel_rfl) (Opd.of_base 13 rfl) rfl
theorem awake_112 {Q : Exit → Act → World → Prop} : AwakeStep Q 112 := step_a (s := ⟨#[91, 93]⟩) (by kernel_rfl) rfl
theorem awake_113 {Q : Exit → Act → World → Prop} : AwakeStep Q 113 := step_same (by kernel_rfl) (Opd.dep 111 rfl rfl (by kernel_rfl)) (Opd.dep 112 rfl rfl (by kernel_rfl)) (by kernel_rfl) rfl
theorem awake_114 {Q : Exit → Act → World → Prop} : AwakeStep Q 114 := step_pick (by kernel_rfl) (Opd.dep 110 rfl rfl (by kernel_rfl)) (Opd.dep 113 rfl rfl (by kernel_rfl)) rfl
theorem awake_115 {Q : Exit → Act → World → Prop} : AwakeStep Q 115 := step_move (by kernel_rfl) (Opd.dep 114 rfl rfl (by kernel_rfl)) rfl
theorem awake_116 {Q : Exit → Act → World → Prop} : AwakeStep Q 116 := step_x (n := 0) (by kernel_rfl) rfl
theorem awake_117 {Q : Exit → Act → World → Prop} : AwakeStep Q 117 := step_x (n := 1) (by kernel_rfl) rfl
theorem awake_118 {Q : Exit → Act → World → Prop} : AwakeStep Q 118 := step_slice2 (by kernel_rfl) (Opd.dep 116 rfl rfl (by kernel_rfl)) (Opd.dep 117 rfl rfl (by kernel_rfl)) rfl
theorem awake_119 {Q : Exit → Act → World → Prop} : AwakeStep Q 119 := step_f (s := ⟨#[102]⟩) (by kernel_rfl) (Opd.dep 118 rfl rfl (by kernel_rfl)) rfl
theorem awake_120 {Q : Exit → Act → World → Prop} : AwakeStep Q 120 := step_x (n := 1) (by kernel_rfl) rfl
theorem awake_121 {Q : Exit → Act → World → Prop} : AwakeStep Q 121 := step_x (n := 0) (by kernel_rfl) rfl
theorem awake_122 {Q : Exit → Act → World → Prop} : AwakeStep Q 122 := step_slice2 (by kernel_rfl) (Opd.dep 120 rfl rfl (by kernel_rfl)) (Opd.dep 121 rfl rfl (by kernel_rfl)) rfl
theorem awake_123 {Q : Exit → Act → World → Prop} : AwakeStep Q 123 := step_f (s := ⟨#[102]⟩) (by kernel_rfl) (Opd.dep 122 rfl rfl (by kernel_rfl)) rfl
theorem awake_124 {Q : Exit → Act → World → Prop} : AwakeStep Q 124 := step_variant (by kernel_rfl) (Opd.dep 119 rfl rfl (by kernel_rfl)) (Opd.dep 123 rfl rfl (by kernel_rfl)) (by kernel_rfl) rfl
theorem awake_125 {Q : Exit → Act → World → Prop} : AwakeStep Q 125 := step_pick (by kernel_rfl) (Opd.dep 115 rfl rfl (by kernel_rfl)) (Opd.dep 124 rfl rfl (by kernel_rfl)) rfl
theorem awake_126 {Q : Exit → Act → World → Prop} : AwakeStep Q 126 := step_move (by kernel_rfl) (Opd.dep 125 rfl rfl (by kernel_rfl)) rfl
theorem awake_127 {Q : Exit → Act → World → Prop} : AwakeStep Q 127 := step_x (n := 0) (by kernel_rfl) rfl
theorem awake_128 {Q : Exit → Act → World → Prop} : AwakeStep Q 128 := step_x (n := 1) (by kernel_rfl) rfl
theorem awake_129 {Q : Exit → Act → World → Prop} : AwakeStep Q 129 := step_slice2 (by kernel_rfl) (Opd.dep 127 rfl rfl (by kernel_rfl)) (Opd.dep 128 rfl rfl (by kernel_rfl)) rfl
theorem awake_130 {Q : Exit → Act → World → Prop} : AwakeStep Q 130 := step_f (s := ⟨#[102]⟩) (by kernel_rfl) (Opd.dep 129 rfl rfl (by kernel_rfl)) rfl
theorem awake_131 {Q : Exit → Act → World → Prop} : AwakeStep Q 131 := step_x (n := 0) (by kernel_rfl) rfl
theorem awake_132 {Q : Exit → Act → World → Prop} : AwakeStep Q 132 := step_x (n := 0) (by kernel_rfl) rfl
theorem awake_133 {Q : Exit → Act → World → Prop} : AwakeStep Q 133 := step_slice2 (by kernel_rfl) (Opd.dep 131 rfl rfl (by kernel_rfl)) (Opd.dep 132 rfl rfl (by kernel_rfl)) rfl
theorem awake_134 {Q : Exit → Act → World → Prop} : AwakeStep Q 134 := step_f (s := ⟨#[102]⟩) (by kernel_rfl) (Opd.dep 133 rfl rfl (by kernel_rfl)) rfl
theorem awake_135 {Q : Exit → Act → World → Prop} : AwakeStep Q 135 := step_variant (by kernel_rfl) (Opd.dep 130 rfl rfl (by kernel_rfl)) (Opd.dep 134 rfl rfl (by kernel_rfl)) (by kernel_rfl) rfl
theorem awake_136 {Q : Exit → Act → World → Prop} : AwakeStep Q 136 := step_not (by kernel_rfl) (Opd.dep 135 rfl rfl (by kernel_rfl)) rfl
theorem awake_137 {Q : Exit → Act → World → Prop} : AwakeStep Q 137 := step_pick (by kernel_rfl) (Opd.dep 126 rfl rfl (by kernel_rfl)) (Opd.dep 136 rfl rfl (by kernel_rfl)) rfl
theorem awake_138 {Q : Exit → Act → World → Prop} : AwakeStep Q 138 := step_assign (by kernel_rfl) (Opd.dep 137 rfl rfl (by kernel_rfl)) rfl

def goodAll (D : Nat → Nat) (base : Nat → Option Kd) (N : Nat) (tru : Nat → Bool) : Nat → List Oper → Bool
  | _, [] => true
  | k, o :: l => goodOp D base N tru k o && goodAll D base N tru (k + 1) l
theorem goodAll_spec {D : Nat → Nat} {base : Nat → Option Kd} {N : Nat} {tru : Nat → Bool} : ∀ (l : List Oper) (k : Nat), goodAll D base N tru k l = true → ∀ i o, l[i]? = some o → goodOp D base N tru (k + i) o = true
  | [], _, _, i, o, h => by cases h
  | o' :: l, k, h, i, o, hi => by
    unfold goodAll at h
    rw [Bool.and_eq_true] at h
    cases i with
    | zero => cases hi; exact h.1
    | succ i =>
      have := goodAll_spec l (k + 1) h.2 i o hi
      rw [show k + (i + 1) = k + 1 + i by omega]
      exact this
theorem below_succ {S : Nat → Prop} {n : Nat} (h : ∀ i, i < n → S i) (hn : S n) : ∀ i, i < n + 1 → S i := fun i hi => by
  by_cases he : i = n
  · subst he; exact hn
  · exact h i (by omega)
theorem awake_size : awakeOps.size = 139 := by kernel_rfl
theorem awake_good : goodAll awakeD awakeBase 200 (fun g => (awakeE g).isTrue) 0 awakeOps.toList = true := by kernel_rfl
theorem awake_steps {Q : Exit → Act → World → Prop} : ∀ i, i < 139 → AwakeStep Q i := by
  have h : ∀ i, i < 0 → AwakeStep Q i := fun i hi => absurd hi (by omega)
  have h := below_succ h awake_0
  have h := below_succ h awake_1
  have h := below_succ h awake_2
  have h := below_succ h awake_3
  have h := below_succ h awake_4
  have h := below_succ h awake_5
  have h := below_succ h awake_6
  have h := below_succ h awake_7
  have h := below_succ h awake_8
  have h := below_succ h awake_9
  have h := below_succ h awake_10
  have h := below_succ h awake_11
  have h := below_succ h awake_12
  have h := below_succ h awake_13
  have h := below_succ h awake_14
  have h := below_succ h awake_15
  have h := below_succ h awake_16
  have h := below_succ h awake_17
  have h := below_succ h awake_18
  have h := below_succ h awake_19
  have h := below_succ h awake_20
  have h := below_succ h awake_21
  have h := below_succ h awake_22
  have h := below_succ h awake_23
  have h := below_succ h awake_24
  have h := below_succ h awake_25
  have h := below_succ h awake_26
  have h := below_succ h awake_27
  have h := below_succ h awake_28
  have h := below_succ h awake_29
  have h := below_succ h awake_30
  have h := below_succ h awake_31
  have h := below_succ h awake_32
  have h := below_succ h awake_33
  have h := below_succ h awake_34
  have h := below_succ h awake_35
  have h := below_succ h awake_36
  have h := below_succ h awake_37
  have h := below_succ h awake_38
  have h := below_succ h awake_39
  have h := below_succ h awake_40
  have h := below_succ h awake_41
  have h := below_succ h awake_42
  have h := below_succ h awake_43
  have h := below_succ h awake_44
  have h := below_succ h awake_45
  have h := below_succ h awake_46
  have h := below_succ h awake_47
  have h := below_succ h awake_48
  have h := below_succ h awake_49
  have h := below_succ h awake_50
  have h := below_succ h awake_51
  have h := below_succ h awake_52
  have h := below_succ h awake_53
  have h := below_succ h awake_54
  have h := below_succ h awake_55
  have h := below_succ h awake_56
  have h := below_succ h awake_57
  have h := below_succ h awake_58
  have h := below_succ h awake_59
  have h := below_succ h awake_60
  have h := below_succ h awake_61
  have h := below_succ h awake_62
  have h := below_succ h awake_63
  have h := below_succ h awake_64
  have h := below_succ h awake_65
  have h := below_succ h awake_66
  have h := below_succ h awake_67
  have h := below_succ h awake_68
  have h := below_succ h awake_69
  have h := below_succ h awake_70
  have h := below_succ h awake_71
  have h := below_succ h awake_72
  have h := below_succ h awake_73
  have h := below_succ h awake_74
  have h := below_succ h awake_75
  have h := below_succ h awake_76
  have h := below_succ h awake_77
  have h := below_succ h awake_78
  have h := below_succ h awake_79
  have h := below_succ h awake_80
  have h := below_succ h awake_81
  have h := below_succ h awake_82
  have h := below_succ h awake_83
  have h := below_succ h awake_84
  have h := below_succ h awake_85
  have h := below_succ h awake_86
  have h := below_succ h awake_87
  have h := below_succ h awake_88
  have h := below_succ h awake_89
  have h := below_succ h awake_90
  have h := below_succ h awake_91
  have h := below_succ h awake_92
  have h := below_succ h awake_93
  have h := below_succ h awake_94
  have h := below_succ h awake_95
  have h := below_succ h awake_96
  have h := below_succ h awake_97
  have h := below_succ h awake_98
  have h := below_succ h awake_99
  have h := below_succ h awake_100
  have h := below_succ h awake_101
  have h := below_succ h awake_102
  have h := below_succ h awake_103
  have h := below_succ h awake_104
  have h := below_succ h awake_105
  have h := below_succ h awake_106
  have h := below_succ h awake_107
  have h := below_succ h awake_108
  have h := below_succ h awake_109
  have h := below_succ h awake_110
  have h := below_succ h awake_111
  have h := below_succ h awake_112
  have h := below_succ h awake_113
  have h := below_succ h awake_114
  have h := below_succ h awake_115
  have h := below_succ h awake_116
  have h := below_succ h awake_117
  have h := below_succ h awake_118
  have h := below_succ h awake_119
  have h := below_succ h awake_120
  have h := below_succ h awake_121
  have h := below_succ h awake_122
  have h := below_succ h awake_123
  have h := below_succ h awake_124
  have h := below_succ h awake_125
  have h := below_succ h awake_126
  have h := below_succ h awake_127
  have h := below_succ h awake_128
  have h := below_succ h awake_129
  have h := below_succ h awake_130
  have h := below_succ h awake_131
  have h := below_succ h awake_132
  have h := below_succ h awake_133
  have h := below_succ h awake_134
  have h := below_succ h awake_135
  have h := below_succ h awake_136
  have h := below_succ h awake_137
  have h := below_succ h awake_138
  exact h

/-- The region: in the end slot 0 says true. -/
theorem awake_region {Q : Exit → Act → World → Prop} {a : Act} {w : World} (hsize : a.tmps.size = 200) (hdef : a.defers = []) (hbase : ∀ t k, awakeBase t = some k → k.R (a.tmps.getD t undef) w)
    (hQ : ∀ a' w', a'.tmps.getD 0 undef = .bool true → a'.defers = [] → Below w.heap.size w w' → Q .normal a' w') : (Code.region 9 awakeOps true).wp Try.prog Q a w := by
  refine region_steps (E := awakeE) (D := awakeD) (base := awakeBase) (N := 200) (by kernel_rfl) (fun i o ho => ?_) (fun i j hi hj he => ?_) (fun i hi => awake_steps i (by rw [awake_size] at hi; exact hi)) hsize hdef hbase fun a' w' _ hd hb hE => ?_
  · have := goodAll_spec _ 0 awake_good i o (by rw [Array.getElem?_toList]; exact ho)
    rwa [Nat.zero_add] at this
  · rw [awake_size] at hi hj
    unfold awakeD at he
    split at he <;> split at he <;> omega
  · exact hQ a' w' (hE 138 (by rw [awake_size]; omega)) hd hb
end Go.Proofs.Ytmljkhofahgelaa
