/-
  The walk of CharsCalls: it returns true for every two integers.
-/
import Derived.Test.YtdlobgnhoiednaaDoorAwake
import Derived.Test.YtdlobgnhoiednaaDoorRefEscape
namespace Go.Proofs.YtdlobgnhoiednaaDoor
set_option linter.unusedVariables false
set_option linter.unusedSimpArgs false
open Go.RowKit

set_option maxHeartbeats 4000000 in
set_option maxRecDepth 100000 in
theorem walk_calls (c b : Int) (w : World) (hT : Tabs w) :
    Calls Tryd.prog 4 #[.int .i64 c, .int .i64 b] w fun e w' => e = .returned (.bool true) ∧ Below w.heap.size w w' := by
  have HT := Lib.hid hT
  clear hT
  obtain ⟨dv, hdv⟩ : ∃ dv, dv = Ch.digV c b := ⟨_, rfl⟩
  obtain ⟨db, hdb⟩ : ∃ db, db = Ch.digB c b := ⟨_, rfl⟩
  obtain ⟨es, hes⟩ : ∃ es, es = esc c := ⟨_, rfl⟩
  obtain ⟨eb, heb⟩ : ∃ eb, eb = Ch.isCh c := ⟨_, rfl⟩
  obtain ⟨uv, huv⟩ : ∃ uv, uv = unV c := ⟨_, rfl⟩
  obtain ⟨ub, hub⟩ : ∃ ub, ub = unB c := ⟨_, rfl⟩
  obtain ⟨k, hk⟩ : ∃ k, k = rcls c := ⟨_, rfl⟩
  have d1 := fun w => digit_any c b w
  have d2 := fun w => refDigit_any c b w
  have e1 := fun w => escape_any c w
  have e2 := fun w => refEscape_any c w
  have u1 := fun w => unescape_any c w
  have u2 := fun w => refUnescape_any c w
  have k1 := fun w => class_any c w
  have k2 := fun w => refClass_any c w
  rw [cls_rcls] at k1
  rw [← hdv, ← hdb] at d1 d2
  rw [← hes, ← heb] at e1 e2
  rw [← huv, ← hub] at u1 u2
  rw [← hk] at k1 k2
  have D1 := Lib.hid d1
  have D2 := Lib.hid d2
  have E1 := Lib.hid e1
  have E2 := Lib.hid e2
  have U1 := Lib.hid u1
  have U2 := Lib.hid u2
  have K1 := Lib.hid k1
  have K2 := Lib.hid k2
  clear d1 d2 e1 e2 u1 u2 k1 k2 hdv hdb hes heb huv hub hk
  go_enter Tryd.func4, Tryd.ntmps4
  go_wp2_with fail
  refine (D1.out _).mono ?_
  rintro e w1 ⟨rfl, rfl⟩
  go_wp2_with fail
  refine (D2.out _).mono ?_
  rintro e w1 ⟨rfl, rfl⟩
  go_wp2_with fail
  refine (E1.out _ HT.out).mono ?_
  rintro e w1 ⟨rfl, hb1⟩
  have HB1 := Lib.hid hb1
  clear hb1
  go_wp2_with fail
  refine (E2.out _).mono ?_
  rintro e w2 ⟨rfl, hb2⟩
  have HB2 := Lib.hid (HB1.out.trans (hb2.mono HB1.out.size))
  clear hb2
  go_wp2_with fail
  refine (U1.out _).mono ?_
  rintro e w3 ⟨rfl, rfl⟩
  go_wp2_with fail
  refine (U2.out _).mono ?_
  rintro e w3 ⟨rfl, rfl⟩
  go_wp2_with fail
  refine (K1.out _ (HT.out.below HB2.out)).mono ?_
  rintro e w3 ⟨rfl, hb3⟩
  have HB3 := Lib.hid (HB2.out.trans (hb3.mono HB2.out.size))
  clear hb3
  go_wp2_with fail
  refine (K2.out _).mono ?_
  rintro e w4 ⟨rfl, rfl⟩
  go_wp2_with fail
  refine (awake_true _ (HT.out.below HB3.out)).mono ?_
  rintro e w4 ⟨rfl, hb4⟩
  have HB4 := Lib.hid (HB3.out.trans (hb4.mono HB3.out.size))
  clear hb4
  go_wp2_with fail
  go_ret
  exact ⟨rfl, HB4.out⟩

end Go.Proofs.YtdlobgnhoiednaaDoor
