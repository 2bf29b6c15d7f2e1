/-
  The examples that every statement of the layer holds besides: awake returns true.
-/
import Derived.Test.YtdlobgnhoiednaaDoorSet
import Derived.Test.YtdlobgnhoiednaaDoorEscape
import Derived.Test.YtdlobgnhoiednaaDoorDigit
namespace Go.Proofs.YtdlobgnhoiednaaDoor
set_option linter.unusedVariables false
set_option linter.unusedSimpArgs false
open Go.RowKit

theorem pairs_one (w : World) (B g c : Nat) (L : List (Int × Int)) (h : Tab w g c L) (hB : g < B) : PairsIn w B (some ⟨g, 0, none⟩) L.length L := h.pairs hB

set_option maxHeartbeats 1000000 in
theorem awake_true (w : World) (hT : Tabs w) :
    Calls Tryd.prog 10 #[] w fun e w' => e = .returned (.bool true) ∧ Below w.heap.size w w' := by
  have HT := Lib.hid hT
  clear hT
  have c1 := escape_any 10 w HT.out
  rw [show esc 10 = ⟨#[92, 110]⟩ from rfl, show Ch.isCh 10 = true from rfl] at c1
  have C1 := Lib.hid c1
  clear c1
  go_enter Tryd.func10, Tryd.ntmps10
  go_wp2_with fail
  refine C1.out.mono ?_
  rintro e w1 ⟨rfl, hb1⟩
  have HB1 := Lib.hid hb1
  clear hb1
  go_wp2_with fail
  have c2 := digit_any 70 16 w1
  rw [show Ch.digV 70 16 = 15 from by decide, show Ch.digB 70 16 = true from by decide] at c2
  refine c2.mono ?_
  clear c2
  rintro e w2 ⟨rfl, rfl⟩
  go_wp2_with fail
  have c3 := set_good none 0 97 98 [] w1 (by simp) (PairsIn.nil _ _ _) (by decide)
  refine c3.mono ?_
  clear c3
  rintro e w3 ⟨⟨g, rfl, ht, hg⟩, hb3⟩
  rw [show setP [] 97 98 = [(97, 98)] from by decide] at ht ⊢
  have HT3 := Lib.hid ht
  have HB3 := Lib.hid (HB1.out.trans (hb3.mono HB1.out.size))
  clear ht hb3 hg
  go_wp2_with fail
  have c4 := class_any 95 w3 (HT.out.below HB3.out)
  rw [show cls 95 = 3 from by decide +kernel] at c4
  refine c4.mono ?_
  clear c4
  rintro e w4 ⟨rfl, hb4⟩
  have HB4 := Lib.hid hb4
  clear hb4
  go_wp2_with fail
  have ht4 : PairsIn w4 w4.heap.size (some ⟨g, 0, none⟩) 1 [(97, 98)] := ((HT3.out.pairs HT3.out.lt).below HB4.out).more HB4.out.size
  have c5 := convert_any (some ⟨g, 0, none⟩) 1 1 97 [(97, 98)] w4 (by omega) (by omega) ht4
  rw [show conv [(97, 98)] 97 = 98 from by decide +kernel] at c5
  clear ht4
  refine c5.mono ?_
  clear c5
  rintro e w5 ⟨rfl, hb5⟩
  go_wp2_with fail
  go_ret
  exact ⟨rfl, HB3.out.trans ((HB4.out.trans (hb5.mono HB4.out.size)).mono HB3.out.size)⟩

end Go.Proofs.YtdlobgnhoiednaaDoor
