/-
  The walk of CharsExamples: it returns true.
-/
import Derived.Test.YtdlobgnhoiednaaDoorAwake
import Derived.Test.YtdlobgnhoiednaaDoorUnescape
namespace Go.Proofs.YtdlobgnhoiednaaDoor
set_option linter.unusedVariables false
set_option linter.unusedSimpArgs false
open Go.RowKit

theorem one_pairs (w : World) (x y : Int) : PairsIn (w.alloc (.cells #[.int .i64 x, .int .i64 y] 30)) (w.heap.size + 1) (some ⟨w.heap.size, 0, none⟩) 1 [(x, y)] :=
  ⟨rfl, fun _ => ⟨w.heap.size, 0, rfl, by omega, fun j hj => by
    obtain rfl : j = 0 := by omega
    exact ⟨by rw [World.cell?_alloc_at _ _ _ _ rfl]; rfl, by rw [World.cell?_alloc_at _ _ _ _ rfl]; rfl⟩⟩⟩

set_option maxHeartbeats 4000000 in
set_option maxRecDepth 100000 in
theorem walk_examples (w : World) (hT : Tabs w) :
    Calls Tryd.prog 3 #[] w fun e w' => e = .returned (.bool true) ∧ Below w.heap.size w w' := by
  have HT := Lib.hid hT
  clear hT
  go_enter Tryd.func3, Tryd.ntmps3
  go_wp2_with fail
  refine (awake_true _ HT.out).mono ?_
  rintro e w1 ⟨rfl, hb1⟩
  have HB1 := Lib.hid hb1
  clear hb1
  go_wp2_with fail
  have c := class_any 32 w1 (HT.out.below HB1.out)
  rw [show cls 32 = 1 from by decide +kernel] at c
  refine c.mono ?_
  clear c
  rintro e w2 ⟨rfl, hb2⟩
  have HB2 := Lib.hid (HB1.out.trans (hb2.mono HB1.out.size))
  clear hb2
  go_wp2_with fail
  have c := class_any 37 w2 (HT.out.below HB2.out)
  rw [show cls 37 = 6 from by decide +kernel] at c
  refine c.mono ?_
  clear c
  rintro e w3 ⟨rfl, hb3⟩
  have HB3 := Lib.hid (HB2.out.trans (hb3.mono HB2.out.size))
  clear hb3
  go_wp2_with fail
  have c := class_any 200 w3 (HT.out.below HB3.out)
  rw [show cls 200 = 8 from by decide +kernel] at c
  refine c.mono ?_
  clear c
  rintro e w4 ⟨rfl, hb4⟩
  have HB4 := Lib.hid (HB3.out.trans (hb4.mono HB3.out.size))
  clear hb4
  go_wp2_with fail
  have c := class_any 256 w4 (HT.out.below HB4.out)
  rw [show cls 256 = 0 from by decide +kernel] at c
  refine c.mono ?_
  clear c
  rintro e w5 ⟨rfl, hb5⟩
  have HB5 := Lib.hid (HB4.out.trans (hb5.mono HB4.out.size))
  clear hb5
  go_wp2_with fail
  have c := digit_any 102 16 w5
  rw [show Ch.digV 102 16 = 15 from by decide, show Ch.digB 102 16 = true from by decide] at c
  refine c.mono ?_
  clear c
  rintro e w6 ⟨rfl, rfl⟩
  go_wp2_with fail
  have c := digit_any 56 8 w5
  rw [show Ch.digV 56 8 = 0 from by decide, show Ch.digB 56 8 = false from by decide] at c
  refine c.mono ?_
  clear c
  rintro e w6 ⟨rfl, rfl⟩
  go_wp2_with fail
  have c := digit_any 122 36 w5
  rw [show Ch.digV 122 36 = 35 from by decide, show Ch.digB 122 36 = true from by decide] at c
  refine c.mono ?_
  clear c
  rintro e w6 ⟨rfl, rfl⟩
  go_wp2_with fail
  have c := escape_any 39 w5 (HT.out.below HB5.out)
  rw [show esc 39 = ⟨#[92, 39]⟩ from rfl, show Ch.isCh 39 = true from rfl] at c
  refine c.mono ?_
  clear c
  rintro e w6 ⟨rfl, hb6⟩
  have HB6 := Lib.hid (HB5.out.trans (hb6.mono HB5.out.size))
  clear hb6
  go_wp2_with fail
  have c := escape_any 34 w6 (HT.out.below HB6.out)
  rw [show esc 34 = ⟨#[34]⟩ from rfl, show Ch.isCh 34 = true from rfl] at c
  refine c.mono ?_
  clear c
  rintro e w7 ⟨rfl, hb7⟩
  have HB7 := Lib.hid (HB6.out.trans (hb7.mono HB6.out.size))
  clear hb7
  go_wp2_with fail
  have c := escape_any 127 w7 (HT.out.below HB7.out)
  rw [show esc 127 = ⟨#[92, 120, 55, 102, 92]⟩ from rfl, show Ch.isCh 127 = true from rfl] at c
  refine c.mono ?_
  clear c
  rintro e w8 ⟨rfl, hb8⟩
  have HB8 := Lib.hid (HB7.out.trans (hb8.mono HB7.out.size))
  clear hb8
  go_wp2_with fail
  have c := unescape_any 110 w8
  rw [show unV 110 = 10 from by decide, show unB 110 = true from by decide] at c
  refine c.mono ?_
  clear c
  rintro e w9 ⟨rfl, rfl⟩
  go_wp2_with fail
  have c := unescape_any 101 w8
  rw [show unV 101 = 0 from by decide, show unB 101 = false from by decide] at c
  refine c.mono ?_
  clear c
  rintro e w9 ⟨rfl, rfl⟩
  go_wp2_with fail
  have HP1 := Lib.hid (one_pairs w8 97 98)
  have HBA := Lib.hid (HB8.out.alloc HB8.out.size (.cells #[.int .i64 97, .int .i64 98] 30))
  have c := set_good (some ⟨w8.heap.size, 0, none⟩) 1 97 97 [(97, 98)] (w8.alloc (.cells #[.int .i64 97, .int .i64 98] 30)) (by simp) (by simpa using HP1.out) (by decide)
  rw [show setP [(97, 98)] 97 97 = [] from by decide] at c
  refine c.mono ?_
  clear c
  rintro e w9 ⟨⟨g, rfl, _, _⟩, hb9⟩
  have HP9 := Lib.hid (HP1.out.below (by simpa using hb9))
  have HB9 := Lib.hid (HBA.out.trans (hb9.mono HBA.out.size))
  have hsz : w8.heap.size + 1 ≤ w9.heap.size := by have := hb9.size; simpa using this
  clear hb9
  go_wp2_with fail
  have c := set_bad none 0 0 256 1 [] w9 (by omega) (PairsIn.nil _ _ _) (by decide)
  refine c.mono ?_
  clear c
  rintro e w10 ⟨rfl, hb10⟩
  have HP10 := Lib.hid ((HP9.out.more hsz).below hb10)
  have HB10 := Lib.hid (HB9.out.trans (hb10.mono HB9.out.size))
  have hsz2 : w9.heap.size ≤ w10.heap.size := hb10.size
  clear hb10
  go_wp2_with fail
  have c := convert_any (some ⟨w8.heap.size, 0, none⟩) 1 1 98 [(97, 98)] w10 (by omega) (by omega) (HP10.out.more hsz2)
  rw [show conv [(97, 98)] 98 = 98 from by decide +kernel] at c
  refine c.mono ?_
  clear c
  rintro e w11 ⟨rfl, hb11⟩
  have HB11 := Lib.hid (HB10.out.trans (hb11.mono HB10.out.size))
  clear hb11
  go_wp2_with fail
  go_ret
  exact ⟨rfl, HB11.out⟩

end Go.Proofs.YtdlobgnhoiednaaDoor
