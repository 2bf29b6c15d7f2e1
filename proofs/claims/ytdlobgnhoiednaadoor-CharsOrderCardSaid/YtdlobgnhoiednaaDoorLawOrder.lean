/-
  The walk of CharsOrder: it returns true for every slice of pairs and every four integers.
-/
import Derived.Test.YtdlobgnhoiednaaDoorAwake
import Derived.Test.YtdlobgnhoiednaaDoorUnique
namespace Go.Proofs.YtdlobgnhoiednaaDoor
set_option linter.unusedVariables false
set_option linter.unusedSimpArgs false
open Go.RowKit

/-- What Set leaves where it does not fail, for whoever reads on. -/
def SetYes (w w' : World) (M : List (Int × Int)) (e : Ending) : Prop :=
  ∃ g c, e = .returned (.tuple #[.slice (some ⟨g, 0, none⟩) M.length c, .int .i64 0]) ∧ M.length ≤ c ∧ PairsIn w' w'.heap.size (some ⟨g, 0, none⟩) M.length M ∧ Below w.heap.size w w'
theorem set_yes (A : Option Addr) (n cap : Nat) (a b : Int) (L M : List (Int × Int)) (w : World) (hn : n ≤ 1000) (h : PairsIn w w.heap.size A n L) (hok : setOk L a b = true) (hM : setP L a b = M) :
    Calls Tryd.prog 15 #[.slice A n cap, .int .i64 a, .int .i64 b] w fun e w' => SetYes w w' M e := by
  subst hM
  obtain rfl := h.len
  refine (set_good A cap a b L w hn h hok).mono ?_
  rintro e w' ⟨⟨g, he, ht, hg⟩, hb⟩
  obtain ⟨cur, h1, h2, h3, h4⟩ := id ht
  exact ⟨g, L.length + 1, he, h3, ht.pairs ht.lt, hb⟩

set_option maxHeartbeats 1000000 in
theorem order_long (A : Option Addr) (n cap : Nat) (a x b y : Int) (w : World) (hn : 1000 < n) (hm : n ≤ 9223372036854775807) (hT : Tabs w) :
    Calls Tryd.prog 9 #[.slice A n cap, .int .i64 a, .int .i64 x, .int .i64 b, .int .i64 y] w fun e w' => e = .returned (.bool true) ∧ Below w.heap.size w w' := by
  have HT := Lib.hid hT
  clear hT
  go_enter Tryd.func9, Tryd.ntmps9
  go_wp2_with fail
  refine (awake_true _ HT.out).mono ?_
  rintro e w1 ⟨rfl, hb1⟩
  go_wp2_with fail
  go_ret
  exact ⟨rfl, hb1⟩

set_option maxHeartbeats 1000000 in
theorem order_same (A : Option Addr) (n cap : Nat) (a x y : Int) (w : World) (hn : n ≤ 1000) (hT : Tabs w) :
    Calls Tryd.prog 9 #[.slice A n cap, .int .i64 a, .int .i64 x, .int .i64 a, .int .i64 y] w fun e w' => e = .returned (.bool true) ∧ Below w.heap.size w w' := by
  have HT := Lib.hid hT
  clear hT
  go_enter Tryd.func9, Tryd.ntmps9
  go_wp2_with fail
  refine (awake_true _ HT.out).mono ?_
  rintro e w1 ⟨rfl, hb1⟩
  go_wp2_with fail
  go_ret
  exact ⟨rfl, hb1⟩

set_option maxHeartbeats 2000000 in
theorem order_bad (A : Option Addr) (n cap : Nat) (a x b y : Int) (L : List (Int × Int)) (w : World) (hn : n ≤ 1000) (hab : a ≠ b) (h : PairsIn w w.heap.size A n L) (hT : Tabs w) (hok : setOk L a x = false ∨ (setOk L a x = true ∧ setOk L b y = false)) :
    Calls Tryd.prog 9 #[.slice A n cap, .int .i64 a, .int .i64 x, .int .i64 b, .int .i64 y] w fun e w' => e = .returned (.bool true) ∧ Below w.heap.size w w' := by
  have HT := Lib.hid hT
  have HP := Lib.hid h
  have hne : (a == b) = false := by rw [beq_eq_false_iff_ne]; exact hab
  clear hT h hab
  rcases hok with h1 | ⟨h1, h2⟩
  · cases h2 : setOk L b y
    · have H1 := Lib.hid h1
      have H2 := Lib.hid h2
      clear h1 h2
      go_enter Tryd.func9, Tryd.ntmps9
      go_wp2_with fail
      refine (set_bad A n cap a x L _ hn HP.out H1.out).mono ?_
      rintro e w1 ⟨rfl, hb1⟩
      have HB1 := Lib.hid hb1
      clear hb1
      go_wp2_with fail
      refine (set_bad A n cap b y L _ hn ((HP.out.below HB1.out).more HB1.out.size) H2.out).mono ?_
      rintro e w2 ⟨rfl, hb2⟩
      have HB2 := Lib.hid (HB1.out.trans (hb2.mono HB1.out.size))
      clear hb2
      go_wp2_with fail
      refine (awake_true _ (HT.out.below HB2.out)).mono ?_
      rintro e w3 ⟨rfl, hb3⟩
      go_wp2_with fail
      go_ret
      exact ⟨rfl, HB2.out.trans (hb3.mono HB2.out.size)⟩
    · have H1 := Lib.hid h1
      have H2 := Lib.hid h2
      clear h1 h2
      go_enter Tryd.func9, Tryd.ntmps9
      go_wp2_with fail
      refine (set_bad A n cap a x L _ hn HP.out H1.out).mono ?_
      rintro e w1 ⟨rfl, hb1⟩
      have HB1 := Lib.hid hb1
      clear hb1
      go_wp2_with fail
      refine (set_yes A n cap b y L _ _ hn ((HP.out.below HB1.out).more HB1.out.size) H2.out rfl).mono ?_
      rintro e w2 ⟨g, c, rfl, _, _, hb2⟩
      have HB2 := Lib.hid (HB1.out.trans (hb2.mono HB1.out.size))
      clear hb2
      go_wp2_with fail
      refine (awake_true _ (HT.out.below HB2.out)).mono ?_
      rintro e w3 ⟨rfl, hb3⟩
      go_wp2_with fail
      go_ret
      exact ⟨rfl, HB2.out.trans (hb3.mono HB2.out.size)⟩
  · have H1 := Lib.hid h1
    have H2 := Lib.hid h2
    clear h1 h2
    go_enter Tryd.func9, Tryd.ntmps9
    go_wp2_with fail
    refine (set_yes A n cap a x L _ _ hn HP.out H1.out rfl).mono ?_
    rintro e w1 ⟨g, c, rfl, _, _, hb1⟩
    have HB1 := Lib.hid hb1
    clear hb1
    go_wp2_with fail
    refine (set_bad A n cap b y L _ hn ((HP.out.below HB1.out).more HB1.out.size) H2.out).mono ?_
    rintro e w2 ⟨rfl, hb2⟩
    have HB2 := Lib.hid (HB1.out.trans (hb2.mono HB1.out.size))
    clear hb2
    go_wp2_with fail
    refine (awake_true _ (HT.out.below HB2.out)).mono ?_
    rintro e w3 ⟨rfl, hb3⟩
    go_wp2_with fail
    go_ret
    exact ⟨rfl, HB2.out.trans (hb3.mono HB2.out.size)⟩

set_option maxHeartbeats 2000000 in
theorem order_good (A : Option Addr) (n cap : Nat) (a x b y : Int) (L : List (Int × Int)) (w : World) (hn : n ≤ 1000) (hab : a ≠ b) (h : PairsIn w w.heap.size A n L) (hT : Tabs w) (h1 : setOk L a x = true) (h2 : setOk L b y = true) :
    Calls Tryd.prog 9 #[.slice A n cap, .int .i64 a, .int .i64 x, .int .i64 b, .int .i64 y] w fun e w' => e = .returned (.bool true) ∧ Below w.heap.size w w' := by
  obtain ⟨h3, h4, h5⟩ := set_swap hab h1 h2
  obtain ⟨S, hS⟩ : ∃ S, setP L a x = S := ⟨_, rfl⟩
  obtain ⟨T, hT'⟩ : ∃ T, setP L b y = T := ⟨_, rfl⟩
  have l1 := setP_len h1
  have l2 := setP_len h2
  rw [hS] at h3 h5 l1
  rw [hT'] at h4 h5 l2
  obtain ⟨U, hU⟩ : ∃ U, setP S b y = U := ⟨_, rfl⟩
  have l3 := setP_len h3
  have hV : setP T a x = U := h5.symm.trans hU
  rw [hU] at l3
  have HT := Lib.hid hT
  have HP := Lib.hid h
  have hne : (a == b) = false := by rw [beq_eq_false_iff_ne]; exact hab
  have H1 := Lib.hid h1
  have H2 := Lib.hid h2
  have H3 := Lib.hid h3
  have H4 := Lib.hid h4
  have HS := Lib.hid hS
  have HTT := Lib.hid hT'
  have HU := Lib.hid hU
  have HV := Lib.hid hV
  have hsame := Lib.hid (show sameB U U = true from decide_eq_true rfl)
  clear hT h hab h1 h2 h3 h4 h5 hS hT' hU hV
  go_enter Tryd.func9, Tryd.ntmps9
  go_wp2_with fail
  refine (set_yes A n cap a x L S _ hn HP.out H1.out HS.out).mono ?_
  rintro e w1 ⟨g1, c1, rfl, _, hp1, hb1⟩
  have HB1 := Lib.hid hb1
  have HP1 := Lib.hid hp1
  clear hb1 hp1
  go_wp2_with fail
  refine (set_yes A n cap b y L T _ hn ((HP.out.below HB1.out).more HB1.out.size) H2.out HTT.out).mono ?_
  rintro e w2 ⟨g2, c2, rfl, _, hp2, hb2⟩
  have HB2 := Lib.hid (HB1.out.trans (hb2.mono HB1.out.size))
  have HP1' := Lib.hid ((HP1.out.below hb2).more hb2.size)
  have HP2 := Lib.hid hp2
  clear hb2 hp2
  go_wp2_with fail
  refine (set_yes (some ⟨g1, 0, none⟩) S.length c1 b y S U _ (by omega) HP1'.out H3.out HU.out).mono ?_
  rintro e w3 ⟨g3, c3, rfl, _, hp3, hb3⟩
  have HB3 := Lib.hid (HB2.out.trans (hb3.mono HB2.out.size))
  have HP2' := Lib.hid ((HP2.out.below hb3).more hb3.size)
  have HP3 := Lib.hid hp3
  clear hb3 hp3
  go_wp2_with fail
  refine (set_yes (some ⟨g2, 0, none⟩) T.length c2 a x T U _ (by omega) HP2'.out H4.out HV.out).mono ?_
  rintro e w4 ⟨g4, c4, rfl, _, hp4, hb4⟩
  have HB4 := Lib.hid (HB3.out.trans (hb4.mono HB3.out.size))
  have HP3' := Lib.hid ((HP3.out.below hb4).more hb4.size)
  have HP4 := Lib.hid hp4
  clear hb4 hp4
  go_wp2_with fail
  have hs := refSame_any (some ⟨g3, 0, none⟩) (some ⟨g4, 0, none⟩) U.length U.length c3 c4 _ _ U U w4 (by omega) (by omega) HP3'.out HP4.out
  rw [hsame.out] at hs
  refine hs.mono ?_
  clear hs
  rintro e w5 ⟨rfl, hq⟩
  have HB5 := Lib.hid (HB4.out.trans (below_of_drewN hq))
  clear hq
  go_wp2_with fail
  refine (awake_true _ (HT.out.below HB5.out)).mono ?_
  rintro e w6 ⟨rfl, hb6⟩
  go_wp2_with fail
  go_ret
  exact ⟨rfl, HB5.out.trans (hb6.mono HB5.out.size)⟩

/-- CharsOrder returns true, for every slice of pairs and every four integers. -/
theorem walk_order (A : Option Addr) (n cap : Nat) (a x b y : Int) (L : List (Int × Int)) (w : World) (hm : n ≤ 9223372036854775807) (h : PairsIn w w.heap.size A n L) (hT : Tabs w) :
    Calls Tryd.prog 9 #[.slice A n cap, .int .i64 a, .int .i64 x, .int .i64 b, .int .i64 y] w fun e w' => e = .returned (.bool true) ∧ Below w.heap.size w w' := by
  by_cases hn : n ≤ 1000
  · by_cases hab : a = b
    · subst hab
      exact order_same A n cap a x y w hn hT
    · cases h1 : setOk L a x
      · exact order_bad A n cap a x b y L w hn hab h hT (.inl h1)
      · cases h2 : setOk L b y
        · exact order_bad A n cap a x b y L w hn hab h hT (.inr ⟨h1, h2⟩)
        · exact order_good A n cap a x b y L w hn hab h hT h1 h2
  · exact order_long A n cap a x b y w (by omega) hm hT

end Go.Proofs.YtdlobgnhoiednaaDoor
