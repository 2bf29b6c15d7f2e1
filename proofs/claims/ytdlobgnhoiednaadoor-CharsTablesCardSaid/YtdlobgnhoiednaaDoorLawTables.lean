/-
  The walk of CharsTables: it returns true for every slice of pairs and every three integers.
-/
import Derived.Test.YtdlobgnhoiednaaDoorLawConverts
namespace Go.Proofs.YtdlobgnhoiednaaDoor
set_option linter.unusedVariables false
set_option linter.unusedSimpArgs false
open Go.RowKit

set_option maxHeartbeats 1000000 in
theorem tables_long (A : Option Addr) (n cap : Nat) (c a b : Int) (w : World) (hn : 1000 < n) (hm : n ≤ 9223372036854775807) (hT : Tabs w) :
    Calls Tryd.prog 5 #[.slice A n cap, .int .i64 c, .int .i64 a, .int .i64 b] w fun e w' => e = .returned (.bool true) ∧ Below w.heap.size w w' := by
  have HT := Lib.hid hT
  clear hT
  go_enter Tryd.func5, Tryd.ntmps5
  go_wp2_with fail
  refine (awake_true _ HT.out).mono ?_
  rintro e w1 ⟨rfl, hb1⟩
  go_wp2_with fail
  go_ret
  exact ⟨rfl, hb1⟩

theorem refSet_is (A : Option Addr) (n cap : Nat) (a b : Int) (L M : List (Int × Int)) (w : World) (hn : n ≤ 1000) (h : PairsIn w w.heap.size A n L) (hok : setOk L a b = true) (hM : setP L a b = M) :
    Calls Tryd.prog 23 #[.slice A n cap, .int .i64 a, .int .i64 b] w fun e w' => RefSetEnd w' M e ∧ Below w.heap.size w w' := by
  rw [← hM, ← ref_same hok]
  exact refSet_good A n cap a b L w hn h hok
theorem clone_any (A : Option Addr) (n cap : Nat) (L : List (Int × Int)) (w : World) (hn : n ≤ 1000) (hA : A = none → n = 0 ∧ cap = 0) (h : PairsIn w w.heap.size A n L) :
    Calls Tryd.prog 21 #[.slice A n cap] w fun e w' => CloneEnd w' L e ∧ Below w.heap.size w w' := by
  cases A with
  | none =>
    obtain ⟨rfl, rfl⟩ := hA rfl
    have hL : L = [] := List.eq_nil_of_length_eq_zero h.len
    subst hL
    exact clone_nil w
  | some ad => exact clone_some ad n cap L w hn h
theorem refValid_is (A : Option Addr) (n cap B : Nat) (v : Bool) (L : List (Int × Int)) (w : World) (hn : n ≤ 1000) (h : PairsIn w B A n L) (hv : goodB L = v) :
    Calls Tryd.prog 24 #[.slice A n cap] w fun e w' => e = .returned (.bool v) ∧ ∃ q, w' = w.drewN q := by
  subst hv
  exact refValid_any A n cap B L w hn h
theorem refConvert_is (A : Option Addr) (n cap B : Nat) (c v : Int) (L : List (Int × Int)) (w : World) (hn : n ≤ 1000) (h : PairsIn w B A n L) (hv : conv L c = v) :
    Calls Tryd.prog 25 #[.slice A n cap, .int .i64 c] w fun e w' => e = .returned (.int .i64 v) ∧ ∃ q, w' = w.drewN q := by
  subst hv
  exact refConvert_any A n cap B c L w hn h

set_option maxHeartbeats 4000000 in
theorem tables_bad (A : Option Addr) (n cap : Nat) (c a b : Int) (L : List (Int × Int)) (w : World) (hn : n ≤ 1000) (hA : A = none → n = 0 ∧ cap = 0) (h : PairsIn w w.heap.size A n L) (hT : Tabs w) (hok : setOk L a b = false) :
    Calls Tryd.prog 5 #[.slice A n cap, .int .i64 c, .int .i64 a, .int .i64 b] w fun e w' => e = .returned (.bool true) ∧ Below w.heap.size w w' := by
  have hs0 := Lib.hid (show sameB [] [] = true from decide_eq_true rfl)
  obtain ⟨v, hv⟩ : ∃ v, goodB L = v := ⟨_, rfl⟩
  obtain ⟨x, hx⟩ : ∃ x, conv L c = x := ⟨_, rfl⟩
  have HT := Lib.hid hT
  have HP := Lib.hid h
  have HO := Lib.hid hok
  have HV := Lib.hid hv
  have HX := Lib.hid hx
  have HA := Lib.hid hA
  have hsame := Lib.hid (show sameB L L = true from decide_eq_true rfl)
  have hlen := h.len
  have hlen2 : L.length ≤ 1000 := by omega
  have HLEN := Lib.hid hlen
  clear hT h hok hv hx hA hlen
  go_enter Tryd.func5, Tryd.ntmps5
  go_wp2_with fail
  refine (clone_any A n cap L _ hn HA.out HP.out).mono ?_
  rintro e w1 ⟨⟨A1, c1, rfl, hc1, hp1⟩, hb1⟩
  have HB1 := Lib.hid hb1
  have HP1 := Lib.hid hp1
  clear hb1 hp1
  go_wp2_with fail
  refine (valid_is A1 L.length c1 _ L _ hlen2 HP1.out HV.out).mono ?_
  rintro e w2 ⟨rfl, hb2⟩
  have HB2 := Lib.hid (HB1.out.trans (hb2.mono HB1.out.size))
  have HP2 := Lib.hid ((HP1.out.below hb2).more hb2.size)
  clear hb2
  go_wp2_with fail
  refine (convert_is A1 L.length c1 c x L _ hlen2 hc1 HP2.out HX.out).mono ?_
  rintro e w3 ⟨rfl, hb3⟩
  have HB3 := Lib.hid (HB2.out.trans (hb3.mono HB2.out.size))
  have HP3 := Lib.hid ((HP2.out.below hb3).more hb3.size)
  clear hb3
  go_wp2_with fail
  refine (set_bad A1 L.length c1 a b L _ hlen2 HP3.out HO.out).mono ?_
  rintro e w4 ⟨rfl, hb4⟩
  have HB4 := Lib.hid (HB3.out.trans (hb4.mono HB3.out.size))
  have HP4 := Lib.hid ((HP3.out.below hb4).more hb4.size)
  clear hb4
  go_wp2_with fail
  refine (refSet_bad A n cap _ a b L _ hn ((HP.out.below HB4.out).more HB4.out.size) HO.out).mono ?_
  rintro e w5 ⟨rfl, hb5⟩
  have HB5 := Lib.hid (HB4.out.trans (hb5.mono HB4.out.size))
  have HP5 := Lib.hid ((HP4.out.below hb5).more hb5.size)
  clear hb5
  go_wp2_with fail
  refine (refValid_is A n cap _ v L _ hn ((HP.out.below HB5.out).more HB5.out.size) HV.out).mono ?_
  rintro e w6 ⟨rfl, hq6⟩
  have HB6 := Lib.hid (HB5.out.trans (below_of_drewN hq6))
  have HQ6 := Lib.hid hq6
  clear hq6
  go_wp2_with fail
  refine (refConvert_is A n cap _ c x L _ hn ((HP.out.below HB6.out).more HB6.out.size) HX.out).mono ?_
  rintro e w7 ⟨rfl, hq7⟩
  have HB7 := Lib.hid (HB6.out.trans (below_of_drewN hq7))
  have HQ7 := Lib.hid hq7
  clear hq7
  go_wp2_with fail
  have hs := refSame_any none none 0 0 0 0 0 0 [] [] w7 (by omega) (by omega) (PairsIn.nil _ _ _) (PairsIn.nil _ _ _)
  rw [hs0.out] at hs
  refine hs.mono ?_
  clear hs
  rintro e w8 ⟨rfl, hq8⟩
  have HB8 := Lib.hid (HB7.out.trans (below_of_drewN hq8))
  have HQ8 := Lib.hid hq8
  clear hq8
  go_wp2_with fail
  have hs := refSame_any A1 A L.length n c1 cap _ _ L L w8 hlen2 hn (mem_refconv (mem_refconv (mem_refconv HP5.out HQ6.out) HQ7.out) HQ8.out) ((HP.out.below HB8.out).more HB8.out.size)
  rw [hsame.out] at hs
  refine hs.mono ?_
  clear hs
  rintro e w9 ⟨rfl, hq9⟩
  have HB9 := Lib.hid (HB8.out.trans (below_of_drewN hq9))
  clear hq9
  go_wp2_with fail
  refine (awake_true _ (HT.out.below HB9.out)).mono ?_
  rintro e w10 ⟨rfl, hb10⟩
  go_wp2_with fail
  go_ret
  exact ⟨rfl, HB9.out.trans (hb10.mono HB9.out.size)⟩

set_option maxHeartbeats 4000000 in
theorem tables_good (A : Option Addr) (n cap : Nat) (c a b : Int) (L : List (Int × Int)) (w : World) (hn : n ≤ 1000) (hA : A = none → n = 0 ∧ cap = 0) (h : PairsIn w w.heap.size A n L) (hT : Tabs w) (hok : setOk L a b = true) :
    Calls Tryd.prog 5 #[.slice A n cap, .int .i64 c, .int .i64 a, .int .i64 b] w fun e w' => e = .returned (.bool true) ∧ Below w.heap.size w w' := by
  have hl1 := setP_len hok
  obtain ⟨M, hM⟩ : ∃ M, setP L a b = M := ⟨_, rfl⟩
  rw [hM] at hl1
  have HM := Lib.hid hM
  have hsM := Lib.hid (show sameB M M = true from decide_eq_true rfl)
  clear hM
  obtain ⟨v, hv⟩ : ∃ v, goodB L = v := ⟨_, rfl⟩
  obtain ⟨x, hx⟩ : ∃ x, conv L c = x := ⟨_, rfl⟩
  have HT := Lib.hid hT
  have HP := Lib.hid h
  have HO := Lib.hid hok
  have HV := Lib.hid hv
  have HX := Lib.hid hx
  have HA := Lib.hid hA
  have hsame := Lib.hid (show sameB L L = true from decide_eq_true rfl)
  have hlen := h.len
  have hlen2 : L.length ≤ 1000 := by omega
  have HLEN := Lib.hid hlen
  clear hT h hok hv hx hA hlen
  go_enter Tryd.func5, Tryd.ntmps5
  go_wp2_with fail
  refine (clone_any A n cap L _ hn HA.out HP.out).mono ?_
  rintro e w1 ⟨⟨A1, c1, rfl, hc1, hp1⟩, hb1⟩
  have HB1 := Lib.hid hb1
  have HP1 := Lib.hid hp1
  clear hb1 hp1
  go_wp2_with fail
  refine (valid_is A1 L.length c1 _ L _ hlen2 HP1.out HV.out).mono ?_
  rintro e w2 ⟨rfl, hb2⟩
  have HB2 := Lib.hid (HB1.out.trans (hb2.mono HB1.out.size))
  have HP2 := Lib.hid ((HP1.out.below hb2).more hb2.size)
  clear hb2
  go_wp2_with fail
  refine (convert_is A1 L.length c1 c x L _ hlen2 hc1 HP2.out HX.out).mono ?_
  rintro e w3 ⟨rfl, hb3⟩
  have HB3 := Lib.hid (HB2.out.trans (hb3.mono HB2.out.size))
  have HP3 := Lib.hid ((HP2.out.below hb3).more hb3.size)
  clear hb3
  go_wp2_with fail
  refine (set_yes A1 L.length c1 a b L M _ hlen2 HP3.out HO.out HM.out).mono ?_
  rintro e w4 ⟨g4, c4, rfl, hc4, hp4, hb4⟩
  have HB4 := Lib.hid (HB3.out.trans (hb4.mono HB3.out.size))
  have HP4 := Lib.hid ((HP3.out.below hb4).more hb4.size)
  have HQ4 := Lib.hid hp4
  clear hb4 hp4
  go_wp2_with fail
  refine (refSet_is A n cap a b L M _ hn ((HP.out.below HB4.out).more HB4.out.size) HO.out HM.out).mono ?_
  rintro e w5 ⟨⟨A5, c5, rfl, hc5, hp5⟩, hb5⟩
  have HB5 := Lib.hid (HB4.out.trans (hb5.mono HB4.out.size))
  have HP5 := Lib.hid ((HP4.out.below hb5).more hb5.size)
  have HQ5 := Lib.hid ((HQ4.out.below hb5).more hb5.size)
  have HR5 := Lib.hid hp5
  clear hb5 hp5
  go_wp2_with fail
  refine (refValid_is A n cap _ v L _ hn ((HP.out.below HB5.out).more HB5.out.size) HV.out).mono ?_
  rintro e w6 ⟨rfl, hq6⟩
  have HB6 := Lib.hid (HB5.out.trans (below_of_drewN hq6))
  have HQ6 := Lib.hid hq6
  clear hq6
  go_wp2_with fail
  refine (refConvert_is A n cap _ c x L _ hn ((HP.out.below HB6.out).more HB6.out.size) HX.out).mono ?_
  rintro e w7 ⟨rfl, hq7⟩
  have HB7 := Lib.hid (HB6.out.trans (below_of_drewN hq7))
  have HQ7 := Lib.hid hq7
  clear hq7
  go_wp2_with fail
  have hs := refSame_any (some ⟨g4, 0, none⟩) A5 M.length M.length c4 c5 _ _ M M w7 (by omega) (by omega) (mem_refconv (mem_refconv HQ5.out HQ6.out) HQ7.out) (mem_refconv (mem_refconv HR5.out HQ6.out) HQ7.out)
  rw [hsM.out] at hs
  refine hs.mono ?_
  clear hs
  rintro e w8 ⟨rfl, hq8⟩
  have HB8 := Lib.hid (HB7.out.trans (below_of_drewN hq8))
  have HQ8 := Lib.hid hq8
  clear hq8
  go_wp2_with fail
  have hs := refSame_any A1 A L.length n c1 cap _ _ L L w8 hlen2 hn (mem_refconv (mem_refconv (mem_refconv HP5.out HQ6.out) HQ7.out) HQ8.out) ((HP.out.below HB8.out).more HB8.out.size)
  rw [hsame.out] at hs
  refine hs.mono ?_
  clear hs
  rintro e w9 ⟨rfl, hq9⟩
  have HB9 := Lib.hid (HB8.out.trans (below_of_drewN hq9))
  clear hq9
  go_wp2_with fail
  refine (awake_true _ (HT.out.below HB9.out)).mono ?_
  rintro e w10 ⟨rfl, hb10⟩
  go_wp2_with fail
  go_ret
  exact ⟨rfl, HB9.out.trans (hb10.mono HB9.out.size)⟩

/-- CharsTables returns true, for every slice of pairs and every three integers. -/
theorem walk_tables (A : Option Addr) (n cap : Nat) (c a b : Int) (L : List (Int × Int)) (w : World) (hA : A = none → n = 0 ∧ cap = 0) (hm : n ≤ 9223372036854775807) (h : PairsIn w w.heap.size A n L) (hT : Tabs w) :
    Calls Tryd.prog 5 #[.slice A n cap, .int .i64 c, .int .i64 a, .int .i64 b] w fun e w' => e = .returned (.bool true) ∧ Below w.heap.size w w' := by
  by_cases hn : n ≤ 1000
  · cases hok : setOk L a b
    · exact tables_bad A n cap c a b L w hn hA h hT hok
    · exact tables_good A n cap c a b L w hn hA h hT hok
  · exact tables_long A n cap c a b w (by omega) hm hT

end Go.Proofs.YtdlobgnhoiednaaDoor
