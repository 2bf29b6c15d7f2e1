/-
  The walk of CharsConverts: it returns true for every slice of pairs and every three integers.
-/
import Derived.Test.YtdlobgnhoiednaaDoorLawOrder
namespace Go.Proofs.YtdlobgnhoiednaaDoor
set_option linter.unusedVariables false
set_option linter.unusedSimpArgs false
open Go.RowKit

theorem convert_is (A : Option Addr) (n cap : Nat) (c v : Int) (L : List (Int × Int)) (w : World) (hn : n ≤ 1000) (hcap : n ≤ cap) (h : PairsIn w w.heap.size A n L) (hv : conv L c = v) :
    Calls Tryd.prog 16 #[.slice A n cap, .int .i64 c] w fun e w' => e = .returned (.int .i64 v) ∧ Below w.heap.size w w' := by
  subst hv
  exact convert_any A n cap c L w hn hcap h
theorem valid_is (A : Option Addr) (n cap : Nat) (v : Bool) (L : List (Int × Int)) (w : World) (hn : n ≤ 1000) (h : PairsIn w w.heap.size A n L) (hv : goodB L = v) :
    Calls Tryd.prog 22 #[.slice A n cap] w fun e w' => e = .returned (.bool v) ∧ Below w.heap.size w w' := by
  subst hv
  exact valid_any A n cap L w hn h

set_option maxHeartbeats 1000000 in
theorem converts_long (A : Option Addr) (n cap : Nat) (a b o : Int) (w : World) (hn : 1000 < n) (hm : n ≤ 9223372036854775807) (hT : Tabs w) :
    Calls Tryd.prog 8 #[.slice A n cap, .int .i64 a, .int .i64 b, .int .i64 o] w fun e w' => e = .returned (.bool true) ∧ Below w.heap.size w w' := by
  have HT := Lib.hid hT
  clear hT
  go_enter Tryd.func8, Tryd.ntmps8
  go_wp2_with fail
  refine (awake_true _ HT.out).mono ?_
  rintro e w1 ⟨rfl, hb1⟩
  go_wp2_with fail
  go_ret
  exact ⟨rfl, hb1⟩

theorem isCh_off {c : Int} (h : Ch.isCh c = false) : c < 0 ∨ (0 ≤ c ∧ 255 < c) := by
  by_cases h0 : 0 ≤ c ∧ c ≤ 255
  · rw [Ch.isCh_yes h0.1 h0.2] at h; cases h
  · omega

set_option maxHeartbeats 2000000 in
theorem converts_bad (A : Option Addr) (n cap : Nat) (a b o : Int) (L : List (Int × Int)) (w : World) (hn : n ≤ 1000) (h : PairsIn w w.heap.size A n L) (hT : Tabs w) (hok : setOk L a b = false) :
    Calls Tryd.prog 8 #[.slice A n cap, .int .i64 a, .int .i64 b, .int .i64 o] w fun e w' => e = .returned (.bool true) ∧ Below w.heap.size w w' := by
  have HT := Lib.hid hT
  have HP := Lib.hid h
  have HO := Lib.hid hok
  clear hT h hok
  have hcases : (goodB L = false) ∨ (goodB L = true ∧ a < 0) ∨ (goodB L = true ∧ 0 ≤ a ∧ 255 < a) ∨ (goodB L = true ∧ 0 ≤ a ∧ a ≤ 255 ∧ b < 0) ∨ (goodB L = true ∧ 0 ≤ a ∧ a ≤ 255 ∧ 0 ≤ b ∧ 255 < b) := by
    rcases setOk_no HO.out with h | ⟨h, h1⟩ | ⟨h, h1, h2⟩
    · exact .inl h
    · rcases isCh_off h1 with h3 | h3
      · exact .inr (.inl ⟨h, h3⟩)
      · exact .inr (.inr (.inl ⟨h, h3⟩))
    · have := Ch.isCh_iff.1 h1
      rcases isCh_off h2 with h3 | h3
      · exact .inr (.inr (.inr (.inl ⟨h, this.1, this.2, h3⟩)))
      · exact .inr (.inr (.inr (.inr ⟨h, this.1, this.2, h3⟩)))
  rcases hcases with hg | ⟨hg, h1⟩ | ⟨hg, h1, h2⟩ | ⟨hg, h1, h2, h3⟩ | ⟨hg, h1, h2, h3, h4⟩
  all_goals
    (try have hd1 : decide (a ≤ 255) = false := decide_eq_false (by omega))
    (try have hd2 : decide (b ≤ 255) = false := decide_eq_false (by omega))
    have HG := Lib.hid hg
    clear hg
    go_enter Tryd.func8, Tryd.ntmps8
    go_wp2_with fail
    refine (set_bad A n cap a b L _ hn HP.out HO.out).mono ?_
    rintro e w1 ⟨rfl, hb1⟩
    have HB1 := Lib.hid hb1
    clear hb1
    go_wp2_with fail
    refine (valid_is A n cap _ L _ hn ((HP.out.below HB1.out).more HB1.out.size) HG.out).mono ?_
    rintro e w2 ⟨rfl, hb2⟩
    have HB2 := Lib.hid (HB1.out.trans (hb2.mono HB1.out.size))
    clear hb2
    go_wp2_with fail
    refine (awake_true _ (HT.out.below HB2.out)).mono ?_
    rintro e w3 ⟨rfl, hb3⟩
    go_wp2_with fail
    go_ret
    exact ⟨rfl, HB2.out.trans (hb3.mono HB2.out.size)⟩

set_option maxHeartbeats 4000000 in
theorem converts_good (A : Option Addr) (n cap : Nat) (a b o : Int) (L : List (Int × Int)) (w : World) (hn : n ≤ 1000) (hcap : n ≤ cap) (h : PairsIn w w.heap.size A n L) (hT : Tabs w) (hok : setOk L a b = true) :
    Calls Tryd.prog 8 #[.slice A n cap, .int .i64 a, .int .i64 b, .int .i64 o] w fun e w' => e = .returned (.bool true) ∧ Below w.heap.size w w' := by
  obtain ⟨hg, ha, hb⟩ := setOk_yes hok
  obtain ⟨ha0, ha1⟩ := Ch.isCh_iff.1 ha
  obtain ⟨hb0, hb1⟩ := Ch.isCh_iff.1 hb
  obtain ⟨hok2, hback⟩ := set_back hok
  have hgm := good_setP hok
  have hl1 := setP_len hok
  have hca : conv (setP L a b) a = b := by rw [conv_setP hok, if_pos rfl]
  have hco : o ≠ a → conv (setP L a b) o = conv L o := fun hne => by rw [conv_setP hok, if_neg hne]
  obtain ⟨M, hM⟩ : ∃ M, setP L a b = M := ⟨_, rfl⟩
  obtain ⟨v, hv⟩ : ∃ v, conv L a = v := ⟨_, rfl⟩
  obtain ⟨u, hu⟩ : ∃ u, conv L o = u := ⟨_, rfl⟩
  rw [hM] at hok2 hback hgm hl1 hca hco
  rw [hv] at hok2 hback
  rw [hu] at hco
  have HT := Lib.hid hT
  have HP := Lib.hid h
  have HO := Lib.hid hok
  have HO2 := Lib.hid hok2
  have HBK := Lib.hid hback
  have HG := Lib.hid hg
  have HGM := Lib.hid hgm
  have HCA := Lib.hid hca
  have HCO := Lib.hid hco
  have HM := Lib.hid hM
  have HV := Lib.hid hv
  have HU := Lib.hid hu
  have hsame := Lib.hid (show sameB L L = true from decide_eq_true rfl)
  have hlen := Lib.hid h.len
  clear hT h hok hok2 hback hg ha hb hgm hca hco hM hv hu
  by_cases hoa : o = a
  · subst hoa
    go_enter Tryd.func8, Tryd.ntmps8
    go_wp2_with fail
    refine (set_yes A n cap o b L M _ hn HP.out HO.out HM.out).mono ?_
    rintro e w1 ⟨g1, c1, rfl, hc1, hp1, hb1⟩
    have HB1 := Lib.hid hb1
    have HP1 := Lib.hid hp1
    clear hb1 hp1
    go_wp2_with fail
    refine (valid_is A n cap _ L _ hn ((HP.out.below HB1.out).more HB1.out.size) HG.out).mono ?_
    rintro e w2 ⟨rfl, hb2⟩
    have HB2 := Lib.hid (HB1.out.trans (hb2.mono HB1.out.size))
    have HP2 := Lib.hid ((HP1.out.below hb2).more hb2.size)
    clear hb2
    go_wp2_with fail
    refine (convert_is A n cap o v L _ hn hcap ((HP.out.below HB2.out).more HB2.out.size) HV.out).mono ?_
    rintro e w3 ⟨rfl, hb3⟩
    have HB3 := Lib.hid (HB2.out.trans (hb3.mono HB2.out.size))
    have HP3 := Lib.hid ((HP2.out.below hb3).more hb3.size)
    clear hb3
    go_wp2_with fail
    refine (set_yes (some ⟨g1, 0, none⟩) M.length c1 o v M L _ (by omega) HP3.out HO2.out HBK.out).mono ?_
    rintro e w4 ⟨g4, c4, rfl, hc4, hp4, hb4⟩
    have HB4 := Lib.hid (HB3.out.trans (hb4.mono HB3.out.size))
    have HP4 := Lib.hid ((HP3.out.below hb4).more hb4.size)
    have HQ4 := Lib.hid hp4
    clear hb4 hp4
    go_wp2_with fail
    refine (valid_is (some ⟨g1, 0, none⟩) M.length c1 _ M _ (by omega) HP4.out HGM.out).mono ?_
    rintro e w5 ⟨rfl, hb5⟩
    have HB5 := Lib.hid (HB4.out.trans (hb5.mono HB4.out.size))
    have HP5 := Lib.hid ((HP4.out.below hb5).more hb5.size)
    have HQ5 := Lib.hid ((HQ4.out.below hb5).more hb5.size)
    clear hb5
    go_wp2_with fail
    refine (convert_is (some ⟨g1, 0, none⟩) M.length c1 o b M _ (by omega) hc1 HP5.out HCA.out).mono ?_
    rintro e w6 ⟨rfl, hb6⟩
    have HB6 := Lib.hid (HB5.out.trans (hb6.mono HB5.out.size))
    have HQ6 := Lib.hid ((HQ5.out.below hb6).more hb6.size)
    clear hb6
    go_wp2_with fail
    have hs := refSame_any (some ⟨g4, 0, none⟩) A L.length n c4 cap _ _ L L w6 (by have := hlen.out; omega) hn HQ6.out ((HP.out.below HB6.out).more HB6.out.size)
    rw [hsame.out] at hs
    refine hs.mono ?_
    clear hs
    rintro e w7 ⟨rfl, hq⟩
    have HB7 := Lib.hid (HB6.out.trans (below_of_drewN hq))
    clear hq
    go_wp2_with fail
    refine (awake_true _ (HT.out.below HB7.out)).mono ?_
    rintro e w8 ⟨rfl, hb8⟩
    go_wp2_with fail
    go_ret
    exact ⟨rfl, HB7.out.trans (hb8.mono HB7.out.size)⟩
  · have hob : (o == a) = false := by rw [beq_eq_false_iff_ne]; exact hoa
    have HCO2 := Lib.hid (HCO.out hoa)
    clear hoa
    go_enter Tryd.func8, Tryd.ntmps8
    go_wp2_with fail
    refine (set_yes A n cap a b L M _ hn HP.out HO.out HM.out).mono ?_
    rintro e w1 ⟨g1, c1, rfl, hc1, hp1, hb1⟩
    have HB1 := Lib.hid hb1
    have HP1 := Lib.hid hp1
    clear hb1 hp1
    go_wp2_with fail
    refine (valid_is A n cap _ L _ hn ((HP.out.below HB1.out).more HB1.out.size) HG.out).mono ?_
    rintro e w2 ⟨rfl, hb2⟩
    have HB2 := Lib.hid (HB1.out.trans (hb2.mono HB1.out.size))
    have HP2 := Lib.hid ((HP1.out.below hb2).more hb2.size)
    clear hb2
    go_wp2_with fail
    refine (convert_is A n cap a v L _ hn hcap ((HP.out.below HB2.out).more HB2.out.size) HV.out).mono ?_
    rintro e w3 ⟨rfl, hb3⟩
    have HB3 := Lib.hid (HB2.out.trans (hb3.mono HB2.out.size))
    have HP3 := Lib.hid ((HP2.out.below hb3).more hb3.size)
    clear hb3
    go_wp2_with fail
    refine (set_yes (some ⟨g1, 0, none⟩) M.length c1 a v M L _ (by omega) HP3.out HO2.out HBK.out).mono ?_
    rintro e w4 ⟨g4, c4, rfl, hc4, hp4, hb4⟩
    have HB4 := Lib.hid (HB3.out.trans (hb4.mono HB3.out.size))
    have HP4 := Lib.hid ((HP3.out.below hb4).more hb4.size)
    have HQ4 := Lib.hid hp4
    clear hb4 hp4
    go_wp2_with fail
    refine (convert_is (some ⟨g1, 0, none⟩) M.length c1 o u M _ (by omega) hc1 HP4.out HCO2.out).mono ?_
    rintro e w5 ⟨rfl, hb5⟩
    have HB5 := Lib.hid (HB4.out.trans (hb5.mono HB4.out.size))
    have HP5 := Lib.hid ((HP4.out.below hb5).more hb5.size)
    have HQ5 := Lib.hid ((HQ4.out.below hb5).more hb5.size)
    clear hb5
    go_wp2_with fail
    refine (convert_is A n cap o u L _ hn hcap ((HP.out.below HB5.out).more HB5.out.size) HU.out).mono ?_
    rintro e w6 ⟨rfl, hb6⟩
    have HB6 := Lib.hid (HB5.out.trans (hb6.mono HB5.out.size))
    have HP6 := Lib.hid ((HP5.out.below hb6).more hb6.size)
    have HQ6 := Lib.hid ((HQ5.out.below hb6).more hb6.size)
    clear hb6
    go_wp2_with fail
    refine (valid_is (some ⟨g1, 0, none⟩) M.length c1 _ M _ (by omega) HP6.out HGM.out).mono ?_
    rintro e w7 ⟨rfl, hb7⟩
    have HB7 := Lib.hid (HB6.out.trans (hb7.mono HB6.out.size))
    have HP7 := Lib.hid ((HP6.out.below hb7).more hb7.size)
    have HQ7 := Lib.hid ((HQ6.out.below hb7).more hb7.size)
    clear hb7
    go_wp2_with fail
    refine (convert_is (some ⟨g1, 0, none⟩) M.length c1 a b M _ (by omega) hc1 HP7.out HCA.out).mono ?_
    rintro e w8 ⟨rfl, hb8⟩
    have HB8 := Lib.hid (HB7.out.trans (hb8.mono HB7.out.size))
    have HQ8 := Lib.hid ((HQ7.out.below hb8).more hb8.size)
    clear hb8
    go_wp2_with fail
    have hs := refSame_any (some ⟨g4, 0, none⟩) A L.length n c4 cap _ _ L L w8 (by have := hlen.out; omega) hn HQ8.out ((HP.out.below HB8.out).more HB8.out.size)
    rw [hsame.out] at hs
    refine hs.mono ?_
    clear hs
    rintro e w9 ⟨rfl, hq⟩
    have HB9 := Lib.hid (HB8.out.trans (below_of_drewN hq))
    clear hq
    go_wp2_with fail
    refine (awake_true _ (HT.out.below HB9.out)).mono ?_
    rintro e w10 ⟨rfl, hb10⟩
    go_wp2_with fail
    go_ret
    exact ⟨rfl, HB9.out.trans (hb10.mono HB9.out.size)⟩

/-- CharsConverts returns true, for every slice of pairs and every three integers. -/
theorem walk_converts (A : Option Addr) (n cap : Nat) (a b o : Int) (L : List (Int × Int)) (w : World) (hcap : n ≤ cap) (hm : n ≤ 9223372036854775807) (h : PairsIn w w.heap.size A n L) (hT : Tabs w) :
    Calls Tryd.prog 8 #[.slice A n cap, .int .i64 a, .int .i64 b, .int .i64 o] w fun e w' => e = .returned (.bool true) ∧ Below w.heap.size w w' := by
  by_cases hn : n ≤ 1000
  · cases hok : setOk L a b
    · exact converts_bad A n cap a b o L w hn h hT hok
    · exact converts_good A n cap a b o L w hn hcap h hT hok
  · exact converts_long A n cap a b o w (by omega) hm hT

end Go.Proofs.YtdlobgnhoiednaaDoor
