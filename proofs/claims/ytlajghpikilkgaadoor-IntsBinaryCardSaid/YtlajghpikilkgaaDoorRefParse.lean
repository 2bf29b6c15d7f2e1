/-
  The reference's Parse.
-/
import Derived.Test.YtlajghpikilkgaaDoorRefUnary
import Derived.Test.YtlajghpikilkgaaDoorParse
namespace Go.Proofs.YtlajghpikilkgaaDoor
set_option linter.unusedVariables false
set_option linter.unusedSimpArgs false
open Go.RowKit

namespace In
theorem dgR_lt {b c : Int} (hb : b ≤ 36) (h : dg c < b) : dgR c = dg c ∧ dgR c < b := by
  have : dgR c = dg c := if_neg (by omega)
  exact ⟨this, by omega⟩
theorem dgR_ge {b c : Int} (hb : b ≤ 36) (h : ¬ dg c < b) : b ≤ dgR c := by
  unfold dgR; split
  · omega
  · omega
theorem dgR_bd (c : Int) : 0 ≤ dgR c ∧ dgR c ≤ 99 := by
  have := dg_bd c
  unfold dgR; split <;> omega
theorem rest_minus {l : List UInt8} {c : UInt8} {r : List UInt8} (hl : l = c :: r) (hc : (c.toNat : Int) = 45) : rest l = l.drop 1 ∧ minus l = true := by
  have h45 : c = 45 := by
    apply UInt8.toNat_inj.1
    have : c.toNat = 45 := by omega
    rw [this]; rfl
  subst hl
  subst h45
  have : Lib.hasPrefix (45 :: r) [45] = true := by simp [Lib.hasPrefix, List.isPrefixOf]
  exact ⟨by unfold rest Lib.trimPrefix; rw [this]; rfl, this⟩
theorem rest_plus {l : List UInt8} {c : UInt8} {r : List UInt8} (hl : l = c :: r) (hc : ¬ (c.toNat : Int) = 45) : rest l = l.drop 0 ∧ minus l = false := by
  have h45 : c ≠ 45 := by
    intro e; subst e; exact hc rfl
  subst hl
  have : Lib.hasPrefix (c :: r) [45] = false := by
    simp [Lib.hasPrefix, List.isPrefixOf]
    exact fun e => h45 e.symm
  exact ⟨by unfold rest Lib.trimPrefix; rw [this]; rfl, this⟩
/-- The number up to place k, counted from place F. -/
def upto (b : Int) (l : List UInt8) (F k : Nat) : Int := val b ((l.drop F).take (k - F))
theorem upto_start (b : Int) (l : List UInt8) (F : Nat) : upto b l F F = 0 := by unfold upto; simp [val]
theorem upto_step (b : Int) (l : List UInt8) (F k : Nat) (hF : F ≤ k) (h : k < l.length) : upto b l F (k + 1) = upto b l F k * b + dg (l[k].toNat : Int) := by
  unfold upto
  have hl : k - F < (l.drop F).length := by rw [List.length_drop]; omega
  rw [show k + 1 - F = k - F + 1 by omega, val_step b _ _ hl, List.getElem_drop]
  have e : F + (k - F) = k := by omega
  simp only [e]
theorem upto_all (b : Int) (l : List UInt8) (F : Nat) (h : F ≤ l.length) : upto b l F l.length = val b (l.drop F) := by
  unfold upto
  rw [List.take_of_length_le (by rw [List.length_drop]; exact Nat.le_refl _)]
theorem upto_le (b : Int) (hb : 1 ≤ b) (l : List UInt8) (F k : Nat) : upto b l F k ≤ val b (l.drop F) := val_take b hb _ _
theorem upto_nonneg (b : Int) (hb : 0 ≤ b) (l : List UInt8) (F k : Nat) : 0 ≤ upto b l F k := val_nonneg b hb _
theorem big_fit (n : Bool) {v : Int} (h : 9223372036854775808 < v) : fit (sgn n v) = (0, 10) := by
  refine fit_no ?_
  unfold sgn ok
  split <;> omega
theorem areD_drop {b : Int} {l : List UInt8} {F : Nat} (hF : F < l.length) (h : ∀ j (hj : j < l.length), F ≤ j → dg (l[j].toNat : Int) < b) : areD b (l.drop F) = true := by
  refine (areD_iff b _).2 ⟨fun e => ?_, fun k hk => ?_⟩
  · have := congrArg List.length e
    rw [List.length_drop] at this
    simp at this
    omega
  · rw [List.getElem_drop]
    rw [List.length_drop] at hk
    exact h (F + k) (by omega) (by omega)
theorem areD_drop_bad {b : Int} {l : List UInt8} {F k : Nat} (hF : F ≤ k) (hk : k < l.length) (h : ¬ dg (l[k].toNat : Int) < b) : areD b (l.drop F) = false := by
  have hl : k - F < (l.drop F).length := by rw [List.length_drop]; omega
  refine areD_bad hl ?_
  rw [List.getElem_drop]
  have e : F + (k - F) = k := by omega
  simp only [e]
  omega
end In

set_option maxHeartbeats 4000000 in
set_option maxRecDepth 100000 in
theorem refParse_0 (s : ByteArray) (b : Int) (w : World) (hs : s.size ≤ 9223372036854775807) (hb2 : 2 ≤ b) (hb36 : b ≤ 36) (h0 : 0 < s.size) (ht : ((s[0].toNat : Int) == 45) = false) (hlen : 0 < s.size) (p : Int × Int)
    (hres : (In.areD b (s.data.toList.drop 0) = true → p = In.fit (In.sgn false (In.val b (s.data.toList.drop 0)))) ∧ (In.areD b (s.data.toList.drop 0) = false → p = (0, 3))) :
    Calls Tryd.prog 21 #[.string s, .int .i64 b] w fun e w' => e = .returned (.tuple #[.int .i64 p.1, .int .i64 p.2]) ∧ w = w' := by
  have HRES := Lib.hid hres
  clear hres
  obtain ⟨p1, hp1⟩ : ∃ x, x = p.1 := ⟨_, rfl⟩
  obtain ⟨p2, hp2⟩ : ∃ x, x = p.2 := ⟨_, rfl⟩
  rw [← hp1, ← hp2]
  have HP1 := Lib.hid hp1
  have HP2 := Lib.hid hp2
  clear hp1 hp2
  have hlb1 : decide (b < 2) = false := decide_eq_false (by omega)
  have hlb2 : decide (36 < b) = false := decide_eq_false (by omega)
  have hls : ((s.size : Int) == 0) = false := beq_eq_false_iff_ne.2 (by omega)
  have hl0 : decide ((0 : Int) < (s.size : Int)) = true := decide_eq_true (by omega)
  go_enter Tryd.func21, Tryd.ntmps21
  go_wp2_with fail
  go_loop [7] (fun i => ∃ k : Nat, 0 ≤ k ∧ k ≤ s.size ∧ (∀ j (h : j < s.data.toList.length), 0 ≤ j → j < k → In.dg (s.data.toList[j].toNat : Int) < b) ∧ i = .int .i64 k) (fun i => s.size - (Lib.intOf i).toNat)
  case atStart => exact ⟨0, Nat.le_refl _, by omega, fun _ _ h1 h2 => by omega, rfl⟩
  case round =>
    obtain ⟨k, hFk, hk, hall, rfl⟩ := hrel
    have HALL := Lib.hid hall
    clear hall
    by_cases hlt : k < s.size
    · have hl : k < s.data.toList.length := by simpa using hlt
      have hc0 : (0 : Int) ≤ (s[k].toNat : Int) := by omega
      have hc1 : (s[k].toNat : Int) < 256 := by have := s[k].toNat_lt; omega
      have c1 := fun w => refDigit_any (s[k].toNat : Int) w hc0 hc1
      have hbd := In.dgR_bd (s[k].toNat : Int)
      by_cases hg : In.dg (s[k].toNat : Int) < b
      · have hg2 := (In.dgR_lt hb36 hg).2
        have HG := Lib.hid hg
        obtain ⟨d, hd⟩ : ∃ d, d = In.dgR (s[k].toNat : Int) := ⟨_, rfl⟩
        rw [← hd] at c1 hg2 hbd
        have C1 := Lib.hid c1
        clear c1 hd hg
        go_wp2_with fail
        refine (C1.out _).mono ?_
        rintro e w1 ⟨rfl, rfl⟩
        go_wp2_with fail
        go_round
        case rel =>
          refine ⟨k + 1, by omega, by omega, fun j hj hF hjk => ?_, by go_num⟩
          by_cases e : j < k
          · exact HALL.out j hj hF e
          · obtain rfl : j = k := by omega
            exact HG.out
        case measure => simp [Lib.intOf]; omega
      · have hg2 := In.dgR_ge hb36 hg
        have hbad := HRES.out.2 (In.areD_drop_bad hFk hl hg)
        have HBAD := Lib.hid hbad
        obtain ⟨d, hd⟩ : ∃ d, d = In.dgR (s[k].toNat : Int) := ⟨_, rfl⟩
        rw [← hd] at c1 hg2 hbd
        have C1 := Lib.hid c1
        clear c1 hd hg hbad
        go_wp2_with fail
        refine (C1.out _).mono ?_
        rintro e w1 ⟨rfl, rfl⟩
        go_wp2_with fail
        go_ret2
        exact ⟨ret_two (by rw [HP1.out, HBAD.out]) (by rw [HP2.out, HBAD.out]), rfl⟩
    · have hall : ∀ j (h : j < s.data.toList.length), 0 ≤ j → In.dg (s.data.toList[j].toNat : Int) < b := fun j hj hF => HALL.out j hj hF (by simp at hj; omega)
      have hok := HRES.out.1 (In.areD_drop (by simp; omega) hall)
      have RES := Lib.hid (And.intro hok True.intro)
      have ALLD := Lib.hid hall
      clear hok hall
      go_wp2_with fail
      go_loop [8, 9] (fun n i => ∃ k : Nat, 0 ≤ k ∧ k ≤ s.size ∧ In.ok (-In.upto b s.data.toList 0 k) ∧ n = .int .i64 (-In.upto b s.data.toList 0 k) ∧ i = .int .i64 k) (fun _ i => s.size - (Lib.intOf i).toNat)
      case atStart => exact ⟨0, Nat.le_refl _, by omega, by rw [In.upto_start]; decide, by rw [In.upto_start]; rfl, rfl⟩
      case round =>
        obtain ⟨j, hFj, hj, hokj, rfl, rfl⟩ := hrel
        by_cases hltj : j < s.size
        · have hl : j < s.data.toList.length := by simpa using hltj
          have hc0 : (0 : Int) ≤ (s[j].toNat : Int) := by omega
          have hc1 : (s[j].toNat : Int) < 256 := by have := s[j].toNat_lt; omega
          have hg : In.dg (s[j].toNat : Int) < b := ALLD.out j hl hFj
          obtain ⟨hdr, _⟩ := In.dgR_lt hb36 hg
          have d1 := fun w => refDigit_any (s[j].toNat : Int) w hc0 hc1
          have hstep : In.upto b s.data.toList 0 (j + 1) = In.upto b s.data.toList 0 j * b + In.dg (s[j].toNat : Int) := In.upto_step b s.data.toList 0 j hFj hl
          have hn0 := In.upto_nonneg b (by omega) s.data.toList 0 j
          have hle := In.upto_le b (by omega) s.data.toList 0 (j + 1)
          have hbd := In.dg_bd (s[j].toNat : Int)
          rw [hdr] at d1
          have m1 := fun w => refMul_any (-In.upto b s.data.toList 0 j) b w hokj (by unfold In.ok; omega)
          obtain ⟨d, hd⟩ : ∃ d, d = In.dg (s[j].toNat : Int) := ⟨_, rfl⟩
          obtain ⟨v, hv⟩ : ∃ v, v = In.upto b s.data.toList 0 j := ⟨_, rfl⟩
          obtain ⟨v1, hv1⟩ : ∃ v, v = In.upto b s.data.toList 0 (j + 1) := ⟨_, rfl⟩
          rw [← hd] at d1 hstep hbd
          rw [← hv] at hstep hn0 m1 ⊢
          rw [← hv1] at hstep hle
          obtain ⟨q, hq⟩ : ∃ q, q = -v * b := ⟨_, rfl⟩
          have hvb : v * b = -q := by rw [hq, Int.neg_mul]; omega
          have hvb0 : 0 ≤ v * b := Int.mul_nonneg hn0 (by omega)
          have hq0 : q ≤ 0 := by omega
          rw [← hq] at m1
          rw [hvb] at hstep
          have D1 := Lib.hid d1
          have HV1 := Lib.hid hv1
          obtain ⟨u, hu⟩ : ∃ u, u = -v := ⟨_, rfl⟩
          rw [← hu] at m1 ⊢
          clear d1 hdr hd hv hv1 hvb hvb0 hq hu hokj hg
          by_cases hm : In.ok q
          · rw [In.fit_yes hm] at m1
            have M1 := Lib.hid m1
            have t1 := fun w => refSub_any q d w hm (by unfold In.ok; omega)
            clear m1
            by_cases hs2 : In.ok (q - d)
            · rw [In.fit_yes hs2] at t1
              have e1 : q - d = -v1 := by omega
              rw [e1] at t1 hs2
              obtain ⟨z, hz⟩ : ∃ z, z = -v1 := ⟨_, rfl⟩
              rw [← hz] at t1
              have HZ := Lib.hid hz
              have HS2 := Lib.hid hs2
              have T1 := Lib.hid t1
              clear t1 hs2 hz e1 hstep hle hm hn0 hq0
              go_wp2_with fail
              refine (M1.out _).mono ?_
              rintro e w1 ⟨rfl, rfl⟩
              go_wp2_with fail
              refine (D1.out _).mono ?_
              rintro e w1 ⟨rfl, rfl⟩
              go_wp2_with fail
              refine (T1.out _).mono ?_
              rintro e w1 ⟨rfl, rfl⟩
              go_wp2_with fail
              go_round
              case rel => exact ⟨j + 1, by omega, by omega, by rw [← HV1.out]; exact HS2.out, by rw [← HV1.out, ← HZ.out], by go_num⟩
              case measure => simp [Lib.intOf]; omega
            · rw [In.fit_no hs2] at t1
              have hbig : 9223372036854775808 < In.val b (s.data.toList.drop 0) := by unfold In.ok at hs2 hm; omega
              have BIG := Lib.hid (RES.out.1.trans (In.big_fit _ hbig))
              have T1 := Lib.hid t1
              clear t1 hs2 hbig hstep hle hm hn0 hq0
              go_wp2_with fail
              refine (M1.out _).mono ?_
              rintro e w1 ⟨rfl, rfl⟩
              go_wp2_with fail
              refine (D1.out _).mono ?_
              rintro e w1 ⟨rfl, rfl⟩
              go_wp2_with fail
              refine (T1.out _).mono ?_
              rintro e w1 ⟨rfl, rfl⟩
              go_wp2_with fail
              go_ret2
              exact ⟨ret_two (by rw [HP1.out, BIG.out]) (by rw [HP2.out, BIG.out]), rfl⟩
          · rw [In.fit_no hm] at m1
            have hbig : 9223372036854775808 < In.val b (s.data.toList.drop 0) := by unfold In.ok at hm; omega
            have BIG := Lib.hid (RES.out.1.trans (In.big_fit _ hbig))
            have M1 := Lib.hid m1
            clear m1 hbig hstep hle hm hn0 hq0
            go_wp2_with fail
            refine (M1.out _).mono ?_
            rintro e w1 ⟨rfl, rfl⟩
            go_wp2_with fail
            go_ret2
            exact ⟨ret_two (by rw [HP1.out, BIG.out]) (by rw [HP2.out, BIG.out]), rfl⟩
        · obtain rfl : j = s.size := by omega
          have hlen2 : s.data.toList.length = s.size := by simp
          have hup : In.upto b s.data.toList 0 s.size = In.val b (s.data.toList.drop 0) := by
            rw [← In.upto_all b s.data.toList 0 (by rw [hlen2]; omega)]; try simp
          rw [hup] at hokj ⊢
          have c1 := fun w => refSub_any 0 (-In.val b (s.data.toList.drop 0)) w (by decide) hokj
          rw [show (0 : Int) - -In.val b (s.data.toList.drop 0) = In.val b (s.data.toList.drop 0) by omega] at c1
          have hfin : p = In.fit (In.val b (s.data.toList.drop 0)) := RES.out.1
          obtain ⟨f, hf⟩ : ∃ f, f = In.fit (In.val b (s.data.toList.drop 0)) := ⟨_, rfl⟩
          rw [← hf] at c1 hfin
          have HF := Lib.hid hfin
          obtain ⟨u, hu⟩ : ∃ u, u = -In.val b (s.data.toList.drop 0) := ⟨_, rfl⟩
          rw [← hu] at c1 ⊢
          have C1 := Lib.hid c1
          clear hu hf hfin c1 hokj hup
          go_wp2_with fail
          refine (C1.out _).mono ?_
          rintro e w1 ⟨rfl, rfl⟩
          go_wp2_with fail
          go_ret2
          exact ⟨ret_two (by rw [HP1.out, HF.out]) (by rw [HP2.out, HF.out]), rfl⟩

set_option maxHeartbeats 4000000 in
set_option maxRecDepth 100000 in
theorem refParse_1 (s : ByteArray) (b : Int) (w : World) (hs : s.size ≤ 9223372036854775807) (hb2 : 2 ≤ b) (hb36 : b ≤ 36) (h0 : 0 < s.size) (ht : ((s[0].toNat : Int) == 45) = true) (hlen : 1 < s.size) (p : Int × Int)
    (hres : (In.areD b (s.data.toList.drop 1) = true → p = In.fit (In.sgn true (In.val b (s.data.toList.drop 1)))) ∧ (In.areD b (s.data.toList.drop 1) = false → p = (0, 3))) :
    Calls Tryd.prog 21 #[.string s, .int .i64 b] w fun e w' => e = .returned (.tuple #[.int .i64 p.1, .int .i64 p.2]) ∧ w = w' := by
  have HRES := Lib.hid hres
  clear hres
  obtain ⟨p1, hp1⟩ : ∃ x, x = p.1 := ⟨_, rfl⟩
  obtain ⟨p2, hp2⟩ : ∃ x, x = p.2 := ⟨_, rfl⟩
  rw [← hp1, ← hp2]
  have HP1 := Lib.hid hp1
  have HP2 := Lib.hid hp2
  clear hp1 hp2
  have hlb1 : decide (b < 2) = false := decide_eq_false (by omega)
  have hlb2 : decide (36 < b) = false := decide_eq_false (by omega)
  have hls : ((s.size : Int) == 1) = false := beq_eq_false_iff_ne.2 (by omega)
  have hl0 : decide ((0 : Int) < (s.size : Int)) = true := decide_eq_true (by omega)
  go_enter Tryd.func21, Tryd.ntmps21
  go_wp2_with fail
  go_loop [7] (fun i => ∃ k : Nat, 1 ≤ k ∧ k ≤ s.size ∧ (∀ j (h : j < s.data.toList.length), 1 ≤ j → j < k → In.dg (s.data.toList[j].toNat : Int) < b) ∧ i = .int .i64 k) (fun i => s.size - (Lib.intOf i).toNat)
  case atStart => exact ⟨1, Nat.le_refl _, by omega, fun _ _ h1 h2 => by omega, rfl⟩
  case round =>
    obtain ⟨k, hFk, hk, hall, rfl⟩ := hrel
    have HALL := Lib.hid hall
    clear hall
    by_cases hlt : k < s.size
    · have hl : k < s.data.toList.length := by simpa using hlt
      have hc0 : (0 : Int) ≤ (s[k].toNat : Int) := by omega
      have hc1 : (s[k].toNat : Int) < 256 := by have := s[k].toNat_lt; omega
      have c1 := fun w => refDigit_any (s[k].toNat : Int) w hc0 hc1
      have hbd := In.dgR_bd (s[k].toNat : Int)
      by_cases hg : In.dg (s[k].toNat : Int) < b
      · have hg2 := (In.dgR_lt hb36 hg).2
        have HG := Lib.hid hg
        obtain ⟨d, hd⟩ : ∃ d, d = In.dgR (s[k].toNat : Int) := ⟨_, rfl⟩
        rw [← hd] at c1 hg2 hbd
        have C1 := Lib.hid c1
        clear c1 hd hg
        go_wp2_with fail
        refine (C1.out _).mono ?_
        rintro e w1 ⟨rfl, rfl⟩
        go_wp2_with fail
        go_round
        case rel =>
          refine ⟨k + 1, by omega, by omega, fun j hj hF hjk => ?_, by go_num⟩
          by_cases e : j < k
          · exact HALL.out j hj hF e
          · obtain rfl : j = k := by omega
            exact HG.out
        case measure => simp [Lib.intOf]; omega
      · have hg2 := In.dgR_ge hb36 hg
        have hbad := HRES.out.2 (In.areD_drop_bad hFk hl hg)
        have HBAD := Lib.hid hbad
        obtain ⟨d, hd⟩ : ∃ d, d = In.dgR (s[k].toNat : Int) := ⟨_, rfl⟩
        rw [← hd] at c1 hg2 hbd
        have C1 := Lib.hid c1
        clear c1 hd hg hbad
        go_wp2_with fail
        refine (C1.out _).mono ?_
        rintro e w1 ⟨rfl, rfl⟩
        go_wp2_with fail
        go_ret2
        exact ⟨ret_two (by rw [HP1.out, HBAD.out]) (by rw [HP2.out, HBAD.out]), rfl⟩
    · have hall : ∀ j (h : j < s.data.toList.length), 1 ≤ j → In.dg (s.data.toList[j].toNat : Int) < b := fun j hj hF => HALL.out j hj hF (by simp at hj; omega)
      have hok := HRES.out.1 (In.areD_drop (by simp; omega) hall)
      have RES := Lib.hid (And.intro hok True.intro)
      have ALLD := Lib.hid hall
      clear hok hall
      go_wp2_with fail
      go_loop [8, 9] (fun n i => ∃ k : Nat, 1 ≤ k ∧ k ≤ s.size ∧ In.ok (-In.upto b s.data.toList 1 k) ∧ n = .int .i64 (-In.upto b s.data.toList 1 k) ∧ i = .int .i64 k) (fun _ i => s.size - (Lib.intOf i).toNat)
      case atStart => exact ⟨1, Nat.le_refl _, by omega, by rw [In.upto_start]; decide, by rw [In.upto_start]; rfl, rfl⟩
      case round =>
        obtain ⟨j, hFj, hj, hokj, rfl, rfl⟩ := hrel
        by_cases hltj : j < s.size
        · have hl : j < s.data.toList.length := by simpa using hltj
          have hc0 : (0 : Int) ≤ (s[j].toNat : Int) := by omega
          have hc1 : (s[j].toNat : Int) < 256 := by have := s[j].toNat_lt; omega
          have hg : In.dg (s[j].toNat : Int) < b := ALLD.out j hl hFj
          obtain ⟨hdr, _⟩ := In.dgR_lt hb36 hg
          have d1 := fun w => refDigit_any (s[j].toNat : Int) w hc0 hc1
          have hstep : In.upto b s.data.toList 1 (j + 1) = In.upto b s.data.toList 1 j * b + In.dg (s[j].toNat : Int) := In.upto_step b s.data.toList 1 j hFj hl
          have hn0 := In.upto_nonneg b (by omega) s.data.toList 1 j
          have hle := In.upto_le b (by omega) s.data.toList 1 (j + 1)
          have hbd := In.dg_bd (s[j].toNat : Int)
          rw [hdr] at d1
          have m1 := fun w => refMul_any (-In.upto b s.data.toList 1 j) b w hokj (by unfold In.ok; omega)
          obtain ⟨d, hd⟩ : ∃ d, d = In.dg (s[j].toNat : Int) := ⟨_, rfl⟩
          obtain ⟨v, hv⟩ : ∃ v, v = In.upto b s.data.toList 1 j := ⟨_, rfl⟩
          obtain ⟨v1, hv1⟩ : ∃ v, v = In.upto b s.data.toList 1 (j + 1) := ⟨_, rfl⟩
          rw [← hd] at d1 hstep hbd
          rw [← hv] at hstep hn0 m1 ⊢
          rw [← hv1] at hstep hle
          obtain ⟨q, hq⟩ : ∃ q, q = -v * b := ⟨_, rfl⟩
          have hvb : v * b = -q := by rw [hq, Int.neg_mul]; omega
          have hvb0 : 0 ≤ v * b := Int.mul_nonneg hn0 (by omega)
          have hq0 : q ≤ 0 := by omega
          rw [← hq] at m1
          rw [hvb] at hstep
          have D1 := Lib.hid d1
          have HV1 := Lib.hid hv1
          obtain ⟨u, hu⟩ : ∃ u, u = -v := ⟨_, rfl⟩
          rw [← hu] at m1 ⊢
          clear d1 hdr hd hv hv1 hvb hvb0 hq hu hokj hg
          by_cases hm : In.ok q
          · rw [In.fit_yes hm] at m1
            have M1 := Lib.hid m1
            have t1 := fun w => refSub_any q d w hm (by unfold In.ok; omega)
            clear m1
            by_cases hs2 : In.ok (q - d)
            · rw [In.fit_yes hs2] at t1
              have e1 : q - d = -v1 := by omega
              rw [e1] at t1 hs2
              obtain ⟨z, hz⟩ : ∃ z, z = -v1 := ⟨_, rfl⟩
              rw [← hz] at t1
              have HZ := Lib.hid hz
              have HS2 := Lib.hid hs2
              have T1 := Lib.hid t1
              clear t1 hs2 hz e1 hstep hle hm hn0 hq0
              go_wp2_with fail
              refine (M1.out _).mono ?_
              rintro e w1 ⟨rfl, rfl⟩
              go_wp2_with fail
              refine (D1.out _).mono ?_
              rintro e w1 ⟨rfl, rfl⟩
              go_wp2_with fail
              refine (T1.out _).mono ?_
              rintro e w1 ⟨rfl, rfl⟩
              go_wp2_with fail
              go_round
              case rel => exact ⟨j + 1, by omega, by omega, by rw [← HV1.out]; exact HS2.out, by rw [← HV1.out, ← HZ.out], by go_num⟩
              case measure => simp [Lib.intOf]; omega
            · rw [In.fit_no hs2] at t1
              have hbig : 9223372036854775808 < In.val b (s.data.toList.drop 1) := by unfold In.ok at hs2 hm; omega
              have BIG := Lib.hid (RES.out.1.trans (In.big_fit _ hbig))
              have T1 := Lib.hid t1
              clear t1 hs2 hbig hstep hle hm hn0 hq0
              go_wp2_with fail
              refine (M1.out _).mono ?_
              rintro e w1 ⟨rfl, rfl⟩
              go_wp2_with fail
              refine (D1.out _).mono ?_
              rintro e w1 ⟨rfl, rfl⟩
              go_wp2_with fail
              refine (T1.out _).mono ?_
              rintro e w1 ⟨rfl, rfl⟩
              go_wp2_with fail
              go_ret2
              exact ⟨ret_two (by rw [HP1.out, BIG.out]) (by rw [HP2.out, BIG.out]), rfl⟩
          · rw [In.fit_no hm] at m1
            have hbig : 9223372036854775808 < In.val b (s.data.toList.drop 1) := by unfold In.ok at hm; omega
            have BIG := Lib.hid (RES.out.1.trans (In.big_fit _ hbig))
            have M1 := Lib.hid m1
            clear m1 hbig hstep hle hm hn0 hq0
            go_wp2_with fail
            refine (M1.out _).mono ?_
            rintro e w1 ⟨rfl, rfl⟩
            go_wp2_with fail
            go_ret2
            exact ⟨ret_two (by rw [HP1.out, BIG.out]) (by rw [HP2.out, BIG.out]), rfl⟩
        · obtain rfl : j = s.size := by omega
          have hlen2 : s.data.toList.length = s.size := by simp
          have hup : In.upto b s.data.toList 1 s.size = In.val b (s.data.toList.drop 1) := by
            rw [← In.upto_all b s.data.toList 1 (by rw [hlen2]; omega)]; try simp
          rw [hup] at hokj ⊢
          obtain ⟨u, hu⟩ : ∃ u, u = -In.val b (s.data.toList.drop 1) := ⟨_, rfl⟩
          have hfin : p = (u, 0) := by
            rw [RES.out.1, hu]
            exact In.fit_yes hokj
          have HF := Lib.hid hfin
          rw [← hu]
          clear hu hfin hokj hup
          go_wp2_with fail
          go_ret2
          exact ⟨ret_two (by rw [HP1.out, HF.out]) (by rw [HP2.out, HF.out]), rfl⟩

set_option maxHeartbeats 1000000 in
set_option maxRecDepth 100000 in
theorem refParse_any (s : ByteArray) (b : Int) (w : World) (hs : s.size ≤ 9223372036854775807) :
    Calls Tryd.prog 21 #[.string s, .int .i64 b] w fun e w' => e = .returned (.tuple #[.int .i64 (In.parse s.data.toList b).1, .int .i64 (In.parse s.data.toList b).2]) ∧ w = w' := by
  by_cases hb : b < 2
  · rw [In.parse_base (.inl hb)]
    go_enter Tryd.func21, Tryd.ntmps21
    go_wp2_with fail
    go_ret2
    exact ⟨rfl, rfl⟩
  by_cases hb' : 36 < b
  · rw [In.parse_base (.inr hb')]
    have hb2 : 2 ≤ b := by omega
    clear hb
    go_enter Tryd.func21, Tryd.ntmps21
    go_wp2_with fail
    go_ret2
    exact ⟨rfl, rfl⟩
  have hb2 : 2 ≤ b := by omega
  have hb36 : b ≤ 36 := by omega
  have hp := fun h => In.parse_num (l := s.data.toList) hb2 hb36 h
  have hq := fun h => In.parse_form (l := s.data.toList) hb2 hb36 h
  by_cases h0 : s.size = 0
  · have hl : s.data.toList = [] := List.eq_nil_of_length_eq_zero (by simpa using h0)
    rw [hq (by rw [hl]; rfl)]
    obtain rfl : s = ⟨#[]⟩ := bytes_of hl
    clear hb hb' hp hq hl h0 hs
    go_enter Tryd.func21, Tryd.ntmps21
    go_wp2_with fail
    go_ret2
    exact ⟨rfl, rfl⟩
  have h0' : 0 < s.size := by omega
  have hc : s.data.toList = s[0] :: s.data.toList.drop 1 := by
    exact (List.getElem_cons_drop (i := 0) (h := by simpa using h0')).symm
  by_cases h45 : (s[0].toNat : Int) = 45
  · obtain ⟨e1, e2⟩ := In.rest_minus hc h45
    rw [e1, e2] at hp
    rw [e1] at hq
    by_cases h1 : s.size = 1
    · have hd : s.data.toList.drop 1 = [] := List.drop_eq_nil_of_le (by simp; omega)
      rw [hq (by rw [hd]; rfl)]
      have ht : ((s[0].toNat : Int) == 45) = true := by simpa using h45
      have hls : ((s.size : Int) == 1) = true := by simp; omega
      have hl0 : (0 : Int) < (s.size : Int) := by omega
      clear hb hb' hp hq hd h0 hs hc e1 e2 h45 h1
      go_enter Tryd.func21, Tryd.ntmps21
      go_wp2_with fail
      go_ret2
      exact ⟨rfl, rfl⟩
    · exact refParse_1 s b w hs hb2 hb36 h0' (by simpa using h45) (by omega) _ ⟨hp, hq⟩
  · obtain ⟨e1, e2⟩ := In.rest_plus hc h45
    rw [e1, e2] at hp
    rw [e1] at hq
    exact refParse_0 s b w hs hb2 hb36 h0' (by simpa using h45) (by omega) _ ⟨hp, hq⟩
end Go.Proofs.YtlajghpikilkgaaDoor
