/-
  How often a variable occurs.
-/
import Derived.Test.YtmljkhofahgelaaRRename
import Derived.Test.YtmljkhofahgelaaRPut
namespace Go.Proofs.Ytmljkhofahgelaa
set_option linter.unusedVariables false
set_option linter.unusedSimpArgs false
open Go.RowKit

namespace Tm
/-- How often a variable occurs in a row. -/
def cF (x : Int) : Fo → Nat
  | .nil => 0
  | .node p l r => (if p.1 = 0 ∧ p.2.1 = x then 1 else 0) + cF x l + cF x r
def cT (x : Int) (p : Pay) (l : Fo) : Nat := (if p.1 = 0 ∧ p.2.1 = x then 1 else 0) + cF x l
theorem cF_cons (x : Int) (p : Pay) (l r : Fo) : cF x (.node p l r) = cT x p l + cF x r := rfl
theorem cF_le (x : Int) (F : Fo) : cF x F ≤ size F := by
  induction F with
  | nil => exact Nat.le_refl _
  | node p l r ihl ihr => simp only [cF, size]; split <;> omega
theorem cT_le (x : Int) (p : Pay) (l : Fo) : cT x p l ≤ 1 + size l := by
  have := cF_le x l
  unfold cT
  split <;> omega
theorem cF_drop_le (x : Int) (F : Fo) (k : Nat) : cF x (dropF F k) ≤ cF x F := by
  induction F generalizing k with
  | nil => rw [drop_nil]; exact Nat.le_refl _
  | node p l r _ ih =>
    cases k with
    | zero => exact Nat.le_refl _
    | succ k => simp only [dropF, cF]; have := ih k; omega
theorem size_put (x : Int) (pb : Pay) (lb : Fo) (F : Fo) (hF : allB F = true) : size (reb (putF x (pb, lb)) () F).2 = size F + cF x F * size lb := by
  induction F with
  | nil => simp [reb, size, cF]
  | node p l r ihl ihr =>
    simp only [allB, Bool.and_eq_true] at hF
    obtain ⟨⟨hn, hl⟩, hr⟩ := hF
    rw [reb_cons]
    unfold rebT
    by_cases h0 : p.1 = 0
    · obtain ⟨k, v, nm⟩ := p
      have h0' : k = 0 := h0
      subst h0'
      obtain ⟨_, _, rfl, h4⟩ := nodeB_var hn
      obtain rfl := len_zero h4
      rw [if_pos rfl]
      have hr' := ihr hr
      unfold putF
      by_cases hv : v = x
      · simp only [if_pos hv]
        show 1 + size lb + size (reb (putF x (pb, lb)) () r).2 = _
        rw [hr']
        have e1 : cF x (.node (0, v, ByteArray.empty) .nil r) = 1 + 0 + cF x r := by
          show (if (0 : Int) = 0 ∧ v = x then 1 else 0) + 0 + cF x r = _
          rw [if_pos ⟨rfl, hv⟩]
        have e2 : size (.node (0, v, ByteArray.empty) .nil r) = 1 + 0 + size r := rfl
        rw [e1, e2, Nat.add_mul, Nat.add_mul]
        omega
      · simp only [if_neg hv]
        show 1 + size .nil + size (reb (putF x (pb, lb)) () r).2 = _
        rw [hr']
        have e1 : cF x (.node (0, v, ByteArray.empty) .nil r) = 0 + 0 + cF x r := by
          show (if (0 : Int) = 0 ∧ v = x then 1 else 0) + 0 + cF x r = _
          rw [if_neg (fun h => hv h.2)]
        have e2 : size (.node (0, v, ByteArray.empty) .nil r) = 1 + 0 + size r := rfl
        rw [e1, e2, Nat.add_mul, Nat.add_mul]
        show 1 + 0 + _ = _
        omega
    · rw [if_neg h0]
      show 1 + size (reb (putF x (pb, lb)) () l).2 + size (reb (putF x (pb, lb)) () r).2 = _
      rw [ihl hl, ihr hr]
      simp only [size, cF, if_neg (fun h : p.1 = 0 ∧ p.2.1 = x => h0 h.1)]
      rw [Nat.add_mul, Nat.add_mul]
      omega
theorem sizeT_put (x : Int) (pb : Pay) (lb : Fo) (p : Pay) (l : Fo) (h : goodB p l = true) : size (rebT (putF x (pb, lb)) () p l).2.2 = size l + cT x p l * size lb := by
  have hF : allB (.node p l .nil) = true := by rw [allB_cons, h]; rfl
  have e := size_put x pb lb _ hF
  rw [reb_cons, cF_cons] at e
  have e' : 1 + size (rebT (putF x (pb, lb)) () p l).2.2 + 0 = 1 + size l + 0 + (cT x p l + 0) * size lb := e
  rw [Nat.add_zero (cT x p l)] at e'
  omega
end Tm

set_option maxHeartbeats 2000000 in
theorem rocc_up (x : Int) (m : Nat) : ∀ (p : Pay) (l : Fo) (A : Option Addr) (c B : Nat) (w : World), Tm.size l < m → m ≤ 3000 → ArgsB w B A (Tm.len l) l → B ≤ w.heap.size →
    Calls Try.prog 56 #[tv p A (Tm.len l) c, .int .i64 x] w fun e w' => e = .returned (.int .i64 (Tm.cT x p l : Nat)) ∧ Below w.heap.size w w' := by
  induction m with
  | zero => intro p l A c B w hm; omega
  | succ m ih =>
    intro p l A c B w hm hm3 hA hBw
    obtain ⟨n, hn⟩ : ∃ n, n = Tm.len l := ⟨_, rfl⟩
    rw [← hn] at hA ⊢
    have hnn : n ≤ 9223372036854775807 := hA.hi
    obtain ⟨s0, hs0⟩ : ∃ s0, s0 = (if p.1 = 0 ∧ p.2.1 = x then 1 else 0 : Nat) := ⟨_, rfl⟩
    have hct : Tm.cT x p l = s0 + Tm.cF x l := by rw [hs0]; rfl
    rw [hct]
    have hs1 : s0 ≤ 1 := by rw [hs0]; split <;> omega
    have hcl := Tm.cF_le x l
    have HN := Lib.hid hn
    have HA := Lib.hid hA
    have HM := Lib.hid hm
    have IH := Lib.hid ih
    have ways : ((p.1 == 0) = false ∧ s0 = 0) ∨ ((p.1 == 0) = true ∧ (p.2.1 == x) = false ∧ s0 = 0) ∨ ((p.1 == 0) = true ∧ (p.2.1 == x) = true ∧ s0 = 1) := by
      by_cases h0 : p.1 = 0
      · by_cases h1 : p.2.1 = x
        · exact .inr (.inr ⟨by simpa using h0, by simpa using h1, by rw [hs0, if_pos ⟨h0, h1⟩]⟩)
        · exact .inr (.inl ⟨by simpa using h0, by simpa using h1, by rw [hs0, if_neg (fun h => h1 h.2)]⟩)
      · exact .inl ⟨by simpa using h0, by rw [hs0, if_neg (fun h => h0 h.1)]⟩
    clear hn hA ih hct hs0
    rcases ways with ⟨hk, rfl⟩ | ⟨hk, hx, rfl⟩ | ⟨hk, hx, rfl⟩
    · clear hs1
      go_enter Try.func56, Try.ntmps56
      go_wp2_with fail
      go_loopw [5, 6] (fun v u wr => ∃ k : Nat, k ≤ n ∧ u = .int .i64 k ∧ v = .int .i64 ((0 + (Tm.cF x l - Tm.cF x (Tm.dropF l k)) : Nat) : Int) ∧ w.heap.size < wr.heap.size ∧ TermAt wr w.heap.size p A n c ∧ Below w.heap.size w wr) (fun _ u _ => n - (intOf u).toNat)
      case atStart =>
        exact ⟨0, Nat.zero_le _, rfl, by rw [Tm.drop_zero, Nat.sub_self]; rfl, by simp, TermAt.new _ _ _ _ _ _, (Below.refl _ _).alloc (Nat.le_refl _) _⟩
      case round =>
        obtain ⟨k, hk9, rfl, rfl, hwr, hta, hbl⟩ := hrel
        obtain ⟨g, hg⟩ : ∃ g, g = 0 + (Tm.cF x l - Tm.cF x (Tm.dropF l k)) := ⟨_, rfl⟩
        rw [← hg]
        have y4 := hta.args
        have HB := Lib.hid hbl
        have HT := Lib.hid hta
        have HG := Lib.hid hg
        have hg2 : g ≤ 3001 := by have := HM.out; omega
        clear hbl hta hg
        by_cases hlt : k < n
        · obtain ⟨b, o, p1, l1, r1, A1, c1, rfl, hbB, hd, hnode⟩ := HA.out.at hlt
          have hbw : b < w.heap.size := Nat.lt_of_lt_of_le hbB hBw
          have y0 := (HB.out.cell (p := ⟨b, o + k * 4, none⟩) hbw).trans hnode.kind
          have y1 := (HB.out.cell (p := ⟨b, o + k * 4 + 1, none⟩) hbw).trans hnode.num
          have y2 := (HB.out.cell (p := ⟨b, o + k * 4 + 2, none⟩) hbw).trans hnode.name
          have y3 := (HB.out.cell (p := ⟨b, o + k * 4 + 3, none⟩) hbw).trans hnode.args
          have HD := Lib.hid hd
          have HI := Lib.hid (hnode.inn.below HB.out hBw)
          have hc1 : Tm.cT x p1 l1 + Tm.cF x (Tm.dropF l (k + 1)) = Tm.cF x (Tm.dropF l k) := by rw [hd, Tm.cF_cons, Tm.drop_succ hd]
          have hc2 := Tm.cF_drop_le x l k
          have hs9 : Tm.size l1 < m := by have := Tm.size_drop_le l k; rw [hd] at this; simp only [Tm.size] at this; have := HM.out; omega
          have hu : Tm.cT x p1 l1 ≤ 3001 := by have := Tm.cT_le x p1 l1; omega
          obtain ⟨u, hu1⟩ : ∃ u, u = Tm.cT x p1 l1 := ⟨_, rfl⟩
          have C1 := Lib.hid (fun w2 (h2 : ArgsB w2 B A1 (Tm.len l1) l1) (h3 : B ≤ w2.heap.size) => IH.out p1 l1 A1 c1 B w2 hs9 (by omega) h2 h3)
          rw [← hu1] at C1 hc1 hu
          obtain ⟨n1, hn1⟩ : ∃ n1, n1 = Tm.len l1 := ⟨_, rfl⟩
          rw [← hn1] at C1 HI y3
          have HC := Lib.hid (And.intro hc1 hc2)
          clear hd hnode hc1 hc2 hs9 hu1 hn1
          go_wp2_with fail
          refine (C1.out _ HI.out (by omega)).mono ?_
          rintro e w' ⟨rfl, hb1⟩
          have HB1 := Lib.hid hb1
          clear hb1
          go_wp2_with fail
          refine ⟨⟨k + 1, by omega, by go_num, ?_, by have := HB1.out.size; omega, HT.out.below HB1.out hwr, HB.out.trans (HB1.out.mono HB.out.size)⟩, by simp [intOf]; omega⟩
          have e1 : g + u = 0 + (Tm.cF x l - Tm.cF x (Tm.dropF l (k + 1))) := by have := HC.out; have := HG.out; omega
          rw [← e1]
          go_num
        · obtain rfl : k = n := by omega
          go_wp2_with fail
          go_ret
          refine ⟨?_, HB.out⟩
          have e2 : 0 + Tm.cF x l = g := by
            have e2 := HG.out
            rw [show k = Tm.len l from HN.out, Tm.drop_end] at e2
            simpa only [Tm.cF, Nat.sub_zero] using e2.symm
          rw [e2]
          rfl
    · clear hs1
      go_enter Try.func56, Try.ntmps56
      go_wp2_with fail
      go_loopw [5, 6] (fun v u wr => ∃ k : Nat, k ≤ n ∧ u = .int .i64 k ∧ v = .int .i64 ((0 + (Tm.cF x l - Tm.cF x (Tm.dropF l k)) : Nat) : Int) ∧ w.heap.size < wr.heap.size ∧ TermAt wr w.heap.size p A n c ∧ Below w.heap.size w wr) (fun _ u _ => n - (intOf u).toNat)
      case atStart =>
        exact ⟨0, Nat.zero_le _, rfl, by rw [Tm.drop_zero, Nat.sub_self]; rfl, by simp, TermAt.new _ _ _ _ _ _, (Below.refl _ _).alloc (Nat.le_refl _) _⟩
      case round =>
        obtain ⟨k, hk9, rfl, rfl, hwr, hta, hbl⟩ := hrel
        obtain ⟨g, hg⟩ : ∃ g, g = 0 + (Tm.cF x l - Tm.cF x (Tm.dropF l k)) := ⟨_, rfl⟩
        rw [← hg]
        have y4 := hta.args
        have HB := Lib.hid hbl
        have HT := Lib.hid hta
        have HG := Lib.hid hg
        have hg2 : g ≤ 3001 := by have := HM.out; omega
        clear hbl hta hg
        by_cases hlt : k < n
        · obtain ⟨b, o, p1, l1, r1, A1, c1, rfl, hbB, hd, hnode⟩ := HA.out.at hlt
          have hbw : b < w.heap.size := Nat.lt_of_lt_of_le hbB hBw
          have y0 := (HB.out.cell (p := ⟨b, o + k * 4, none⟩) hbw).trans hnode.kind
          have y1 := (HB.out.cell (p := ⟨b, o + k * 4 + 1, none⟩) hbw).trans hnode.num
          have y2 := (HB.out.cell (p := ⟨b, o + k * 4 + 2, none⟩) hbw).trans hnode.name
          have y3 := (HB.out.cell (p := ⟨b, o + k * 4 + 3, none⟩) hbw).trans hnode.args
          have HD := Lib.hid hd
          have HI := Lib.hid (hnode.inn.below HB.out hBw)
          have hc1 : Tm.cT x p1 l1 + Tm.cF x (Tm.dropF l (k + 1)) = Tm.cF x (Tm.dropF l k) := by rw [hd, Tm.cF_cons, Tm.drop_succ hd]
          have hc2 := Tm.cF_drop_le x l k
          have hs9 : Tm.size l1 < m := by have := Tm.size_drop_le l k; rw [hd] at this; simp only [Tm.size] at this; have := HM.out; omega
          have hu : Tm.cT x p1 l1 ≤ 3001 := by have := Tm.cT_le x p1 l1; omega
          obtain ⟨u, hu1⟩ : ∃ u, u = Tm.cT x p1 l1 := ⟨_, rfl⟩
          have C1 := Lib.hid (fun w2 (h2 : ArgsB w2 B A1 (Tm.len l1) l1) (h3 : B ≤ w2.heap.size) => IH.out p1 l1 A1 c1 B w2 hs9 (by omega) h2 h3)
          rw [← hu1] at C1 hc1 hu
          obtain ⟨n1, hn1⟩ : ∃ n1, n1 = Tm.len l1 := ⟨_, rfl⟩
          rw [← hn1] at C1 HI y3
          have HC := Lib.hid (And.intro hc1 hc2)
          clear hd hnode hc1 hc2 hs9 hu1 hn1
          go_wp2_with fail
          refine (C1.out _ HI.out (by omega)).mono ?_
          rintro e w' ⟨rfl, hb1⟩
          have HB1 := Lib.hid hb1
          clear hb1
          go_wp2_with fail
          refine ⟨⟨k + 1, by omega, by go_num, ?_, by have := HB1.out.size; omega, HT.out.below HB1.out hwr, HB.out.trans (HB1.out.mono HB.out.size)⟩, by simp [intOf]; omega⟩
          have e1 : g + u = 0 + (Tm.cF x l - Tm.cF x (Tm.dropF l (k + 1))) := by have := HC.out; have := HG.out; omega
          rw [← e1]
          go_num
        · obtain rfl : k = n := by omega
          go_wp2_with fail
          go_ret
          refine ⟨?_, HB.out⟩
          have e2 : 0 + Tm.cF x l = g := by
            have e2 := HG.out
            rw [show k = Tm.len l from HN.out, Tm.drop_end] at e2
            simpa only [Tm.cF, Nat.sub_zero] using e2.symm
          rw [e2]
          rfl
    · clear hs1
      go_enter Try.func56, Try.ntmps56
      go_wp2_with fail
      go_loopw [5, 6] (fun v u wr => ∃ k : Nat, k ≤ n ∧ u = .int .i64 k ∧ v = .int .i64 ((1 + (Tm.cF x l - Tm.cF x (Tm.dropF l k)) : Nat) : Int) ∧ w.heap.size < wr.heap.size ∧ TermAt wr w.heap.size p A n c ∧ Below w.heap.size w wr) (fun _ u _ => n - (intOf u).toNat)
      case atStart =>
        exact ⟨0, Nat.zero_le _, rfl, by rw [Tm.drop_zero, Nat.sub_self]; rfl, by simp, TermAt.new _ _ _ _ _ _, (Below.refl _ _).alloc (Nat.le_refl _) _⟩
      case round =>
        obtain ⟨k, hk9, rfl, rfl, hwr, hta, hbl⟩ := hrel
        obtain ⟨g, hg⟩ : ∃ g, g = 1 + (Tm.cF x l - Tm.cF x (Tm.dropF l k)) := ⟨_, rfl⟩
        rw [← hg]
        have y4 := hta.args
        have HB := Lib.hid hbl
        have HT := Lib.hid hta
        have HG := Lib.hid hg
        have hg2 : g ≤ 3001 := by have := HM.out; omega
        clear hbl hta hg
        by_cases hlt : k < n
        · obtain ⟨b, o, p1, l1, r1, A1, c1, rfl, hbB, hd, hnode⟩ := HA.out.at hlt
          have hbw : b < w.heap.size := Nat.lt_of_lt_of_le hbB hBw
          have y0 := (HB.out.cell (p := ⟨b, o + k * 4, none⟩) hbw).trans hnode.kind
          have y1 := (HB.out.cell (p := ⟨b, o + k * 4 + 1, none⟩) hbw).trans hnode.num
          have y2 := (HB.out.cell (p := ⟨b, o + k * 4 + 2, none⟩) hbw).trans hnode.name
          have y3 := (HB.out.cell (p := ⟨b, o + k * 4 + 3, none⟩) hbw).trans hnode.args
          have HD := Lib.hid hd
          have HI := Lib.hid (hnode.inn.below HB.out hBw)
          have hc1 : Tm.cT x p1 l1 + Tm.cF x (Tm.dropF l (k + 1)) = Tm.cF x (Tm.dropF l k) := by rw [hd, Tm.cF_cons, Tm.drop_succ hd]
          have hc2 := Tm.cF_drop_le x l k
          have hs9 : Tm.size l1 < m := by have := Tm.size_drop_le l k; rw [hd] at this; simp only [Tm.size] at this; have := HM.out; omega
          have hu : Tm.cT x p1 l1 ≤ 3001 := by have := Tm.cT_le x p1 l1; omega
          obtain ⟨u, hu1⟩ : ∃ u, u = Tm.cT x p1 l1 := ⟨_, rfl⟩
          have C1 := Lib.hid (fun w2 (h2 : ArgsB w2 B A1 (Tm.len l1) l1) (h3 : B ≤ w2.heap.size) => IH.out p1 l1 A1 c1 B w2 hs9 (by omega) h2 h3)
          rw [← hu1] at C1 hc1 hu
          obtain ⟨n1, hn1⟩ : ∃ n1, n1 = Tm.len l1 := ⟨_, rfl⟩
          rw [← hn1] at C1 HI y3
          have HC := Lib.hid (And.intro hc1 hc2)
          clear hd hnode hc1 hc2 hs9 hu1 hn1
          go_wp2_with fail
          refine (C1.out _ HI.out (by omega)).mono ?_
          rintro e w' ⟨rfl, hb1⟩
          have HB1 := Lib.hid hb1
          clear hb1
          go_wp2_with fail
          refine ⟨⟨k + 1, by omega, by go_num, ?_, by have := HB1.out.size; omega, HT.out.below HB1.out hwr, HB.out.trans (HB1.out.mono HB.out.size)⟩, by simp [intOf]; omega⟩
          have e1 : g + u = 1 + (Tm.cF x l - Tm.cF x (Tm.dropF l (k + 1))) := by have := HC.out; have := HG.out; omega
          rw [← e1]
          go_num
        · obtain rfl : k = n := by omega
          go_wp2_with fail
          go_ret
          refine ⟨?_, HB.out⟩
          have e2 : 1 + Tm.cF x l = g := by
            have e2 := HG.out
            rw [show k = Tm.len l from HN.out, Tm.drop_end] at e2
            simpa only [Tm.cF, Nat.sub_zero] using e2.symm
          rw [e2]
          rfl

theorem rocc_any (x : Int) (p : Pay) (l : Fo) (A : Option Addr) (c B : Nat) (w : World) (hv : Tm.validB p l = true) (hA : ArgsB w B A (Tm.len l) l) (hB : B ≤ w.heap.size) :
    Calls Try.prog 56 #[tv p A (Tm.len l) c, .int .i64 x] w fun e w' => e = .returned (.int .i64 (Tm.cT x p l : Nat)) ∧ Below w.heap.size w w' := by
  unfold Tm.validB at hv
  rw [Bool.and_eq_true, decide_eq_true_eq] at hv
  exact rocc_up x (Tm.size l + 1) p l A c B w (by omega) (by omega) hA hB
end Go.Proofs.Ytmljkhofahgelaa
