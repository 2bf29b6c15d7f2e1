/-
  The number of nodes of a term, up to a bound: package term's Size (a budget that a closure spends) and the reference's Count.
-/
import Derived.Test.YtapcnehpechkpaaOnly
namespace Go.Proofs.Ytapcnehpechkpaa
set_option linter.unusedVariables false
set_option linter.unusedSimpArgs false
set_option maxRecDepth 100000
open Go.RowKit

theorem enters_size : ∀ (args : Array Value) (w : World), (callFunc 92 args).run Try.prog w = .ok (.enter 92 args) w := fun args w => by kernel_rfl


theorem below_lt {w w' : World} {b : Nat} (h : b < w.heap.size) (hs : w.heap.size ≤ w'.heap.size) : b < w'.heap.size := Nat.lt_of_lt_of_le h hs

set_option maxHeartbeats 2000000 in
theorem count_up (m : Nat) (bb cb : Nat) (hne : bb ≠ cb) : ∀ (p : Pay) (l : Fo) (A : Option Addr) (c bud B : Nat) (w : World), Tm.size l < m → ArgsB w B A (Tm.len l) l → B ≤ bb → B ≤ cb → B ≤ w.heap.size → 1 ≤ bud → bud ≤ 2001 →
    CellIs w bb (.int .i64 bud) → CellIs w cb (.func (.func 92) #[] #[.pointer (some ⟨bb, 0, none⟩), .pointer (some ⟨cb, 0, none⟩)]) →
    Calls Try.prog 92 #[tv p A (Tm.len l) c, .pointer (some ⟨bb, 0, none⟩), .pointer (some ⟨cb, 0, none⟩)] w fun e w' => e = .returned (.tuple #[]) ∧ Only (· = bb) w w' ∧ CellIs w' bb (.int .i64 ((bud - (1 + Tm.size l) : Nat) : Int)) := by
  induction m with
  | zero => intro p l A c bud B w hm; omega
  | succ m ih =>
    intro p l A c bud B w hm hA hBb hBc hBw h1 h2 hb hc
    obtain ⟨n, hn⟩ : ∃ n, n = Tm.len l := ⟨_, rfl⟩
    rw [← hn] at hA ⊢
    have hb' := hb.alloc (.cells #[.int .i64 p.1, .int .i64 p.2.1, .string p.2.2, .slice A n c] 24)
    have hq1 := hb'.cell
    have hq2 := hb'.soft
    have hbl := hb.lt
    have hcl := hc.lt
    have hnn : n ≤ 9223372036854775807 := hA.hi
    have HN := Lib.hid hn
    have HA := Lib.hid hA
    have HC := Lib.hid hc
    have HB := Lib.hid hb
    have HM := Lib.hid hm
    have IH := Lib.hid ih
    have eg := enters_size
    clear hn hA hc ih hb' hb hm
    go_enter Try.func92, Try.ntmps92
    go_wp2_with fail
    clear hq1 hq2
    go_loopw [11] (fun u wr => ∃ k : Nat, k ≤ n ∧ u = .int .i64 k ∧ Only (· = bb) w wr ∧ CellIs wr bb (.int .i64 ((bud - 1 - (Tm.size l - Tm.size (Tm.dropF l k)) : Nat) : Int))) (fun u _ => n - (intOf u).toNat)
    case atStart =>
      refine ⟨0, Nat.zero_le _, rfl, ((Only.refl (· = bb) w).setCell (p := ⟨bb, 0, none⟩) rfl _).alloc _, ?_⟩
      rw [Tm.drop_zero, Nat.sub_self, Nat.sub_zero, Int.ofNat_sub h1]
      exact (HB.out.set _).alloc _
    case round =>
      obtain ⟨k, hk, rfl, hon, hbk⟩ := hrel
      obtain ⟨g, hg⟩ : ∃ g, g = bud - 1 - (Tm.size l - Tm.size (Tm.dropF l k)) := ⟨_, rfl⟩
      rw [← hg] at hbk
      have HO := Lib.hid hon
      have HG := Lib.hid hg
      have HK := Lib.hid hbk
      have hwr := hon.size
      clear hon hg
      by_cases hlt : k < n
      · obtain ⟨b, o, p1, l1, r1, A1, c1, rfl, hbB, hd, hnode⟩ := HA.out.at hlt
        have hbw : b < w.heap.size := Nat.lt_of_lt_of_le hbB hBw
        have hbx : ¬ b = bb := by have : b < B := hbB; omega
        have y0 := (HO.out.cell (p := ⟨b, o + k * 4, none⟩) hbw hbx).trans hnode.kind
        have y1 := (HO.out.cell (p := ⟨b, o + k * 4 + 1, none⟩) hbw hbx).trans hnode.num
        have y2 := (HO.out.cell (p := ⟨b, o + k * 4 + 2, none⟩) hbw hbx).trans hnode.name
        have y3 := (HO.out.cell (p := ⟨b, o + k * 4 + 3, none⟩) hbw hbx).trans hnode.args
        have hq1 := HK.out.cell
        have hgb := HK.out.lt
        have HD := Lib.hid hd
        have HI := Lib.hid hnode.inn
        clear hd hnode hbk
        by_cases hg0 : g = 0
        · subst hg0
          go_wp2_with fail
          refine bodyPost_ret (results_none rfl _ _ _) rfl ?_
          refine ⟨rfl, HO.out.alloc _, ?_⟩
          have e1 : bud - (1 + Tm.size l) = 0 := by have := HG.out; omega
          rw [e1]
          exact HK.out.alloc _
        · have hg1 : ((g : Int) == 0) = false := by simpa using hg0
          have hc1 := (HC.out.only (w' := wr) HO.out (fun e => hne e.symm)).cell
          have hcl' : cb < wr.heap.size := below_lt hcl hwr
          have hs1 : Tm.size l1 + 1 + Tm.size r1 = Tm.size (Tm.dropF l k) := by rw [HD.out]; simp only [Tm.size]; omega
          have hs2 : Tm.size (Tm.dropF l (k + 1)) = Tm.size r1 := by rw [Tm.drop_succ HD.out]
          have hs3 := Tm.size_drop_le l k
          have HS := Lib.hid (And.intro hs1 (And.intro hs2 hs3))
          clear hs1 hs2 hs3
          go_wp2_with fail
          refine (IH.out p1 l1 A1 c1 g B _ (by have := HS.out; have := HM.out; omega) (((HI.out).only HO.out (fun b' (hb' : b' < B) => ⟨by omega, by show ¬ b' = bb; omega⟩)).below ((Below.refl wr.heap.size wr).alloc (Nat.le_refl _) _) (by omega)) hBb hBc (by simp; omega) (by omega) (by have := HG.out; omega) (HK.out.alloc _) ((HC.out.only HO.out (fun e => hne e.symm)).alloc _)).mono ?_
          rintro e w' ⟨rfl, hon2, hbk2⟩
          have HO2 := Lib.hid hon2
          have HK2 := Lib.hid hbk2
          clear hon2 hbk2
          go_wp2_with fail
          refine ⟨⟨k + 1, by omega, by go_num, (HO.out.alloc _).trans HO2.out, ?_⟩, by simp [intOf]; omega⟩
          have := HK2.out
          have e1 : g - (1 + Tm.size l1) = bud - 1 - (Tm.size l - Tm.size (Tm.dropF l (k + 1))) := by have := HS.out; have := HG.out; omega
          rw [e1] at this
          exact this
      · obtain rfl : k = n := by omega
        go_wp2_with fail
        go_end0
        refine ⟨rfl, HO.out, ?_⟩
        have e1 : bud - (1 + Tm.size l) = g := by
          have e2 := HG.out
          rw [show k = Tm.len l from HN.out, Tm.drop_end] at e2
          simp only [Tm.size] at e2
          omega
        rw [e1]
        exact HK.out

set_option maxHeartbeats 1000000 in
theorem size_any (p : Pay) (l : Fo) (A : Option Addr) (c B : Nat) (w : World) (h : ArgsB w B A (Tm.len l) l) (hB : B ≤ w.heap.size) :
    Calls Try.prog 82 #[tv p A (Tm.len l) c] w fun e w' => e = .returned (.int .i64 (Tm.sizeB l)) ∧ Below w.heap.size w w' := by
  obtain ⟨n, hn⟩ : ∃ n, n = Tm.len l := ⟨_, rfl⟩
  rw [← hn] at h ⊢
  have HN := Lib.hid hn
  have H := Lib.hid h
  have eg := enters_size
  clear hn h
  go_enter Try.func82, Try.ntmps82
  go_wp2_with fail
  have h2 := HN.out
  subst h2
  refine (count_up (Tm.size l + 1) (w.heap.size + 1) (w.heap.size + 2) (by omega) p l A c 2001 B _ (by omega) ?_ (by omega) (by omega) ?_ (by omega) (by omega) ?_ ?_).mono ?_
  · exact H.out.below (Only.below (X := fun _ => False) ((((Only.refl _ w).alloc _).alloc _).alloc _) (Nat.le_refl _) (fun _ h => h.elim)) hB
  · simp; omega
  · exact CellIs.alloc (CellIs.new' _ _ _ _ (by simp)) _
  · exact CellIs.new' _ _ _ _ (by simp)
  rintro e w' ⟨rfl, hon, hk⟩
  have HO := Lib.hid hon
  have hc := hk.cell
  have hcl := hk.lt
  clear hon hk
  go_wp2_with fail
  go_ret
  refine ⟨?_, (Only.below (X := fun _ => False) ((((Only.refl _ w).alloc _).alloc _).alloc _) (Nat.le_refl _) (fun _ h => h.elim)).trans (HO.out.below (by simp; omega) (fun k e => by omega))⟩
  exact congrArg (fun z : Int => Ending.returned (.int .i64 z)) (by unfold Tm.sizeB; omega)

set_option maxHeartbeats 2000000 in
theorem rcount_up (m : Nat) : ∀ (p : Pay) (l : Fo) (A : Option Addr) (c most B : Nat) (w : World), Tm.size l < m → ArgsB w B A (Tm.len l) l → B ≤ w.heap.size → 1 ≤ most → most ≤ 2001 →
    Calls Try.prog 80 #[tv p A (Tm.len l) c, .int .i64 most] w fun e w' => e = .returned (.int .i64 (min (1 + Tm.size l) most : Nat)) ∧ Below w.heap.size w w' := by
  induction m with
  | zero => intro p l A c most B w hm; omega
  | succ m ih =>
    intro p l A c most B w hm hA hBw h1 h2
    obtain ⟨n, hn⟩ : ∃ n, n = Tm.len l := ⟨_, rfl⟩
    rw [← hn] at hA ⊢
    have hnn : n ≤ 9223372036854775807 := hA.hi
    have HN := Lib.hid hn
    have HA := Lib.hid hA
    have HM := Lib.hid hm
    have IH := Lib.hid ih
    clear hn hA ih hm
    go_enter Try.func80, Try.ntmps80
    go_wp2_with fail
    go_loopw [5, 6] (fun v u wr => ∃ k : Nat, k ≤ n ∧ u = .int .i64 k ∧ v = .int .i64 ((min (1 + (Tm.size l - Tm.size (Tm.dropF l k))) most : Nat) : Int) ∧ w.heap.size < wr.heap.size ∧ TermAt wr w.heap.size p A n c ∧ Below w.heap.size w wr) (fun _ u _ => n - (intOf u).toNat)
    case atStart =>
      exact ⟨0, Nat.zero_le _, rfl, by rw [Tm.drop_zero, Nat.sub_self, Nat.min_eq_left (by omega)]; rfl, by simp, TermAt.new _ _ _ _ _ _, (Below.refl _ _).alloc (Nat.le_refl _) _⟩
    case round =>
      obtain ⟨k, hk, rfl, rfl, hwr, hta, hbl⟩ := hrel
      obtain ⟨g, hg⟩ : ∃ g, g = min (1 + (Tm.size l - Tm.size (Tm.dropF l k))) most := ⟨_, rfl⟩
      rw [← hg]
      have y4 := hta.args
      have HB := Lib.hid hbl
      have HT := Lib.hid hta
      have HG := Lib.hid hg
      have hg1 : 1 ≤ g := by omega
      have hg2 : g ≤ most := by omega
      clear hbl hta hg
      by_cases hlt : k < n
      · by_cases hgm : g < most
        · obtain ⟨b, o, p1, l1, r1, A1, c1, rfl, hbB, hd, hnode⟩ := HA.out.at hlt
          have hbw : b < w.heap.size := Nat.lt_of_lt_of_le hbB hBw
          have y0 := (HB.out.cell (p := ⟨b, o + k * 4, none⟩) hbw).trans hnode.kind
          have y1 := (HB.out.cell (p := ⟨b, o + k * 4 + 1, none⟩) hbw).trans hnode.num
          have y2 := (HB.out.cell (p := ⟨b, o + k * 4 + 2, none⟩) hbw).trans hnode.name
          have y3 := (HB.out.cell (p := ⟨b, o + k * 4 + 3, none⟩) hbw).trans hnode.args
          have HD := Lib.hid hd
          have HI := Lib.hid (hnode.inn.below HB.out hBw)
          clear hd hnode
          have hs1 : Tm.size l1 + 1 + Tm.size r1 = Tm.size (Tm.dropF l k) := by rw [HD.out]; simp only [Tm.size]; omega
          have hs2 : Tm.size (Tm.dropF l (k + 1)) = Tm.size r1 := by rw [Tm.drop_succ HD.out]
          have hs3 := Tm.size_drop_le l k
          have HS := Lib.hid (And.intro hs1 (And.intro hs2 hs3))
          clear hs1 hs2 hs3
          go_wp2_with fail
          rw [← Int.ofNat_sub hg2]
          refine (IH.out p1 l1 A1 c1 (most - g) B _ (by have := HS.out; have := HM.out; omega) HI.out (by omega) (by omega) (by omega)).mono ?_
          rintro e w' ⟨rfl, hb1⟩
          have HB1 := Lib.hid hb1
          have hu : min (1 + Tm.size l1) (most - g) + g ≤ 2001 := by omega
          obtain ⟨u, hu1⟩ : ∃ u, u = min (1 + Tm.size l1) (most - g) := ⟨_, rfl⟩
          rw [← hu1] at hu ⊢
          have HU := Lib.hid hu1
          clear hb1 hu1
          go_wp2_with fail
          refine ⟨⟨k + 1, by omega, by go_num, ?_, by have := HB1.out.size; omega, HT.out.below HB1.out hwr, HB.out.trans (HB1.out.mono HB.out.size)⟩, by simp [intOf]; omega⟩
          have e1 : g + u = min (1 + (Tm.size l - Tm.size (Tm.dropF l (k + 1)))) most := by have := HS.out; have := HG.out; have := HU.out; omega
          rw [← e1]
          go_num
        · go_wp2_with fail
          go_ret
          refine ⟨?_, HB.out⟩
          have e1 : min (1 + Tm.size l) most = g := by have := HG.out; omega
          rw [e1]
          rfl
      · obtain rfl : k = n := by omega
        go_wp2_with fail
        go_ret
        refine ⟨?_, HB.out⟩
        have e2 : min (1 + Tm.size l) most = g := by
          have e2 := HG.out
          rw [show k = Tm.len l from HN.out, Tm.drop_end] at e2
          simpa only [Tm.size, Nat.sub_zero] using e2.symm
        rw [e2]
        rfl

theorem rsize_any (p : Pay) (l : Fo) (A : Option Addr) (c B : Nat) (w : World) (h : ArgsB w B A (Tm.len l) l) (hB : B ≤ w.heap.size) :
    Calls Try.prog 54 #[tv p A (Tm.len l) c] w fun e w' => e = .returned (.int .i64 (Tm.sizeB l)) ∧ Below w.heap.size w w' := by
  have C := Lib.hid fun w1 (h1 : ArgsB w1 B A (Tm.len l) l) (h2 : B ≤ w1.heap.size) => rcount_up (Tm.size l + 1) p l A c 2001 B w1 (by omega) h1 h2 (by omega) (by omega)
  obtain ⟨n, hn⟩ : ∃ n, n = Tm.len l := ⟨_, rfl⟩
  rw [← hn] at h C ⊢
  have H := Lib.hid h
  clear hn h
  go_enter Try.func54, Try.ntmps54
  go_wp2_with fail
  refine (C.out _ ?_ ?_).mono ?_
  · exact H.out.below ((Below.refl w.heap.size w).alloc (Nat.le_refl _) _) hB
  · simp; omega
  rintro e w' ⟨rfl, hb1⟩
  have HB1 := Lib.hid hb1
  clear hb1
  go_wp2_with fail
  go_ret
  exact ⟨rfl, ((Below.refl w.heap.size w).alloc (Nat.le_refl _) _).trans (HB1.out.mono (by simp))⟩
end Go.Proofs.Ytapcnehpechkpaa
