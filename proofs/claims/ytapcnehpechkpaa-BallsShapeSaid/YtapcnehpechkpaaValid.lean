/-
  Every node of a term is valid: areValid and the reference's nodes; a term is valid: the two Valids.
-/
import Derived.Test.YtapcnehpechkpaaGood
namespace Go.Proofs.Ytapcnehpechkpaa
set_option linter.unusedVariables false
set_option linter.unusedSimpArgs false
set_option maxRecDepth 100000
open Go.RowKit

set_option maxHeartbeats 2000000 in
theorem areValid_up (m : Nat) : ∀ (p : Pay) (l : Fo) (A : Option Addr) (c B : Nat) (w : World), Tm.size l < m → ArgsB w B A (Tm.len l) l → B ≤ w.heap.size →
    Calls Try.prog 87 #[tv p A (Tm.len l) c] w fun e w' => e = .returned (.bool (Tm.goodB p l)) ∧ Below w.heap.size w w' := by
  induction m with
  | zero => intro p l A c B w hm; omega
  | succ m ih =>
    intro p l A c B w hm hA hBw
    have cn := fun w1 : World => isValid_any p (Tm.len l) c A w1
    obtain ⟨n, hn⟩ : ∃ n, n = Tm.len l := ⟨_, rfl⟩
    rw [← hn] at hA cn ⊢
    have hnn : n ≤ 9223372036854775807 := hA.hi
    have HN := Lib.hid hn
    have HA := Lib.hid hA
    have HM := Lib.hid hm
    have IH := Lib.hid ih
    cases hnb : Tm.nodeB p n
    · rw [hnb] at cn
      have CN := Lib.hid cn
      have hres : Tm.goodB p l = false := by unfold Tm.goodB; rw [← HN.out, hnb]; rfl
      rw [hres]
      clear hn hA ih hm cn hnb hres
      go_enter Try.func87, Try.ntmps87
      go_wp2_with fail
      refine (CN.out _).mono ?_
      rintro e w1 ⟨rfl, hb1⟩
      have HB1 := Lib.hid hb1
      clear hb1
      go_wp2_with fail
      go_ret
      exact ⟨rfl, ((Below.refl w.heap.size w).alloc (Nat.le_refl _) _).trans (HB1.out.mono (by simp))⟩
    rw [hnb] at cn
    have CN := Lib.hid cn
    have hres : Tm.goodB p l = Tm.allB l := by unfold Tm.goodB; rw [← HN.out, hnb]; rfl
    rw [hres]
    clear hn hA ih hm cn hnb hres
    go_enter Try.func87, Try.ntmps87
    go_wp2_with fail
    refine (CN.out _).mono ?_
    rintro e w1 ⟨rfl, hb1⟩
    have hta : TermAt w1 w.heap.size p A n c := (TermAt.new w p A n c 24).below hb1 (by simp)
    have hwb : Below w.heap.size w w1 := ((Below.refl w.heap.size w).alloc (Nat.le_refl _) _).trans (hb1.mono (by simp))
    have hws : w.heap.size < w1.heap.size := by have := hb1.size; simp at this; omega
    have y4 := hta.args
    have HWB := Lib.hid hwb
    have HT0 := Lib.hid hta
    clear hb1 hta hwb
    go_wp2_with fail
    clear y4
    go_loopw [11] (fun u wr => ∃ k : Nat, k ≤ n ∧ u = .int .i64 k ∧ Tm.allB l = Tm.allB (Tm.dropF l k) ∧ w.heap.size < wr.heap.size ∧ TermAt wr w.heap.size p A n c ∧ Below w.heap.size w wr) (fun u _ => n - (intOf u).toNat)
    case atStart => exact ⟨0, Nat.zero_le _, rfl, by rw [Tm.drop_zero], hws, HT0.out, HWB.out⟩
    case round =>
      obtain ⟨k, hk, rfl, hal, hwr, hta, hbl⟩ := hrel
      have y4 := hta.args
      have HB := Lib.hid hbl
      have HT := Lib.hid hta
      have HL := Lib.hid hal
      clear hbl hta hal
      by_cases hlt : k < n
      · obtain ⟨b, o, p1, l1, r1, A1, c1, rfl, hbB, hd, hnode⟩ := HA.out.at hlt
        have hbw : b < w.heap.size := Nat.lt_of_lt_of_le hbB hBw
        have y0 := (HB.out.cell (p := ⟨b, o + k * 4, none⟩) hbw).trans hnode.kind
        have y1 := (HB.out.cell (p := ⟨b, o + k * 4 + 1, none⟩) hbw).trans hnode.num
        have y2 := (HB.out.cell (p := ⟨b, o + k * 4 + 2, none⟩) hbw).trans hnode.name
        have y3 := (HB.out.cell (p := ⟨b, o + k * 4 + 3, none⟩) hbw).trans hnode.args
        have HD := Lib.hid hd
        have HI := Lib.hid (hnode.inn.below HB.out hBw)
        clear hd hnode
        have hs1 : Tm.size l1 < m := by have e := HD.out; have := Tm.size_drop_le l k; rw [e] at this; simp only [Tm.size] at this; have := HM.out; omega
        have hs2 : Tm.allB l = (Tm.goodB p1 l1 && Tm.allB (Tm.dropF l (k + 1))) := by rw [HL.out, Tm.drop_succ HD.out, HD.out]; rfl
        have HS := Lib.hid hs2
        have C1 := Lib.hid fun (w2 : World) (h2 : ArgsB w2 B A1 (Tm.len l1) l1) (h3 : B ≤ w2.heap.size) => IH.out p1 l1 A1 c1 B w2 hs1 h2 h3
        clear hs1 hs2
        cases hg : Tm.goodB p1 l1
        · rw [hg] at C1 HS
          have hres : Tm.allB l = false := by rw [HS.out]; rfl
          have HR := Lib.hid hres
          clear hg hres
          go_wp2_with fail
          refine (C1.out _ ?_ ?_).mono ?_
          · exact (HI.out.below ((Below.refl wr.heap.size wr).alloc (Nat.le_refl _) _) (by omega))
          · simp; omega
          rintro e w2 ⟨rfl, hb1⟩
          have HB1 := Lib.hid hb1
          clear hb1
          go_wp2_with fail
          go_ret
          exact ⟨by rw [HR.out]; rfl, (HB.out.trans (((Below.refl wr.heap.size wr).alloc (Nat.le_refl _) _).mono HB.out.size)).trans (HB1.out.mono (by have := HB.out.size; simp; omega))⟩
        · rw [hg] at C1 HS
          clear hg
          go_wp2_with fail
          refine (C1.out _ ?_ ?_).mono ?_
          · exact (HI.out.below ((Below.refl wr.heap.size wr).alloc (Nat.le_refl _) _) (by omega))
          · simp; omega
          rintro e w2 ⟨rfl, hb1⟩
          have HB1 := Lib.hid hb1
          clear hb1
          go_wp2_with fail
          exact ⟨⟨k + 1, by omega, by go_num, by rw [HS.out]; rfl, by have := HB1.out.size; simp at this; omega, (HT.out.below ((Below.refl wr.heap.size wr).alloc (Nat.le_refl _) _) hwr).below HB1.out (by simp; omega), (HB.out.trans (((Below.refl wr.heap.size wr).alloc (Nat.le_refl _) _).mono HB.out.size)).trans (HB1.out.mono (by have := HB.out.size; simp; omega))⟩, by simp [intOf]; omega⟩
      · obtain rfl : k = n := by omega
        have hres : Tm.allB l = true := by rw [HL.out, show k = Tm.len l from HN.out, Tm.drop_end]; rfl
        have HR := Lib.hid hres
        clear hres
        go_wp2_with fail
        go_ret
        exact ⟨by rw [HR.out]; rfl, HB.out⟩

set_option maxHeartbeats 2000000 in
theorem rnodes_up (m : Nat) : ∀ (p : Pay) (l : Fo) (A : Option Addr) (c B : Nat) (w : World), Tm.size l < m → ArgsB w B A (Tm.len l) l → B ≤ w.heap.size →
    Calls Try.prog 78 #[tv p A (Tm.len l) c] w fun e w' => e = .returned (.bool (Tm.goodB p l)) ∧ Below w.heap.size w w' := by
  induction m with
  | zero => intro p l A c B w hm; omega
  | succ m ih =>
    intro p l A c B w hm hA hBw
    have cn := fun w1 : World => rnode_any p (Tm.len l) c A w1
    obtain ⟨n, hn⟩ : ∃ n, n = Tm.len l := ⟨_, rfl⟩
    rw [← hn] at hA cn ⊢
    have hnn : n ≤ 9223372036854775807 := hA.hi
    have HN := Lib.hid hn
    have HA := Lib.hid hA
    have HM := Lib.hid hm
    have IH := Lib.hid ih
    cases hnb : Tm.nodeB p n
    · rw [hnb] at cn
      have CN := Lib.hid cn
      have hres : Tm.goodB p l = false := by unfold Tm.goodB; rw [← HN.out, hnb]; rfl
      rw [hres]
      clear hn hA ih hm cn hnb hres
      go_enter Try.func78, Try.ntmps78
      go_wp2_with fail
      refine (CN.out _).mono ?_
      rintro e w1 ⟨rfl, hb1⟩
      have HB1 := Lib.hid hb1
      clear hb1
      go_wp2_with fail
      go_ret
      exact ⟨rfl, ((Below.refl w.heap.size w).alloc (Nat.le_refl _) _).trans (HB1.out.mono (by simp))⟩
    rw [hnb] at cn
    have CN := Lib.hid cn
    have hres : Tm.goodB p l = Tm.allB l := by unfold Tm.goodB; rw [← HN.out, hnb]; rfl
    rw [hres]
    clear hn hA ih hm cn hnb hres
    go_enter Try.func78, Try.ntmps78
    go_wp2_with fail
    refine (CN.out _).mono ?_
    rintro e w1 ⟨rfl, hb1⟩
    have hta : TermAt w1 w.heap.size p A n c := (TermAt.new w p A n c 24).below hb1 (by simp)
    have hwb : Below w.heap.size w w1 := ((Below.refl w.heap.size w).alloc (Nat.le_refl _) _).trans (hb1.mono (by simp))
    have hws : w.heap.size < w1.heap.size := by have := hb1.size; simp at this; omega
    have y4 := hta.args
    have HWB := Lib.hid hwb
    have HT0 := Lib.hid hta
    clear hb1 hta hwb
    go_wp2_with fail
    clear y4
    go_loopw [3] (fun u wr => ∃ k : Nat, k ≤ n ∧ u = .int .i64 k ∧ Tm.allB l = Tm.allB (Tm.dropF l k) ∧ w.heap.size < wr.heap.size ∧ TermAt wr w.heap.size p A n c ∧ Below w.heap.size w wr) (fun u _ => n - (intOf u).toNat)
    case atStart => exact ⟨0, Nat.zero_le _, rfl, by rw [Tm.drop_zero], hws, HT0.out, HWB.out⟩
    case round =>
      obtain ⟨k, hk, rfl, hal, hwr, hta, hbl⟩ := hrel
      have y4 := hta.args
      have HB := Lib.hid hbl
      have HT := Lib.hid hta
      have HL := Lib.hid hal
      clear hbl hta hal
      by_cases hlt : k < n
      · obtain ⟨b, o, p1, l1, r1, A1, c1, rfl, hbB, hd, hnode⟩ := HA.out.at hlt
        have hbw : b < w.heap.size := Nat.lt_of_lt_of_le hbB hBw
        have y0 := (HB.out.cell (p := ⟨b, o + k * 4, none⟩) hbw).trans hnode.kind
        have y1 := (HB.out.cell (p := ⟨b, o + k * 4 + 1, none⟩) hbw).trans hnode.num
        have y2 := (HB.out.cell (p := ⟨b, o + k * 4 + 2, none⟩) hbw).trans hnode.name
        have y3 := (HB.out.cell (p := ⟨b, o + k * 4 + 3, none⟩) hbw).trans hnode.args
        have HD := Lib.hid hd
        have HI := Lib.hid (hnode.inn.below HB.out hBw)
        clear hd hnode
        have hs1 : Tm.size l1 < m := by have e := HD.out; have := Tm.size_drop_le l k; rw [e] at this; simp only [Tm.size] at this; have := HM.out; omega
        have hs2 : Tm.allB l = (Tm.goodB p1 l1 && Tm.allB (Tm.dropF l (k + 1))) := by rw [HL.out, Tm.drop_succ HD.out, HD.out]; rfl
        have HS := Lib.hid hs2
        have C1 := Lib.hid fun (w2 : World) (h2 : ArgsB w2 B A1 (Tm.len l1) l1) (h3 : B ≤ w2.heap.size) => IH.out p1 l1 A1 c1 B w2 hs1 h2 h3
        clear hs1 hs2
        cases hg : Tm.goodB p1 l1
        · rw [hg] at C1 HS
          have hres : Tm.allB l = false := by rw [HS.out]; rfl
          have HR := Lib.hid hres
          clear hg hres
          go_wp2_with fail
          refine (C1.out _ ?_ ?_).mono ?_
          · exact HI.out
          · omega
          rintro e w2 ⟨rfl, hb1⟩
          have HB1 := Lib.hid hb1
          clear hb1
          go_wp2_with fail
          go_ret
          exact ⟨by rw [HR.out]; rfl, HB.out.trans (HB1.out.mono HB.out.size)⟩
        · rw [hg] at C1 HS
          clear hg
          go_wp2_with fail
          refine (C1.out _ ?_ ?_).mono ?_
          · exact HI.out
          · omega
          rintro e w2 ⟨rfl, hb1⟩
          have HB1 := Lib.hid hb1
          clear hb1
          go_wp2_with fail
          exact ⟨⟨k + 1, by omega, by go_num, by rw [HS.out]; rfl, by have := HB1.out.size; omega, HT.out.below HB1.out hwr, HB.out.trans (HB1.out.mono HB.out.size)⟩, by simp [intOf]; omega⟩
      · obtain rfl : k = n := by omega
        have hres : Tm.allB l = true := by rw [HL.out, show k = Tm.len l from HN.out, Tm.drop_end]; rfl
        have HR := Lib.hid hres
        clear hres
        go_wp2_with fail
        go_ret
        exact ⟨by rw [HR.out]; rfl, HB.out⟩

theorem valid_any (p : Pay) (l : Fo) (A : Option Addr) (c B : Nat) (w : World) (h : ArgsB w B A (Tm.len l) l) (hB : B ≤ w.heap.size) :
    Calls Try.prog 70 #[tv p A (Tm.len l) c] w fun e w' => e = .returned (.bool (Tm.validB p l)) ∧ Below w.heap.size w w' := by
  have C1 := Lib.hid fun (w1 : World) (h1 : ArgsB w1 B A (Tm.len l) l) (h2 : B ≤ w1.heap.size) => size_any p l A c B w1 h1 h2
  have C2 := Lib.hid fun (w1 : World) (h1 : ArgsB w1 B A (Tm.len l) l) (h2 : B ≤ w1.heap.size) => areValid_up (Tm.size l + 1) p l A c B w1 (by omega) h1 h2
  obtain ⟨s, hs⟩ : ∃ s, s = Tm.sizeB l := ⟨_, rfl⟩
  rw [← hs] at C1
  have hd : Tm.validB p l = (decide ((s : Int) ≤ 2000) && Tm.goodB p l) := by
    unfold Tm.validB
    congr 1
    rw [decide_eq_decide, hs]
    unfold Tm.sizeB
    omega
  rw [hd]
  have hsz : s ≤ 2001 := by rw [hs]; unfold Tm.sizeB; omega
  obtain ⟨n, hn⟩ : ∃ n, n = Tm.len l := ⟨_, rfl⟩
  rw [← hn] at h C1 C2 ⊢
  have H := Lib.hid h
  clear hn h hs hd
  by_cases hle : (s : Int) ≤ 2000
  · rw [decide_eq_true hle]
    go_enter Try.func70, Try.ntmps70
    go_wp2_with fail
    refine (C1.out _ ?_ ?_).mono ?_
    · exact H.out.below ((Below.refl w.heap.size w).alloc (Nat.le_refl _) _) hB
    · simp; omega
    rintro e w1 ⟨rfl, hb1⟩
    have hta : TermAt w1 w.heap.size p A n c := (TermAt.new w p A n c 24).below hb1 (by simp)
    have hwb : Below w.heap.size w w1 := ((Below.refl w.heap.size w).alloc (Nat.le_refl _) _).trans (hb1.mono (by simp))
    have y0 := hta.kind
    have y1 := hta.num
    have y2 := hta.name
    have y3 := hta.args
    have hws : w.heap.size < w1.heap.size := by have := hb1.size; simp at this; omega
    have HWB := Lib.hid hwb
    clear hb1 hta hwb
    go_wp2_with fail
    refine (C2.out _ ?_ ?_).mono ?_
    · exact H.out.below HWB.out hB
    · omega
    rintro e w2 ⟨rfl, hb2⟩
    have HB2 := Lib.hid hb2
    clear hb2
    go_wp2_with fail
    go_ret
    exact ⟨rfl, HWB.out.trans (HB2.out.mono (by omega))⟩
  · rw [decide_eq_false hle]
    go_enter Try.func70, Try.ntmps70
    go_wp2_with fail
    refine (C1.out _ ?_ ?_).mono ?_
    · exact H.out.below ((Below.refl w.heap.size w).alloc (Nat.le_refl _) _) hB
    · simp; omega
    rintro e w1 ⟨rfl, hb1⟩
    have hwb : Below w.heap.size w w1 := ((Below.refl w.heap.size w).alloc (Nat.le_refl _) _).trans (hb1.mono (by simp))
    have HWB := Lib.hid hwb
    clear hb1 hwb
    go_wp2_with fail
    go_ret
    exact ⟨rfl, HWB.out⟩

theorem rvalid_any (p : Pay) (l : Fo) (A : Option Addr) (c B : Nat) (w : World) (h : ArgsB w B A (Tm.len l) l) (hB : B ≤ w.heap.size) :
    Calls Try.prog 51 #[tv p A (Tm.len l) c] w fun e w' => e = .returned (.bool (Tm.validB p l)) ∧ Below w.heap.size w w' := by
  have C1 := Lib.hid fun (w1 : World) (h1 : ArgsB w1 B A (Tm.len l) l) (h2 : B ≤ w1.heap.size) => rsize_any p l A c B w1 h1 h2
  have C2 := Lib.hid fun (w1 : World) (h1 : ArgsB w1 B A (Tm.len l) l) (h2 : B ≤ w1.heap.size) => rnodes_up (Tm.size l + 1) p l A c B w1 (by omega) h1 h2
  obtain ⟨s, hs⟩ : ∃ s, s = Tm.sizeB l := ⟨_, rfl⟩
  rw [← hs] at C1
  have hd : Tm.validB p l = (decide ((s : Int) ≤ 2000) && Tm.goodB p l) := by
    unfold Tm.validB
    congr 1
    rw [decide_eq_decide, hs]
    unfold Tm.sizeB
    omega
  rw [hd]
  have hsz : s ≤ 2001 := by rw [hs]; unfold Tm.sizeB; omega
  obtain ⟨n, hn⟩ : ∃ n, n = Tm.len l := ⟨_, rfl⟩
  rw [← hn] at h C1 C2 ⊢
  have H := Lib.hid h
  clear hn h hs hd
  by_cases hle : (s : Int) ≤ 2000
  · rw [decide_eq_true hle]
    go_enter Try.func51, Try.ntmps51
    go_wp2_with fail
    refine (C1.out _ ?_ ?_).mono ?_
    · exact H.out.below ((Below.refl w.heap.size w).alloc (Nat.le_refl _) _) hB
    · simp; omega
    rintro e w1 ⟨rfl, hb1⟩
    have hta : TermAt w1 w.heap.size p A n c := (TermAt.new w p A n c 24).below hb1 (by simp)
    have hwb : Below w.heap.size w w1 := ((Below.refl w.heap.size w).alloc (Nat.le_refl _) _).trans (hb1.mono (by simp))
    have y0 := hta.kind
    have y1 := hta.num
    have y2 := hta.name
    have y3 := hta.args
    have hws : w.heap.size < w1.heap.size := by have := hb1.size; simp at this; omega
    have HWB := Lib.hid hwb
    clear hb1 hta hwb
    go_wp2_with fail
    refine (C2.out _ ?_ ?_).mono ?_
    · exact H.out.below HWB.out hB
    · omega
    rintro e w2 ⟨rfl, hb2⟩
    have HB2 := Lib.hid hb2
    clear hb2
    go_wp2_with fail
    go_ret
    exact ⟨rfl, HWB.out.trans (HB2.out.mono (by omega))⟩
  · rw [decide_eq_false hle]
    go_enter Try.func51, Try.ntmps51
    go_wp2_with fail
    refine (C1.out _ ?_ ?_).mono ?_
    · exact H.out.below ((Below.refl w.heap.size w).alloc (Nat.le_refl _) _) hB
    · simp; omega
    rintro e w1 ⟨rfl, hb1⟩
    have hwb : Below w.heap.size w w1 := ((Below.refl w.heap.size w).alloc (Nat.le_refl _) _).trans (hb1.mono (by simp))
    have HWB := Lib.hid hwb
    clear hb1 hwb
    go_wp2_with fail
    go_ret
    exact ⟨rfl, HWB.out⟩
end Go.Proofs.Ytapcnehpechkpaa
