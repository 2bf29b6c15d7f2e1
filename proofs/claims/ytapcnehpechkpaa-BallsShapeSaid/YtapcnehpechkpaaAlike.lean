/-
  identical of package term and of the reference; the two Sames.
-/
import Derived.Test.YtapcnehpechkpaaValid
import Derived.Deep.RegionHeld3
import Derived.StillTailTactics
namespace Go.Proofs.Ytapcnehpechkpaa
set_option linter.unusedVariables false
set_option linter.unusedSimpArgs false
set_option maxRecDepth 100000
open Go.RowKit

/-- What the recursion hands on: two terms of fewer than m nodes below the first are compared. -/
def Compares (f m : Nat) : Prop := ∀ (p : Pay) (l : Fo) (A : Option Addr) (c : Nat) (p' : Pay) (l' : Fo) (A' : Option Addr) (c' B : Nat) (w : World), Tm.size l < m → ArgsB w B A (Tm.len l) l → ArgsB w B A' (Tm.len l') l' → B ≤ w.heap.size →
    Calls Try.prog f #[tv p A (Tm.len l) c, tv p' A' (Tm.len l') c'] w fun e w' => e = .returned (.bool (Tm.sameT p l p' l')) ∧ Below w.heap.size w w'

theorem sameT_split (k v : Int) (s : ByteArray) (l : Fo) (k' v' : Int) (s' : ByteArray) (l' : Fo) : Tm.sameT (k, v, s) l (k', v', s') l' = (decide (k = k') && decide (v = v') && decide (s = s') && Tm.sameB l l') := rfl
theorem str_beq {s s' : ByteArray} (h : ¬ s = s') : (s.toList == s'.toList) = false := by
  rw [beq_eq_false_iff_ne, ByteArray.toList_eq, ByteArray.toList_eq]
  intro e
  apply h
  have : s.data = s'.data := Array.toList_inj.1 e
  cases s; cases s'; simp_all

theorem two_boxes (w : World) (o1 o2 : Obj) : Below w.heap.size w ((w.alloc o1).alloc o2) := Only.below (X := fun _ => False) (((Only.refl _ w).alloc _).alloc _) (Nat.le_refl _) (fun _ h => h.elim)

set_option maxHeartbeats 2000000 in
set_option maxHeartbeats 4000000 in
theorem ridentical_up (m : Nat) : Compares 86 m := by
  induction m with
  | zero => intro p l A c p' l' A' c' B w hm; omega
  | succ m ih =>
    intro p l A c p' l' A' c' B w hm hA hA' hBw
    obtain ⟨k, v, s⟩ := p
    obtain ⟨k', v', s'⟩ := p'
    rw [sameT_split]
    obtain ⟨n, hn⟩ : ∃ n, n = Tm.len l := ⟨_, rfl⟩
    obtain ⟨n', hn'⟩ : ∃ n', n' = Tm.len l' := ⟨_, rfl⟩
    rw [← hn] at hA ⊢
    rw [← hn'] at hA' ⊢
    have hnn : n ≤ 9223372036854775807 := hA.hi
    have hnn' : n' ≤ 9223372036854775807 := hA'.hi
    have HA := Lib.hid hA
    have HA' := Lib.hid hA'
    have IH := Lib.hid ih
    have HM := Lib.hid hm
    clear hA hA' ih hm
    by_cases hk : ¬ k = k'
    · rw [decide_eq_false hk]
      have hb : (k != k') = true := by simpa using hk
      clear hn hn'
      go_enter Try.func86, Try.ntmps86
      go_wp2_with fail
      go_ret
      exact ⟨rfl, two_boxes _ _ _⟩
    replace hk := Classical.not_not.1 hk
    subst hk
    by_cases hv : ¬ v = v'
    · rw [decide_eq_true rfl, decide_eq_false hv]
      have hb : (v != v') = true := by simpa using hv
      clear hn hn'
      go_enter Try.func86, Try.ntmps86
      go_wp2_with fail
      go_ret
      exact ⟨rfl, two_boxes _ _ _⟩
    replace hv := Classical.not_not.1 hv
    subst hv
    by_cases hs : ¬ s = s'
    · rw [decide_eq_true rfl, decide_eq_true rfl, decide_eq_false hs]
      have hb := str_beq hs
      have hb2 : (s.toList != s'.toList) = true := by rw [bne, hb]; rfl
      clear hs hn hn'
      go_enter Try.func86, Try.ntmps86
      go_wp2_with fail
      go_ret
      exact ⟨rfl, two_boxes _ _ _⟩
    replace hs := Classical.not_not.1 hs
    subst hs
    rw [decide_eq_true rfl, decide_eq_true rfl, decide_eq_true rfl]
    by_cases hnm : ¬ n = n'
    · have hres : Tm.sameB l l' = false := Tm.sameB_len (by omega)
      rw [hres]
      have hb : ((n : Int) != (n' : Int)) = true := by simp; omega
      clear hn hn' hres
      go_enter Try.func86, Try.ntmps86
      go_wp2_with fail
      go_ret
      exact ⟨rfl, two_boxes _ _ _⟩
    replace hnm := Classical.not_not.1 hnm
    subst hnm
    have HN := Lib.hid hn
    have HN' := Lib.hid hn'
    clear hn hn'
    go_enter Try.func86, Try.ntmps86
    go_wp2_with fail
    go_loopw [5] (fun u wr => ∃ i : Nat, i ≤ n ∧ u = .int .i64 i ∧ Tm.sameB l l' = Tm.sameB (Tm.dropF l i) (Tm.dropF l' i) ∧ w.heap.size + 1 < wr.heap.size ∧ TermAt wr w.heap.size (k, v, s) A n c ∧ TermAt wr (w.heap.size + 1) (k, v, s) A' n c' ∧ Below w.heap.size w wr) (fun u _ => n - (intOf u).toNat)
    case atStart => exact ⟨0, Nat.zero_le _, rfl, by rw [Tm.drop_zero, Tm.drop_zero], by simp, (TermAt.new w (k, v, s) A n c 24).below (B := w.heap.size + 1) ((Below.refl _ _).alloc (by simp) _) (by omega), by simpa using TermAt.new (w.alloc _) (k, v, s) A' n c' 24, two_boxes _ _ _⟩
    case round =>
      obtain ⟨i, hi, rfl, hal, hwr, hta, hta', hbl⟩ := hrel
      have x3 := hta.args
      have x3' := hta'.args
      have HB := Lib.hid hbl
      have HL := Lib.hid hal
      have HT := Lib.hid hta
      have HT' := Lib.hid hta'
      clear hbl hal hta hta'
      by_cases hlt : i < n
      · obtain ⟨b, o, p1, l1, r1, A1, c1, rfl, hbB, hd, hnode⟩ := HA.out.at hlt
        obtain ⟨b', o', p2, l2, r2, A2, c2, rfl, hbB', hd', hnode'⟩ := HA'.out.at hlt
        have hbw : b < w.heap.size := Nat.lt_of_lt_of_le hbB hBw
        have hbw' : b' < w.heap.size := Nat.lt_of_lt_of_le hbB' hBw
        have y0 := (HB.out.cell (p := ⟨b, o + i * 4, none⟩) hbw).trans hnode.kind
        have y1 := (HB.out.cell (p := ⟨b, o + i * 4 + 1, none⟩) hbw).trans hnode.num
        have y2 := (HB.out.cell (p := ⟨b, o + i * 4 + 2, none⟩) hbw).trans hnode.name
        have y3 := (HB.out.cell (p := ⟨b, o + i * 4 + 3, none⟩) hbw).trans hnode.args
        have z0 := (HB.out.cell (p := ⟨b', o' + i * 4, none⟩) hbw').trans hnode'.kind
        have z1 := (HB.out.cell (p := ⟨b', o' + i * 4 + 1, none⟩) hbw').trans hnode'.num
        have z2 := (HB.out.cell (p := ⟨b', o' + i * 4 + 2, none⟩) hbw').trans hnode'.name
        have z3 := (HB.out.cell (p := ⟨b', o' + i * 4 + 3, none⟩) hbw').trans hnode'.args
        have HD := Lib.hid (And.intro hd hd')
        have HI := Lib.hid (hnode.inn.below HB.out hBw)
        have HI' := Lib.hid (hnode'.inn.below HB.out hBw)
        clear hd hd' hnode hnode'
        have hs1 : Tm.size l1 < m := by have e := HD.out.1; have := Tm.size_drop_le l i; rw [e] at this; simp only [Tm.size] at this; have := HM.out; omega
        have hs2 : Tm.sameB l l' = (Tm.sameT p1 l1 p2 l2 && Tm.sameB (Tm.dropF l (i + 1)) (Tm.dropF l' (i + 1))) := by rw [HL.out, Tm.drop_succ HD.out.1, Tm.drop_succ HD.out.2, HD.out.1, HD.out.2, Tm.sameB_cons]
        have HS := Lib.hid hs2
        have C1 := Lib.hid fun (w2 : World) (h2 : ArgsB w2 B A1 (Tm.len l1) l1) (h2' : ArgsB w2 B A2 (Tm.len l2) l2) (h3 : B ≤ w2.heap.size) => IH.out p1 l1 A1 c1 p2 l2 A2 c2 B w2 hs1 h2 h2' h3
        clear hs1 hs2
        have hwr2 := HB.out.size
        go_wp2_with fail
        go_still_tail 10, (by kernel_rfl)
        change wpList _ _ _ _ _ wr.drew
        obtain ⟨w3, hw3⟩ : ∃ w3, w3 = wr.drew := ⟨_, rfl⟩
        have hw4 : Below wr.heap.size wr w3 := by rw [hw3]; exact (Below.refl _ _).drew
        have hw5 : w3.heap.size = wr.heap.size := by rw [hw3]; rfl
        rw [← hw3]
        have HW := Lib.hid (And.intro hw4 hw5)
        clear hw3 hw4 hw5 y0 y1 y2 y3 z0 z1 z2 z3 x3 x3'
        cases hg : Tm.sameT p1 l1 p2 l2
        · rw [hg] at C1 HS
          have hres : Tm.sameB l l' = false := by rw [HS.out]; rfl
          have HR := Lib.hid hres
          clear hg hres
          go_wp2_with fail
          refine (C1.out _ ?_ ?_ ?_).mono ?_
          · exact HI.out.below HW.out.1 (by omega)
          · exact HI'.out.below HW.out.1 (by omega)
          · have := HW.out.2; omega
          rintro e w2 ⟨rfl, hb1⟩
          have HB1 := Lib.hid hb1
          clear hb1
          go_wp2_with fail
          go_ret
          exact ⟨by rw [HR.out]; rfl, HB.out.trans ((HW.out.1.mono hwr2).trans (HB1.out.mono (by have := HW.out.2; omega)))⟩
        · rw [hg] at C1 HS
          clear hg
          go_wp2_with fail
          refine (C1.out _ ?_ ?_ ?_).mono ?_
          · exact HI.out.below HW.out.1 (by omega)
          · exact HI'.out.below HW.out.1 (by omega)
          · have := HW.out.2; omega
          rintro e w2 ⟨rfl, hb1⟩
          have HB1 := Lib.hid (HW.out.1.trans (hb1.mono (by have := HW.out.2; omega)) : Below wr.heap.size wr w2)
          clear hb1
          go_wp2_with fail
          exact ⟨⟨i + 1, by omega, by go_num, by rw [HS.out]; rfl, by have := HB1.out.size; omega, HT.out.below HB1.out (by omega), HT'.out.below HB1.out (by omega), HB.out.trans (HB1.out.mono hwr2)⟩, by simp [intOf]; omega⟩
      · obtain rfl : i = n := by omega
        have hres : Tm.sameB l l' = true := by
          have e1 : Tm.dropF l i = .nil := by rw [show i = Tm.len l from HN.out]; exact Tm.drop_end l
          have e2 : Tm.dropF l' i = .nil := by rw [show i = Tm.len l' from HN'.out]; exact Tm.drop_end l'
          rw [HL.out, e1, e2]; rfl
        have HR := Lib.hid hres
        clear hres
        go_wp2_with fail
        go_ret
        exact ⟨by rw [HR.out]; rfl, HB.out⟩
end Go.Proofs.Ytapcnehpechkpaa
