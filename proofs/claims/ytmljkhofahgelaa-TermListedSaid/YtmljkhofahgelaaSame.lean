/-
  Two terms are the same: package term's identical (by slices.EqualFunc), the reference's identical, and the two Sames.
-/
import Derived.Test.YtmljkhofahgelaaValid
import Derived.Deep.RegionHeld3
namespace Go.Proofs.Ytmljkhofahgelaa
set_option linter.unusedVariables false
set_option linter.unusedSimpArgs false
open Go.RowKit

/-- What the recursion hands on: two terms of fewer than m nodes below the first are compared. -/
def Compares (f m : Nat) : Prop := ∀ (p : Pay) (l : Fo) (A : Option Addr) (c : Nat) (p' : Pay) (l' : Fo) (A' : Option Addr) (c' B : Nat) (w : World), Tm.size l < m → ArgsB w B A (Tm.len l) l → ArgsB w B A' (Tm.len l') l' → B ≤ w.heap.size →
    Calls Try.prog f #[tv p A (Tm.len l) c, tv p' A' (Tm.len l') c'] w fun e w' => e = .returned (.bool (Tm.sameT p l p' l')) ∧ Below w.heap.size w w'

theorem enters_identical : ∀ (args : Array Value) (w : World), (callFunc 45 args).run Try.prog w = .ok (.enter 45 args) w := fun args w => by kernel_rfl

set_option maxHeartbeats 2000000 in
theorem equalFunc_up (m : Nat) (ih : Compares 45 m) (F G : Fo) (A A' : Option Addr) (c c' B : Nat) (w : World) (hF : Tm.size F ≤ m) (hA : ArgsB w B A (Tm.len F) F) (hA' : ArgsB w B A' (Tm.len G) G) (hBw : B ≤ w.heap.size) :
    Calls Try.prog 66 #[.slice A (Tm.len F) c, .slice A' (Tm.len G) c', .func (.func 45) #[] #[]] w fun e w' => e = .returned (.bool (Tm.sameB F G)) ∧ Below w.heap.size w w' := by
  obtain ⟨n, hn⟩ : ∃ n, n = Tm.len F := ⟨_, rfl⟩
  obtain ⟨n', hn'⟩ : ∃ n', n' = Tm.len G := ⟨_, rfl⟩
  rw [← hn] at hA ⊢
  rw [← hn'] at hA' ⊢
  have hnn : n ≤ 9223372036854775807 := hA.hi
  have hnn' : n' ≤ 9223372036854775807 := hA'.hi
  have eg := enters_identical
  have IH := Lib.hid ih
  have HF := Lib.hid hF
  clear ih hF
  by_cases hnm : n = n'
  · subst hnm
    have HN := Lib.hid hn
    have HN' := Lib.hid hn'
    have HA := Lib.hid hA
    have HA' := Lib.hid hA'
    clear hn hn' hA hA'
    go_enter Try.func66, Try.ntmps66
    go_wp2_with fail
    go_loopw [17] (fun u wr => ∃ k : Nat, k ≤ n ∧ u = .int .i64 k ∧ Tm.sameB F G = Tm.sameB (Tm.dropF F k) (Tm.dropF G k) ∧ Below w.heap.size w wr) (fun u _ => n - (intOf u).toNat)
    case atStart => exact ⟨0, Nat.zero_le _, rfl, by rw [Tm.drop_zero, Tm.drop_zero], Below.refl _ _⟩
    case round =>
      obtain ⟨k, hk, rfl, hal, hbl⟩ := hrel
      have HB := Lib.hid hbl
      have HL := Lib.hid hal
      clear hbl hal
      by_cases hlt : k < n
      · obtain ⟨b, o, p1, l1, r1, A1, c1, rfl, hbB, hd, hnode⟩ := HA.out.at hlt
        obtain ⟨b', o', p2, l2, r2, A2, c2, rfl, hbB', hd', hnode'⟩ := HA'.out.at hlt
        have hbw : b < w.heap.size := Nat.lt_of_lt_of_le hbB hBw
        have hbw' : b' < w.heap.size := Nat.lt_of_lt_of_le hbB' hBw
        have y0 := (HB.out.cell (p := ⟨b, o + k * 4, none⟩) hbw).trans hnode.kind
        have y1 := (HB.out.cell (p := ⟨b, o + k * 4 + 1, none⟩) hbw).trans hnode.num
        have y2 := (HB.out.cell (p := ⟨b, o + k * 4 + 2, none⟩) hbw).trans hnode.name
        have y3 := (HB.out.cell (p := ⟨b, o + k * 4 + 3, none⟩) hbw).trans hnode.args
        have z0 := (HB.out.cell (p := ⟨b', o' + k * 4, none⟩) hbw').trans hnode'.kind
        have z1 := (HB.out.cell (p := ⟨b', o' + k * 4 + 1, none⟩) hbw').trans hnode'.num
        have z2 := (HB.out.cell (p := ⟨b', o' + k * 4 + 2, none⟩) hbw').trans hnode'.name
        have z3 := (HB.out.cell (p := ⟨b', o' + k * 4 + 3, none⟩) hbw').trans hnode'.args
        have hbr : b < wr.heap.size := below_lt hbw HB.out.size
        have hbr' : b' < wr.heap.size := below_lt hbw' HB.out.size
        have HD := Lib.hid (And.intro hd hd')
        have HI := Lib.hid (hnode.inn.below HB.out hBw)
        have HI' := Lib.hid (hnode'.inn.below HB.out hBw)
        clear hd hd' hnode hnode'
        have hs1 : Tm.size l1 < m := by have e := HD.out.1; have := Tm.size_drop_le F k; rw [e] at this; simp only [Tm.size] at this; have := HF.out; omega
        have hs2 : Tm.sameB F G = (Tm.sameT p1 l1 p2 l2 && Tm.sameB (Tm.dropF F (k + 1)) (Tm.dropF G (k + 1))) := by rw [HL.out, Tm.drop_succ HD.out.1, Tm.drop_succ HD.out.2, HD.out.1, HD.out.2, Tm.sameB_cons]
        have HS := Lib.hid hs2
        have C1 := Lib.hid fun (w2 : World) (h2 : ArgsB w2 B A1 (Tm.len l1) l1) (h2' : ArgsB w2 B A2 (Tm.len l2) l2) (h3 : B ≤ w2.heap.size) => IH.out p1 l1 A1 c1 p2 l2 A2 c2 B w2 hs1 h2 h2' h3
        have hW : ∀ o1 o2 : Obj, Below wr.heap.size wr ((wr.alloc o1).alloc o2) := fun o1 o2 => Only.below (X := fun _ => False) (((Only.refl _ wr).alloc _).alloc _) (Nat.le_refl _) (fun _ h => h.elim)
        have HW := Lib.hid hW
        have hwr := HB.out.size
        clear hs1 hs2 hW
        cases hg : Tm.sameT p1 l1 p2 l2
        · rw [hg] at C1 HS
          have hres : Tm.sameB F G = false := by rw [HS.out]; rfl
          have HR := Lib.hid hres
          clear hg hres
          go_wp2_with fail
          refine (C1.out _ ?_ ?_ ?_).mono ?_
          · exact HI.out.below (HW.out _ _) (by omega)
          · exact HI'.out.below (HW.out _ _) (by omega)
          · simp; omega
          rintro e w2 ⟨rfl, hb1⟩
          have HB1 := Lib.hid hb1
          clear hb1
          go_wp2_with fail
          go_ret
          exact ⟨by rw [HR.out]; rfl, (HB.out.trans ((HW.out _ _).mono HB.out.size)).trans (HB1.out.mono (by simp; omega))⟩
        · rw [hg] at C1 HS
          clear hg
          go_wp2_with fail
          refine (C1.out _ ?_ ?_ ?_).mono ?_
          · exact HI.out.below (HW.out _ _) (by omega)
          · exact HI'.out.below (HW.out _ _) (by omega)
          · simp; omega
          rintro e w2 ⟨rfl, hb1⟩
          have HB1 := Lib.hid hb1
          clear hb1
          go_wp2_with fail
          exact ⟨⟨k + 1, by omega, by go_num, by rw [HS.out]; rfl, (HB.out.trans ((HW.out _ _).mono HB.out.size)).trans (HB1.out.mono (by simp; omega))⟩, by simp [intOf]; omega⟩
      · obtain rfl : k = n := by omega
        have hres : Tm.sameB F G = true := by
          have e1 : Tm.dropF F k = .nil := by rw [show k = Tm.len F from HN.out]; exact Tm.drop_end F
          have e2 : Tm.dropF G k = .nil := by rw [show k = Tm.len G from HN'.out]; exact Tm.drop_end G
          rw [HL.out, e1, e2]; rfl
        have HR := Lib.hid hres
        clear hres
        go_wp2_with fail
        go_ret
        exact ⟨by rw [HR.out]; rfl, HB.out⟩
  · have hres : Tm.sameB F G = false := Tm.sameB_len (by omega)
    rw [hres]
    have hb : ((n : Int) == (n' : Int)) = false := by simp; omega
    clear hn hn' hA hA' hres
    go_enter Try.func66, Try.ntmps66
    go_wp2_with fail
    go_ret
    exact ⟨rfl, Below.refl _ _⟩
end Go.Proofs.Ytmljkhofahgelaa
