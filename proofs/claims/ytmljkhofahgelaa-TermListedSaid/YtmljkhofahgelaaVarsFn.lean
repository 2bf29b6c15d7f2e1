/-
  package term's Vars.
-/
import Derived.Test.YtmljkhofahgelaaVars
namespace Go.Proofs.Ytmljkhofahgelaa
set_option linter.unusedVariables false
set_option linter.unusedSimpArgs false
open Go.RowKit

namespace Tm
/-- The variables of a valid term, or none. -/
def varsFn (p : Pay) (l : Fo) : List Int := if validB p l then varsOf p l else []
end Tm
theorem list_result {fn : Func} {q : Tmp} (h : fn.results = #[.cell q 42]) (tmps : Array Value) (w : World) (b : Nat) (v : Value) (hp : tmps.getD q undef = .pointer (some ⟨b, 0, none⟩)) (hv : w.cell? ⟨b, 0, none⟩ = some v) :
    (results fn tmps).run Try.prog w = .ok v w := by
  have hp' : tmps[q]?.getD undef = .pointer (some ⟨b, 0, none⟩) := by simpa using hp
  have hagg : (isAgg 42).run Try.prog w = .ok false w := by
    unfold isAgg
    rw [Sem.run_bind, run_underlying Try.underlying42 w]
    rfl
  have hl : (loadVar 42 ⟨b, 0, none⟩).run Try.prog w = .ok v w := by
    simp [loadVar, Sem.run_bind, hagg, load]
    simp [Sem.run, hv]
  simp [results, h, hp', asAddr, hl]

set_option maxHeartbeats 1000000 in
theorem vars_any (p : Pay) (l : Fo) (A : Option Addr) (c B : Nat) (w : World) (hA : ArgsB w B A (Tm.len l) l) (hB : B ≤ w.heap.size) :
    Calls Try.prog 35 #[tv p A (Tm.len l) c] w fun e w' => ∃ A' n' c', e = .returned (.slice A' n' c') ∧ ListIn w' A' n' (Tm.varsFn p l) ∧ Below w.heap.size w w' := by
  have V1 := Lib.hid fun (w1 : World) (h1 : ArgsB w1 B A (Tm.len l) l) (h2 : B ≤ w1.heap.size) => valid_any p l A c B w1 h1 h2
  have BX := Lib.hid (two_boxes w)
  have kl : ∀ o1 : Obj, CellIs ((w.alloc o1).alloc (.cells #[.slice none 0 0] 42)) (w.heap.size + 1) (.slice none 0 0) := fun o1 => CellIs.new' _ _ _ _ (by simp)
  have KL := Lib.hid kl
  cases hv : Tm.validB p l
  · rw [hv] at V1
    have eo : Tm.varsFn p l = [] := by unfold Tm.varsFn; rw [hv]; exact if_neg (by decide)
    rw [eo]
    obtain ⟨n, hn⟩ : ∃ n, n = Tm.len l := ⟨_, rfl⟩
    rw [← hn] at hA V1 ⊢
    have HA := Lib.hid hA
    clear hv hA hn eo kl
    go_enter Try.func35, Try.ntmps35
    go_wp2_with fail
    refine (V1.out _ ?_ ?_).mono ?_
    · exact HA.out.below (BX.out _ _) hB
    · simp; omega
    rintro e w1 ⟨rfl, hb1⟩
    have hsz := hb1.size
    simp at hsz
    have hl := (KL.out _).below hb1 (by simp)
    have l0 := hl.cell
    have l1 := hl.soft
    have hw1 : w.heap.size + 1 < w1.heap.size := by omega
    have HB1 := Lib.hid ((BX.out _ _).trans (hb1.mono (by simp; omega)) : Below w.heap.size w w1)
    have HL := Lib.hid hl
    clear hb1 hl
    go_wp2_with fail
    refine bodyPost_ret (list_result (q := 2) rfl _ _ (w.heap.size + 1) (.slice none 0 0) rfl (HL.out.set _).cell) rfl ?_
    exact ⟨none, 0, 0, rfl, ⟨rfl, by decide, fun h => absurd h (by omega)⟩, HB1.out.setCell (p := ⟨w.heap.size + 1, 0, none⟩) (by show w.heap.size ≤ w.heap.size + 1; omega) _⟩
  have hv2 := hv
  unfold Tm.validB at hv2
  rw [Bool.and_eq_true, decide_eq_true_eq] at hv2
  have hg := hv2.2
  have eo : Tm.varsFn p l = Tm.varsOf p l := by unfold Tm.varsFn; rw [hv]; exact if_pos rfl
  have hvl : (Tm.varsOf p l).length ≤ 4000 := by have := varsT_len [] p l; unfold Tm.varsOf; simp at this; omega
  rw [eo]
  rw [hv] at V1
  have C2 := Lib.hid fun (k : Nat) (w2 : World) (h1 : ArgsB w2 B A (Tm.len l) l) (hk : w.heap.size + 2 ≤ k) (h2 : k + 3 = w2.heap.size) (h3 : VSt (w.heap.size + 1) (k + 2) (k + 1) k (k + 3) [] none 0 0 w2) =>
    eachVar_up (w.heap.size + 1) (k + 2) (k + 1) k (k + 3) ⟨by omega, by omega, by omega, by omega, by omega, by omega, by omega, by omega⟩ (Tm.size l + 1) p l A c B [] none 0 0 w2 (by omega) hg h1 (by omega) (by omega) (by omega) (by omega) h3
  have hev : Tm.varsT [] p l = Tm.varsOf p l := rfl
  rw [hev] at C2
  obtain ⟨L2, hL2⟩ : ∃ L2, L2 = Tm.varsOf p l := ⟨_, rfl⟩
  rw [← hL2] at C2 hvl ⊢
  obtain ⟨n, hn⟩ : ∃ n, n = Tm.len l := ⟨_, rfl⟩
  rw [← hn] at hA V1 C2 ⊢
  have HA := Lib.hid hA
  have CP := Lib.hid positions_any
  clear hv hv2 hA hn hg eo hev hL2 kl
  go_enter Try.func35, Try.ntmps35
  go_wp2_with fail
  refine (V1.out _ ?_ ?_).mono ?_
  · exact HA.out.below (BX.out _ _) hB
  · simp; omega
  rintro e w0 ⟨rfl, hb0⟩
  have hsz0 := hb0.size
  simp at hsz0
  have hta : TermAt w0 w.heap.size p A n c := ((TermAt.new w p A n c 24).below (B := w.heap.size + 1) ((Below.refl _ _).alloc (by simp) _) (by omega)).below hb0 (by simp; omega)
  have hl0 := (KL.out _).below hb0 (by simp)
  have hw0 : w.heap.size + 1 < w0.heap.size := by omega
  have HB0 := Lib.hid ((BX.out _ _).trans (hb0.mono (by simp; omega)) : Below w.heap.size w w0)
  have HT0 := Lib.hid hta
  have HL0 := Lib.hid hl0
  clear hb0 hta hl0
  go_wp2_with fail
  refine (CP.out _).mono ?_
  rintro e w1 ⟨rfl, hm, hsz1, hb1⟩
  have HM := Lib.hid hm
  have HB1 := Lib.hid hb1
  have HT1 := Lib.hid (HT0.out.below hb1 (by omega))
  have hta1 := HT1.out
  have y0 := hta1.kind
  have y1 := hta1.num
  have y2 := hta1.name
  have y3 := hta1.args
  have hlt : w.heap.size < w1.heap.size := by omega
  have hlt2 : w.heap.size < w0.heap.size + 2 := by omega
  have hlt3 : w.heap.size + 1 < w0.heap.size + 2 := by omega
  clear hm hb1 hta1
  go_wp2_with fail
  refine (C2.out w0.heap.size _ ?_ ?_ ?_ ?_).mono ?_
  · exact (HA.out.below (HB0.out.trans (HB1.out.mono (by omega))) hB).keep fun b hb => Below.heap_alloc _ _ _ (by have : b < B := hb; omega)
  · omega
  · simp; omega
  · have hpos : CellIs (w1.alloc (.cells #[.func (.func 73) #[] #[.pointer (some ⟨w0.heap.size + 1, 0, none⟩)]] 56)) (w0.heap.size + 2) (.func (.func 73) #[] #[.pointer (some ⟨w0.heap.size + 1, 0, none⟩)]) := CellIs.new' _ _ _ _ (by omega)
    exact ⟨⟨HM.out.same (Below.heap_alloc _ _ _ (by omega)) (Below.heap_alloc _ _ _ (by omega)), hpos.cell, List.nodup_nil, fun v hv => by cases hv⟩, (HL0.out.below HB1.out (by omega)).alloc _, ⟨rfl, World.ownsRow_nil _ _ _ _⟩⟩
  rintro e w2 ⟨A2, n2, c2, rfl, hv2, hg2⟩
  have l0 := hv2.lcell.cell
  have l1 := hv2.lcell.soft
  have hw2 : w.heap.size + 1 < w2.heap.size := hv2.lcell.lt
  have HV2 := Lib.hid hv2
  have HB2 := Lib.hid ((HB0.out.trans (HB1.out.mono (by omega))).trans (⟨hg2.os, hg2.tape, hg2.output, by have := hg2.size; simp at this; omega, fun k hk => (hg2.block k (by simp; omega) (by omega) (fun e => by cases e)).trans (Below.heap_alloc _ _ _ (by omega))⟩ : Below w.heap.size w1 w2))
  clear hv2 hg2
  go_wp2_with fail
  refine bodyPost_ret (list_result (q := 2) rfl _ _ (w.heap.size + 1) (.slice A2 n2 c2) rfl (HV2.out.lcell.set _).cell) rfl ?_
  refine ⟨A2, n2, c2, rfl, (HV2.out.row.listIn (by have := HV2.out.row.len; omega)).keep (by rw [setCell_size]; exact Nat.le_refl _) (fun b o e => setCell_block _ _ _ _ _ ?_), HB2.out.setCell (p := ⟨w.heap.size + 1, 0, none⟩) (by show w.heap.size ≤ w.heap.size + 1; omega) _⟩
  subst e
  have := (HV2.out.row.own.lt b rfl).1
  omega
end Go.Proofs.Ytmljkhofahgelaa
