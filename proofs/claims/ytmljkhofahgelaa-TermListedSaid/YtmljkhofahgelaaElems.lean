/-
  package term's Elems.
-/
import Derived.Test.YtmljkhofahgelaaRename
import Derived.Test.YtmljkhofahgelaaRow
namespace Go.Proofs.Ytmljkhofahgelaa
set_option linter.unusedVariables false
set_option linter.unusedSimpArgs false
open Go.RowKit

namespace Tm
/-- The elements of a list, and its tail. -/
def elemsOf : Pay → Fo → Fo × Pay × Fo
  | p, .node p0 l0 (.node p1 l1 .nil) => if p.1 = 3 ∧ p.2.2 = ⟨#[46]⟩ then (.node p0 l0 (elemsOf p1 l1).1, (elemsOf p1 l1).2) else (.nil, p, .node p0 l0 (.node p1 l1 .nil))
  | p, l => (.nil, p, l)
def elemsFn (p : Pay) (l : Fo) : Fo × Pay × Fo := if validB p l then elemsOf p l else (.nil, zp, .nil)
theorem elemsOf_cons {p : Pay} (p0 : Pay) (l0 : Fo) (p1 : Pay) (l1 : Fo) (h : p.1 = 3) (hn : p.2.2 = ⟨#[46]⟩) : elemsOf p (.node p0 l0 (.node p1 l1 .nil)) = (.node p0 l0 (elemsOf p1 l1).1, (elemsOf p1 l1).2) := by
  have e : elemsOf p (.node p0 l0 (.node p1 l1 .nil)) = if p.1 = 3 ∧ p.2.2 = (⟨#[46]⟩ : ByteArray) then (.node p0 l0 (elemsOf p1 l1).1, (elemsOf p1 l1).2) else (.nil, p, .node p0 l0 (.node p1 l1 .nil)) := rfl
  rw [e, if_pos ⟨h, hn⟩]
theorem elemsOf_end {p : Pay} {l : Fo} (h : ¬ (p.1 = 3 ∧ p.2.2 = ⟨#[46]⟩ ∧ len l = 2)) : elemsOf p l = (.nil, p, l) := by
  match l with
  | .nil => rfl
  | .node _ _ .nil => rfl
  | .node p0 l0 (.node p1 l1 .nil) =>
    unfold elemsOf
    rw [if_neg fun hh => h ⟨hh.1, hh.2, rfl⟩]
  | .node _ _ (.node _ _ (.node _ _ _)) => rfl
theorem len_two {l : Fo} (h : len l = 2) : ∃ p0 l0 p1 l1, l = .node p0 l0 (.node p1 l1 .nil) := by
  match l with
  | .nil => cases h
  | .node _ _ .nil => cases h
  | .node p0 l0 (.node p1 l1 .nil) => exact ⟨p0, l0, p1, l1, rfl⟩
  | .node _ _ (.node _ _ (.node _ _ _)) => simp only [len] at h; omega
end Tm
theorem toList_dot (s : ByteArray) : s.toList = [46] ↔ s = ⟨#[46]⟩ := by
  rw [ByteArray.toList_eq]
  constructor
  · intro h
    obtain ⟨⟨d⟩⟩ := s
    have : d = [46] := h
    subst this
    rfl
  · rintro rfl; rfl

theorem tmp_result_term {fn : Func} {q u : Tmp} (h : fn.results = #[.tmp q, .cell u 24]) (tmps : Array Value) (w : World) (b : Nat) (p : Pay) (A : Option Addr) (n c : Nat) (x : Value) (hx : tmps.getD q undef = x) (hp : tmps.getD u undef = .pointer (some ⟨b, 0, none⟩)) (ht : TermAt w b p A n c) :
    (results fn tmps).run Try.prog w = .ok (.tuple #[x, tv p A n c]) w := by
  have hp' : tmps[u]?.getD undef = .pointer (some ⟨b, 0, none⟩) := by simpa using hp
  have hx' : tmps[q]?.getD undef = x := by simpa using hx
  simp [results, h, hp', hx', asAddr, load_term w b p A n c ht]

set_option maxHeartbeats 4000000 in
theorem elems_any (p : Pay) (l : Fo) (A : Option Addr) (c B : Nat) (w : World) (hA : ArgsB w B A (Tm.len l) l) (hB : B ≤ w.heap.size) :
    Calls Try.prog 37 #[tv p A (Tm.len l) c] w fun e w' => ∃ A1 c1 A2 c2, e = .returned (.tuple #[.slice A1 (Tm.len (Tm.elemsFn p l).1) c1, tv (Tm.elemsFn p l).2.1 A2 (Tm.len (Tm.elemsFn p l).2.2) c2]) ∧
      ArgsIn (fun b => w.heap.size ≤ b ∧ b < w'.heap.size) w' A1 (Tm.len (Tm.elemsFn p l).1) (Tm.elemsFn p l).1 ∧ ArgsIn (fun b => w.heap.size ≤ b ∧ b < w'.heap.size) w' A2 (Tm.len (Tm.elemsFn p l).2.2) (Tm.elemsFn p l).2.2 ∧ Below w.heap.size w w' := by
  have V1 := Lib.hid fun (w1 : World) (h1 : ArgsB w1 B A (Tm.len l) l) (h2 : B ≤ w1.heap.size) => valid_any p l A c B w1 h1 h2
  have BX := Lib.hid (two_boxes w)
  unfold Tm.elemsFn
  cases hv : Tm.validB p l
  · rw [hv] at V1
    rw [show (if false = true then Tm.elemsOf p l else (Fo.nil, zp, Fo.nil)) = (Fo.nil, zp, Fo.nil) from if_neg (by decide)]
    obtain ⟨n, hn⟩ : ∃ n, n = Tm.len l := ⟨_, rfl⟩
    rw [← hn] at hA V1 ⊢
    have HA := Lib.hid hA
    clear hv hA hn
    go_enter Try.func37, Try.ntmps37
    go_wp2_with fail
    refine (V1.out _ ?_ ?_).mono ?_
    · exact HA.out.below (BX.out _ _) hB
    · simp; omega
    rintro e w1 ⟨rfl, hb1⟩
    have hsz := hb1.size
    simp at hsz
    have hr : ResAt w1 (w.heap.size + 1) := (ResAt.new (w.alloc _) 24 _ (by simp)).below hb1 (by simp)
    have hw1 : w.heap.size + 1 < w1.heap.size := by omega
    have r0 := hr.t.kind
    have r1 := hr.t.num
    have r2 := hr.t.name
    have r3 := hr.t.args
    have q0 := hr.s.s0
    have q1 := hr.s.s1
    have q2 := hr.s.s2
    have q3 := hr.s.s3
    have HB1 := Lib.hid ((BX.out _ _).trans (hb1.mono (by simp; omega)) : Below w.heap.size w w1)
    have HR := Lib.hid hr
    clear hb1 hr
    go_wp2_with fail
    have st := stored w1 (w.heap.size + 1) zp zp none none 0 0 0 0 HR.out.t HR.out.s
    show bodyPost _ _ _ _ _ (set4 w1 (w.heap.size + 1) 0 zp none 0 0)
    generalize set4 w1 (w.heap.size + 1) 0 zp none 0 0 = w2 at st ⊢
    refine bodyPost_ret (tmp_result_term (q := 2) (u := 3) rfl _ _ (w.heap.size + 1) zp none 0 0 (.slice none 0 0) rfl rfl st.term) rfl ?_
    exact ⟨none, 0, none, 0, rfl, ArgsIn.nil _ _ _, ArgsIn.nil _ _ _, st.below _ _ HB1.out (by omega)⟩
  rw [hv] at V1
  rw [show (if true = true then Tm.elemsOf p l else (Fo.nil, zp, Fo.nil)) = Tm.elemsOf p l from if_pos rfl]
  have hgood : Tm.goodB p l = true := by unfold Tm.validB at hv; rw [Bool.and_eq_true] at hv; exact hv.2
  have hsize : 1 + Tm.size l ≤ 2000 := by unfold Tm.validB at hv; rw [Bool.and_eq_true, decide_eq_true_eq] at hv; exact hv.1
  obtain ⟨q, hq⟩ : ∃ q, q = Tm.elemsOf p l := ⟨_, rfl⟩
  rw [← hq]
  obtain ⟨n, hn⟩ : ∃ n, n = Tm.len l := ⟨_, rfl⟩
  rw [← hn] at hA V1 ⊢
  have HA := Lib.hid hA
  have HN := Lib.hid hn
  have HQ := Lib.hid hq
  have HG := Lib.hid hgood
  have HS := Lib.hid hsize
  obtain ⟨i0, hi0, hz0, hz1, hz2⟩ := term_parts
  clear hv hA hn hq hgood hsize
  go_enter Try.func37, Try.ntmps37
  go_wp2_with fail
  refine (V1.out _ ?_ ?_).mono ?_
  · exact HA.out.below (BX.out _ _) hB
  · simp; omega
  rintro e w0 ⟨rfl, hb0⟩
  have hsz0 := hb0.size
  simp at hsz0
  have hta : TermAt w0 w.heap.size p A n c := ((TermAt.new w p A n c 24).below (B := w.heap.size + 1) ((Below.refl _ _).alloc (by simp) _) (by omega)).below hb0 (by simp; omega)
  have hsa : SoftAt w0 w.heap.size := ((SoftAt.new w _ 24).same (Below.heap_alloc _ _ _ (by simp))).same (hb0.block _ (by simp; omega))
  have hres : ResAt w0 (w.heap.size + 1) := (ResAt.new (w.alloc _) 24 _ (by simp)).below hb0 (by simp)
  have HT0 := Lib.hid hta
  have HS0 := Lib.hid hsa
  have HR0 := Lib.hid hres
  have HB0 := Lib.hid ((BX.out _ _).trans (hb0.mono (by simp; omega)) : Below w.heap.size w w0)
  have hw0 : w.heap.size + 1 < w0.heap.size := by omega
  clear hta hsa hres hb0 hsz0
  go_wp2_with fail
  go_loopw [2] (fun u wr => ∃ (k : Nat) (vs : List Value) (acc : Fo) (Ac : Option Addr) (cc : Nat) (p1 : Pay) (l1 : Fo) (A1 : Option Addr) (c1 : Nat), u = .slice Ac k cc ∧ q = (Tm.app acc (Tm.elemsOf p1 l1).1, (Tm.elemsOf p1 l1).2) ∧ RowSt (w.heap.size + 1) wr vs acc Ac k cc ∧
    TermAt wr w.heap.size p1 A1 (Tm.len l1) c1 ∧ SoftAt wr w.heap.size ∧ ResAt wr (w.heap.size + 1) ∧ ArgsB wr B A1 (Tm.len l1) l1 ∧ Tm.goodB p1 l1 = true ∧ k + Tm.size l1 ≤ 2000 ∧ Below w.heap.size w wr) (fun u _ => match u with | .slice _ k _ => 3000 - k | _ => 0)
  case atStart =>
    exact ⟨0, [], .nil, none, 0, p, l, A, c, rfl, HQ.out, RowSt.start _ _ hw0, by rw [← HN.out]; exact HT0.out, HS0.out, HR0.out, by rw [← HN.out]; exact HA.out.below HB0.out hB, HG.out, by have := HS.out; omega, HB0.out⟩
  case round =>
    obtain ⟨k, vs, acc, Ac, cc, p1, l1, A1, c1, rfl, hel, hrow, hta, hsa, hres, hargs, hgood, hsz, hbl⟩ := hrel
    have hwr : w.heap.size + 1 < wr.heap.size := hrow.size
    have hwr0 : w.heap.size < wr.heap.size := by omega
    have x0 := hta.kind
    have x1 := hta.num
    have x2 := hta.name
    have x3 := hta.args
    have HEL := Lib.hid hel
    have HROW := Lib.hid hrow
    have HT := Lib.hid hta
    have HSA := Lib.hid hsa
    have HR := Lib.hid hres
    have HAR := Lib.hid hargs
    have HGD := Lib.hid hgood
    have HB1 := Lib.hid hbl
    clear hel hrow hta hsa hres hargs hgood hbl
    by_cases hc : p1.1 = 3 ∧ p1.2.2 = ⟨#[46]⟩ ∧ Tm.len l1 = 2
    · obtain ⟨hk, hnm, h2⟩ := hc
      obtain ⟨pa, la, pb, lb, rfl⟩ := Tm.len_two h2
      have hkb : (p1.1 == 3) = true := by rw [hk]; rfl
      have hnb : (p1.2.2.toList == [46]) = true := by rw [beq_iff_eq, toList_dot]; exact hnm
      obtain ⟨b, o, rfl, hbB, hrw⟩ := HAR.out.row (by rw [h2]; omega)
      have hbw : b < w.heap.size := Nat.lt_of_lt_of_le hbB hB
      replace x3 : wr.cell? ⟨w.heap.size, 3, none⟩ = some (.slice (some ⟨b, o, none⟩) 2 c1) := x3
      obtain ⟨y0, y1, y2, ⟨Aa, ca, y3, ha1, ha2⟩, hrest⟩ := hrw
      obtain ⟨z0, z1, z2, ⟨Ab, cb, z3, hb1, hb2⟩, -⟩ := hrest
      have HI := Lib.hid (⟨rfl, ha1, ha2⟩ : ArgsB wr B Aa (Tm.len la) la)
      have HJ := Lib.hid (⟨rfl, hb1, hb2⟩ : ArgsB wr B Ab (Tm.len lb) lb)
      have hgood := HGD.out
      have hga : Tm.goodB pa la = true := by unfold Tm.goodB at hgood; simp only [Tm.allB_cons, Bool.and_eq_true] at hgood; exact hgood.2.1
      have hgb : Tm.goodB pb lb = true := by unfold Tm.goodB at hgood; simp only [Tm.allB_cons, Bool.and_eq_true] at hgood; exact hgood.2.2.1
      have HGB := Lib.hid hgb
      have HSZ := Lib.hid (show k + 1 + Tm.size lb ≤ 2000 by simp only [Tm.size] at hsz; omega)
      have hk9 : k ≤ 2000 := by omega
      have C1 := Lib.hid fun (w2 : World) (h2 : ArgsB w2 B Aa (Tm.len la) la) (h3 : B ≤ w2.heap.size) => copied_any pa la Aa ca B w2 h2 hga h3
      unfold Makes at C1
      obtain ⟨na, hna⟩ : ∃ na, na = Tm.len la := ⟨_, rfl⟩
      rw [← hna] at C1 HI y3
      obtain ⟨nb, hnb2⟩ : ∃ nb, nb = Tm.len lb := ⟨_, rfl⟩
      rw [← hnb2] at HJ z3
      have HNA := Lib.hid hna
      have HNB := Lib.hid hnb2
      have HKK := Lib.hid hk
      have HNM := Lib.hid hnm
      have hne : ¬ w.heap.size = b := by omega
      have hne' : ¬ b = w.heap.size := by omega
      have s0 := HSA.out.s0
      have s1 := HSA.out.s1
      have s2 := HSA.out.s2
      have s3 := HSA.out.s3
      clear hga hgb hgood hna hnb2 ha1 ha2 hb1 hb2 hk hnm h2 hsz
      go_wp2_with fail
      refine (C1.out _ ?_ ?_).mono ?_
      · exact HI.out
      · have := HB1.out.size; omega
      rintro e w1 ⟨A2, c2, rfl, ha2, hb2⟩
      have HA2 := Lib.hid ha2
      have HB2 := Lib.hid hb2
      have hw1 := hb2.size
      have HRA := Lib.hid ((HROW.out.below hb2).below ((Below.refl w1.heap.size w1).alloc (Nat.le_refl _) (.cells #[.int .i64 pa.1, .int .i64 pa.2.1, .string pa.2.2, .slice A2 na c2] 24)))
      have hbwr : b < wr.heap.size := by omega
      clear ha2 hb2
      go_wp2_with (refine wpList_append_lies _ rfl (.tmp 22) (.tmp 28) 22 rfl (w.heap.size + 1 + 1) 24 i0 (tv zp none 0 0) 4 56 Try.underlying22 hi0 hz0 hz1 hz2 rfl (by decide) (.slice Ac k cc) k (tcells vs) rfl HRA.out.own ⟨w1.heap.size, 0, none⟩ 1 1 [.int .i64 pa.1, .int .i64 pa.2.1, .string pa.2.2, .slice A2 na c2] rfl rfl (news_four w1 pa A2 na c2 _) (one_four pa A2 na c2) (by decide) (by simp [maxLen]; omega) (by omega) (by simp; omega) _ rfl ?_)
      intro g cap w2 hown2 hgrow hat hlt2
      have hb6 : Below (w.heap.size + 1 + 1) wr w2 := ((HB2.out.mono (by omega)).alloc (by omega) _).grown hgrow (by simp; omega) (fun j e => (HRA.out.own.lt j e).1)
      have hpush := RowSt.push (N := wr.heap.size) HRA.out HNA.out (fun b' hb' => (HROW.out.own.lt b' hb').2) hwr ((HA2.out.keep (fun b' hb' => Below.heap_alloc w1 _ b' hb'.2)).mono (fun b' hb' => ⟨hb'.1, by rw [World.size_alloc]; exact Nat.lt_succ_of_lt hb'.2⟩)) hown2 hgrow (by rw [World.size_alloc]; exact hat)
      have HPU := Lib.hid hpush
      have hsa2 := HSA.out.same (hb6.block w.heap.size (by omega))
      have v0 := (hb6.cell (p := ⟨w.heap.size, 0, none⟩) (by show w.heap.size < _; omega)).trans x0
      have v1 := (hb6.cell (p := ⟨w.heap.size, 1, none⟩) (by show w.heap.size < _; omega)).trans x1
      have v2 := (hb6.cell (p := ⟨w.heap.size, 2, none⟩) (by show w.heap.size < _; omega)).trans x2
      have v3 := (hb6.cell (p := ⟨w.heap.size, 3, none⟩) (by show w.heap.size < _; omega)).trans x3
      have u0 := (hb6.cell (p := ⟨b, o + 4, none⟩) (by show b < _; omega)).trans z0
      have u1 := (hb6.cell (p := ⟨b, o + 4 + 1, none⟩) (by show b < _; omega)).trans z1
      have u2 := (hb6.cell (p := ⟨b, o + 4 + 2, none⟩) (by show b < _; omega)).trans z2
      have u3 := (hb6.cell (p := ⟨b, o + 4 + 3, none⟩) (by show b < _; omega)).trans z3
      have t0 := hsa2.s0
      have t1 := hsa2.s1
      have t2 := hsa2.s2
      have t3 := hsa2.s3
      have hta2 : TermAt w2 w.heap.size p1 (some ⟨b, o, none⟩) 2 c1 := ⟨v0, v1, v2, v3⟩
      have HTA2 := Lib.hid hta2
      have HSA2 := Lib.hid hsa2
      have HB6 := Lib.hid hb6
      clear hown2 hgrow hat hb6 hpush hta2 hsa2 x0 x1 x2 x3 y0 y1 y2 y3 z0 z1 z2 z3 s0 s1 s2 s3
      go_wp2_with fail
      have st := stored w2 w.heap.size pb p1 Ab (some ⟨b, o, none⟩) nb cb 2 c1 HTA2.out HSA2.out
      have hsize2 := HPU.out.size
      refine ⟨⟨k + 1, vs ++ [tv pa A2 na c2], Tm.app acc (.node pa la .nil), some ⟨g, 0, none⟩, cap, pb, lb, Ab, cb, rfl, ?_, HPU.out.keep (Nat.le_of_eq st.size.symm) (fun b' _ hb' => st.block b' (by omega)), by rw [← HNB.out]; exact st.term, st.soft, (HR.out.same (HB6.out.block _ (by omega))).same (st.block _ (by omega)), ?_, HGB.out, HSZ.out, st.below _ _ (HB1.out.trans (HB6.out.mono (by omega))) (Nat.le_refl _)⟩, ?_⟩
      · rw [HEL.out, Tm.elemsOf_cons pa la pb lb HKK.out HNM.out, Tm.app_assoc]; rfl
      · rw [← HNB.out]
        exact (HJ.out.below HB6.out (by omega)).keep fun b' (hb' : b' < B) => st.block b' (by omega)
      · simp only []; omega
    · have hend := Tm.elemsOf_end hc
      have HEN := Lib.hid hend
      have hkn : k ≤ 2000 := by omega
      have C1 := Lib.hid fun (w2 : World) (h2 : ArgsB w2 B A1 (Tm.len l1) l1) (h3 : B ≤ w2.heap.size) => copied_any p1 l1 A1 c1 B w2 h2 HGD.out h3
      unfold Makes at C1
      obtain ⟨n1, hn1⟩ : ∃ n1, n1 = Tm.len l1 := ⟨_, rfl⟩
      rw [← hn1] at C1 HAR x3 hc HT
      have HN1 := Lib.hid hn1
      clear hend hn1 hsz
      have fin : (p1.1 == 3) = false ∨ ((p1.1 == 3) = true ∧ (p1.2.2.toList == [46]) = false) ∨ ((p1.1 == 3) = true ∧ (p1.2.2.toList == [46]) = true ∧ ((n1 : Int) == 2) = false) := by
        by_cases h1 : p1.1 = 3
        · by_cases h2 : p1.2.2 = ⟨#[46]⟩
          · refine .inr (.inr ⟨by rw [h1]; rfl, by rw [beq_iff_eq, toList_dot]; exact h2, ?_⟩)
            rw [beq_eq_false_iff_ne]
            intro h3
            exact hc ⟨h1, h2, by omega⟩
          · exact .inr (.inl ⟨by rw [h1]; rfl, by rw [beq_eq_false_iff_ne]; intro h3; exact h2 ((toList_dot _).1 h3)⟩)
        · exact .inl (by rw [beq_eq_false_iff_ne]; exact h1)
      clear hc
      rcases fin with hkb | ⟨hkb, hnb⟩ | ⟨hkb, hnb, hlb⟩
      all_goals
        go_wp2_with fail
        refine (C1.out _ ?_ ?_).mono ?_
        · exact HAR.out
        · have := HB1.out.size; omega
        rintro e w1 ⟨A2, c2, rfl, ha2, hb2⟩
        have hw1 := hb2.size
        have HA2 := Lib.hid ha2
        have HB2 := Lib.hid hb2
        have hr := HR.out.below hb2 hwr
        have r0 := hr.t.kind
        have r1 := hr.t.num
        have r2 := hr.t.name
        have r3 := hr.t.args
        have q0 := hr.s.s0
        have q1 := hr.s.s1
        have q2 := hr.s.s2
        have q3 := hr.s.s3
        have HR2 := Lib.hid hr
        clear ha2 hb2 hr
        go_wp2_with fail
        have st := stored w1 (w.heap.size + 1) p1 zp A2 none n1 c2 0 0 HR2.out.t HR2.out.s
        show bodyPost _ _ _ _ _ (set4 w1 (w.heap.size + 1) 0 p1 A2 n1 c2)
        generalize set4 w1 (w.heap.size + 1) 0 p1 A2 n1 c2 = w2 at st ⊢
        have hrl := (HROW.out.below HB2.out).args (by omega)
        refine bodyPost_ret (tmp_result_term (q := 2) (u := 3) rfl _ _ (w.heap.size + 1) p1 A2 n1 c2 (.slice Ac k cc) rfl rfl st.term) rfl ?_
        have hqq : q = (acc, p1, l1) := by rw [HEL.out, HEN.out]; show (Tm.app acc .nil, p1, l1) = _; rw [Tm.app_nil]
        rw [hqq]
        show ∃ A1 c1 A2 c2, _ = Ending.returned (.tuple #[.slice A1 (Tm.len acc) c1, tv p1 A2 (Tm.len l1) c2]) ∧ ArgsIn _ _ A1 (Tm.len acc) acc ∧ ArgsIn _ _ A2 (Tm.len l1) l1 ∧ _
        rw [hrl.len, ← HN1.out]
        refine ⟨Ac, cc, A2, c2, rfl, ?_, st.fresh (N := wr.heap.size) HA2.out (by omega) (by omega), st.below _ _ (HB1.out.trans (HB2.out.mono (by omega))) (by omega)⟩
        exact (hrl.keep fun b' hb' => st.block b' (by omega)).mono fun b' hb' => ⟨by omega, by rw [st.size]; exact hb'.2⟩
end Go.Proofs.Ytmljkhofahgelaa
