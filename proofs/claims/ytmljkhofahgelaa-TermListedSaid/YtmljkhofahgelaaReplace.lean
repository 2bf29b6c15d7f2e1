/-
  package term's Replace.
-/
import Derived.Test.YtmljkhofahgelaaRename
namespace Go.Proofs.Ytmljkhofahgelaa
set_option linter.unusedVariables false
set_option linter.unusedSimpArgs false
open Go.RowKit

namespace Tm
theorem good_put (x : Int) (pb : Pay) (lb : Fo) (hb : goodB pb lb = true) (F : Fo) (hF : allB F = true) : allB (reb (putF x (pb, lb)) () F).2 = true := by
  induction F with
  | nil => rfl
  | node p l r ihl ihr =>
    simp only [allB, Bool.and_eq_true] at hF
    obtain ⟨⟨hn, hl⟩, hr⟩ := hF
    rw [reb_cons]
    unfold rebT
    by_cases h0 : p.1 = 0
    · obtain ⟨k, v, nm⟩ := p
      have h0' : k = 0 := h0
      subst h0'
      obtain ⟨h5, h6, rfl, h4⟩ := nodeB_var hn
      obtain rfl := len_zero h4
      rw [if_pos rfl]
      unfold putF
      by_cases hv : v = x
      · simp only [if_pos hv]
        rw [allB_cons, hb]
        exact ihr hr
      · simp only [if_neg hv]
        rw [allB_cons]
        have : goodB (0, v, ByteArray.empty) .nil = true := by unfold goodB; rw [Bool.and_eq_true]; exact ⟨hn, rfl⟩
        rw [this]
        exact ihr hr
    · rw [if_neg h0]
      show (goodB p (reb (putF x (pb, lb)) () l).2 && allB (reb (putF x (pb, lb)) () r).2) = true
      unfold goodB
      rw [reb_len, hn, ihl hl, ihr hr]; rfl
theorem goodT_put (x : Int) (pb : Pay) (lb : Fo) (hb : goodB pb lb = true) (p : Pay) (l : Fo) (h : goodB p l = true) : goodB (rebT (putF x (pb, lb)) () p l).2.1 (rebT (putF x (pb, lb)) () p l).2.2 = true := by
  have hF : allB (.node p l .nil) = true := by rw [allB_cons, h]; rfl
  have := good_put x pb lb hb _ hF
  rw [reb_cons, allB_cons, Bool.and_eq_true] at this
  exact this.1
/-- What Replace answers: a term and an error. -/
def replaceOf (p : Pay) (l : Fo) (x : Int) (pb : Pay) (lb : Fo) : (Pay × Fo) × Int :=
  if validB p l = true ∧ (0 ≤ x ∧ x ≤ 1099511627776) ∧ validB pb lb = true then (if 1 + size (rebT (putF x (pb, lb)) () p l).2.2 ≤ 2000 then ((rebT (putF x (pb, lb)) () p l).2, 0) else ((zp, .nil), 2)) else ((zp, .nil), 1)
end Tm

set_option maxHeartbeats 1000000 in
theorem replace1_any (vb bb : Nat) (x v : Int) (pb : Pay) (Ab : Option Addr) (nb cb : Nat) (w : World) (hv : w.cell? ⟨vb, 0, none⟩ = some (.int .i64 x)) (hb : TermAt w bb pb Ab nb cb) :
    Calls Try.prog 54 #[.int .i64 v, .pointer (some ⟨vb, 0, none⟩), .pointer (some ⟨bb, 0, none⟩)] w fun e w' => e = .returned (if v = x then tv pb Ab nb cb else tv (0, v, ByteArray.empty) none 0 0) ∧ Below w.heap.size w w' := by
  have hvl : vb < w.heap.size := World.block_lt_of_cell? w _ hv
  have hbl : bb < w.heap.size := World.block_lt_of_cell? w _ hb.kind
  have b0 := hb.kind
  have b1 := hb.num
  have b2 := hb.name
  have b3 := hb.args
  by_cases hx : v = x
  · rw [if_pos hx]
    subst hx
    have g1 : TermAt (w.alloc (.cells #[.int .i64 pb.1, .int .i64 pb.2.1, .string pb.2.2, .slice Ab nb cb] 24)) w.heap.size pb Ab nb cb := TermAt.new w pb Ab nb cb 24
    have G1 := Lib.hid g1
    clear hb g1
    go_enter Try.func54, Try.ntmps54
    go_wp2_with fail
    refine bodyPost_ret (term_result (q := 4) rfl _ _ w.heap.size pb Ab nb cb rfl G1.out) rfl ?_
    exact ⟨rfl, (Below.refl _ _).alloc (Nat.le_refl _) _⟩
  · rw [if_neg hx]
    have hxb : (v == x) = false := by simpa using hx
    have g1 : TermAt (w.alloc (.cells #[.int .i64 0, .int .i64 v, .string ⟨#[]⟩, .slice none 0 0] 24)) w.heap.size (0, v, ByteArray.empty) none 0 0 := TermAt.new w (0, v, ByteArray.empty) none 0 0 24
    have G1 := Lib.hid g1
    clear hb g1
    go_enter Try.func54, Try.ntmps54
    go_wp2_with fail
    refine bodyPost_ret (term_result (q := 4) rfl _ _ w.heap.size (0, v, ByteArray.empty) none 0 0 rfl G1.out) rfl ?_
    exact ⟨rfl, (Below.refl _ _).alloc (Nat.le_refl _) _⟩

structure RepSt (vb bb B : Nat) (x : Int) (pb : Pay) (Ab : Option Addr) (cb : Nat) (lb : Fo) (s : Unit) (w : World) : Prop where
  var : w.cell? ⟨vb, 0, none⟩ = some (.int .i64 x)
  by_ : TermAt w bb pb Ab (Tm.len lb) cb
  args : ArgsB w B Ab (Tm.len lb) lb
theorem enters_replace1 : ∀ (args : Array Value) (w : World), (callFunc 54 args).run Try.prog w = .ok (.enter 54 args) w := fun args w => by kernel_rfl
theorem repSpec (B Bx vb bb : Nat) (x : Int) (pb : Pay) (Ab : Option Addr) (cb : Nat) (lb : Fo) (hB : B ≤ Bx) (h1 : vb < Bx) (h2 : bb < Bx) : OfSpec (Tm.putF x (pb, lb)) 54 #[.pointer (some ⟨vb, 0, none⟩), .pointer (some ⟨bb, 0, none⟩)] B B Bx (fun _ => False) (RepSt vb bb B x pb Ab cb lb) where
  enters := enters_replace1
  lo := hB
  lo2 := Nat.le_refl _
  own := fun k h => h.elim
  keeps := fun s w w' h hs hk => ⟨(cell_of_block (p := ⟨vb, 0, none⟩) (hk _ h1)).trans h.var, h.by_.same (hk _ h2), h.args.keep fun b (hb : b < B) => hk b (by omega)⟩
  gives := fun s v w h hw h0 hv => (replace1_any vb bb x v pb Ab (Tm.len lb) cb w h.var h.by_).mono fun e w' ⟨he, hb⟩ => by
    unfold Tm.putF
    by_cases hx : v = x
    · rw [if_pos hx] at he
      simp only [if_pos hx]
      exact ⟨Ab, cb, he, (h.args.below hb (by omega)).mono fun b (hlt : b < B) => ⟨.inl hlt, by have := hb.size; omega⟩, ⟨(hb.cell (p := ⟨vb, 0, none⟩) (by show vb < _; omega)).trans h.var, h.by_.below hb (by omega), h.args.below hb (by omega)⟩, Only.of_below hb⟩
    · rw [if_neg hx] at he
      simp only [if_neg hx]
      exact ⟨none, 0, he, ArgsIn.nil _ _ _, ⟨(hb.cell (p := ⟨vb, 0, none⟩) (by show vb < _; omega)).trans h.var, h.by_.below hb (by omega), h.args.below hb (by omega)⟩, Only.of_below hb⟩

set_option maxHeartbeats 2000000 in
theorem replace_any (p : Pay) (l : Fo) (A : Option Addr) (c B : Nat) (x : Int) (pb : Pay) (lb : Fo) (Ab : Option Addr) (cb : Nat) (w : World) (hA : ArgsB w B A (Tm.len l) l) (hAb : ArgsB w B Ab (Tm.len lb) lb) (hB : B ≤ w.heap.size) :
    Calls Try.prog 22 #[tv p A (Tm.len l) c, .int .i64 x, tv pb Ab (Tm.len lb) cb] w (Makes2 (Tm.replaceOf p l x pb lb) w) := by
  have V1 := Lib.hid fun (w1 : World) (h1 : ArgsB w1 B A (Tm.len l) l) (h2 : B ≤ w1.heap.size) => valid_any p l A c B w1 h1 h2
  have V2 := Lib.hid fun (w1 : World) (h1 : ArgsB w1 B Ab (Tm.len lb) lb) (h2 : B ≤ w1.heap.size) => valid_any pb lb Ab cb B w1 h1 h2
  have k0 : ∀ o1 o2 o3 o4 : Obj, Below w.heap.size w ((((w.alloc o1).alloc o2).alloc o3).alloc o4) := fun o1 o2 o3 o4 => Only.below (X := fun _ => False) (((((Only.refl _ w).alloc _).alloc _).alloc _).alloc _) (Nat.le_refl _) (fun _ h => h.elim)
  have K0 := Lib.hid k0
  have hg : ∀ p l, Tm.validB p l = true → Tm.goodB p l = true := fun p l hv => by unfold Tm.validB at hv; rw [Bool.and_eq_true] at hv; exact hv.2
  have C2 := Lib.hid fun (h : Tm.validB p l = true) (w2 : World) (h2 : ArgsB w2 B A (Tm.len l) l) (h3 : RepSt (w.heap.size + 1) (w.heap.size + 2) B x pb Ab cb lb () w2) (h4 : w.heap.size + 4 ≤ w2.heap.size) =>
    rebuilt_up (Tm.putF x (pb, lb)) 54 #[.pointer (some ⟨w.heap.size + 1, 0, none⟩), .pointer (some ⟨w.heap.size + 2, 0, none⟩)] B B (w.heap.size + 4) (fun _ => False) (RepSt (w.heap.size + 1) (w.heap.size + 2) B x pb Ab cb lb) (repSpec B (w.heap.size + 4) (w.heap.size + 1) (w.heap.size + 2) x pb Ab cb lb (by omega) (by omega) (by omega)) (Tm.size l + 1) p l A c () w2 (by omega) h2 (hg p l h) h3 h4
  have CV := Lib.hid fun w => isVar_any x w
  have HGP := Lib.hid fun (h : Tm.validB p l = true) (h' : Tm.validB pb lb = true) => Tm.goodT_put x pb lb (hg _ _ h') p l (hg _ _ h)
  unfold Tm.replaceOf
  obtain ⟨n, hn⟩ : ∃ n, n = Tm.len l := ⟨_, rfl⟩
  obtain ⟨nb, hnb⟩ : ∃ nb, nb = Tm.len lb := ⟨_, rfl⟩
  rw [← hn] at hA V1 C2 ⊢
  rw [← hnb] at hAb V2 ⊢
  have HNB := Lib.hid hnb
  have HA := Lib.hid hA
  have HAB := Lib.hid hAb
  have kr : ∀ o1 o2 o3 : Obj, ResAt ((((w.alloc o1).alloc o2).alloc o3).alloc (.cells #[.int .i64 0, .int .i64 0, .string ⟨#[]⟩, .slice none 0 0] 24)) (w.heap.size + 3) := fun o1 o2 o3 => ResAt.new (((w.alloc o1).alloc o2).alloc o3) 24 _ (by simp)
  have kf : ∀ o1 o3 o4 : Obj, CellIs ((((w.alloc o1).alloc (.cells #[.int .i64 x] 2)).alloc o3).alloc o4) (w.heap.size + 1) (.int .i64 x) := fun o1 o3 o4 => ((CellIs.new' (w.alloc o1) (.int .i64 x) 2 (w.heap.size + 1) (by simp)).alloc o3).alloc o4
  have kt : ∀ (o2 o3 o4 : Obj), TermAt ((((w.alloc (.cells #[.int .i64 p.1, .int .i64 p.2.1, .string p.2.2, .slice A n c] 24)).alloc o2).alloc o3).alloc o4) w.heap.size p A n c := fun o2 o3 o4 => (TermAt.new w p A n c 24).below (B := w.heap.size + 1) ((((Below.refl _ _).alloc (by simp) _).alloc (by simp) _).alloc (by simp; try omega) _) (by omega)
  have ky : ∀ (o1 o2 o4 : Obj), TermAt ((((w.alloc o1).alloc o2).alloc (.cells #[.int .i64 pb.1, .int .i64 pb.2.1, .string pb.2.2, .slice Ab nb cb] 24)).alloc o4) (w.heap.size + 2) pb Ab nb cb := fun o1 o2 o4 => by
    have := TermAt.new ((w.alloc o1).alloc o2) pb Ab nb cb 24
    rw [World.size_alloc, World.size_alloc] at this
    exact this.same (Below.heap_alloc _ _ _ (by simp))
  have KR := Lib.hid kr
  have KF := Lib.hid kf
  have KT := Lib.hid kt
  have KY := Lib.hid ky
  clear kr kf kt ky k0 hg hn hnb hA hAb
  by_cases hv : Tm.validB p l = true
  · have C3 := Lib.hid (C2.out hv)
    have HGP2 := Lib.hid (HGP.out hv)
    rw [hv] at V1
    by_cases hx : 0 ≤ x ∧ x ≤ 1099511627776
    · rw [show (decide (0 ≤ x) && decide (x ≤ 1099511627776)) = true by rw [Bool.and_eq_true, decide_eq_true_eq, decide_eq_true_eq]; exact hx] at CV
      by_cases hvb : Tm.validB pb lb = true
      · rw [if_pos ⟨hv, hx, hvb⟩]
        have hgp := HGP2.out hvb
        unfold RebDoes at C3
        obtain ⟨t, ht⟩ : ∃ t, t = (Tm.rebT (Tm.putF x (pb, lb)) () p l) := ⟨_, rfl⟩
        rw [← ht] at C3 hgp ⊢
        obtain ⟨s0, P2, L2⟩ := t
        rw [hvb] at V2
        obtain ⟨n2, hn2⟩ : ∃ n2, n2 = Tm.len L2 := ⟨_, rfl⟩
        have S1 := Lib.hid fun (w1 : World) (A' : Option Addr) (c' : Nat) (h1 : ArgsB w1 w1.heap.size A' (Tm.len L2) L2) => size_any P2 L2 A' c' w1.heap.size w1 h1 (Nat.le_refl _)
        have S2 := Lib.hid fun (w1 : World) (A' : Option Addr) (c' : Nat) (h1 : ArgsB w1 w1.heap.size A' (Tm.len L2) L2) => copied_any P2 L2 A' c' w1.heap.size w1 h1 hgp (Nat.le_refl _)
        unfold Makes at S2
        rw [← hn2] at C3 S1 S2
        have HN2 := Lib.hid hn2
        obtain ⟨sz, hsz⟩ : ∃ sz, sz = Tm.sizeB L2 := ⟨_, rfl⟩
        rw [← hsz] at S1
        have hszb : sz ≤ 2001 := by rw [hsz]; unfold Tm.sizeB; omega
        have HSZ := Lib.hid hsz
        clear C2 HGP HGP2 hn2 ht hgp hsz hvb hv
        have hx2 := Lib.hid hx
        clear hx
        by_cases hle : 1 + Tm.size L2 ≤ 2000
        · rw [if_pos hle]
          have hszle : (sz : Int) ≤ 2000 := by rw [HSZ.out]; unfold Tm.sizeB; omega
          clear hle
          go_enter Try.func22, Try.ntmps22
          go_wp2_with fail
          refine (V1.out _ ?_ ?_).mono ?_
          · exact HA.out.below (K0.out _ _ _ _) hB
          · simp; omega
          rintro e w1 ⟨rfl, hb1⟩
          have hsz1 := hb1.size
          simp at hsz1
          have HT := Lib.hid ((KT.out _ _ _).below hb1 (by simp; omega))
          have HF := Lib.hid ((KF.out _ _ _).below hb1 (by simp))
          have HY := Lib.hid ((KY.out _ _ _).below hb1 (by simp))
          have HR := Lib.hid ((KR.out _ _ _).below hb1 (by simp))
          have HB := Lib.hid ((K0.out _ _ _ _).trans (hb1.mono (by simp; omega)) : Below w.heap.size w w1)
          have y0 := HT.out.kind
          have y1 := HT.out.num
          have y2 := HT.out.name
          have y3 := HT.out.args
          have z0 := HY.out.kind
          have z1 := HY.out.num
          have z2 := HY.out.name
          have z3 := HY.out.args
          have r0 := HR.out.t.kind
          have r1 := HR.out.t.num
          have r2 := HR.out.t.name
          have r3 := HR.out.t.args
          have q0 := HR.out.s.s0
          have q1 := HR.out.s.s1
          have q2 := HR.out.s.s2
          have q3 := HR.out.s.s3
          have f0 := HF.out.cell
          have hw0 : w.heap.size < w1.heap.size := by omega
          have hw1 : w.heap.size + 1 < w1.heap.size := by omega
          have hw2 : w.heap.size + 2 < w1.heap.size := by omega
          have hw3 : w.heap.size + 3 < w1.heap.size := by omega
          clear hb1
          go_wp2_with fail
          refine (CV.out _).mono ?_
          rintro e w2 ⟨rfl, rfl⟩
          go_wp2_with fail
          refine (V2.out _ ?_ ?_).mono ?_
          · exact HAB.out.below HB.out hB
          · omega
          rintro e w2 ⟨rfl, hb2⟩
          have hs2 := hb2.size
          clear y0 y1 y2 y3 z0 z1 z2 z3 r0 r1 r2 r3 q0 q1 q2 q3 f0
          have HT2 := Lib.hid (HT.out.below hb2 hw0)
          have HF2 := Lib.hid (HF.out.below hb2 hw1)
          have HY2 := Lib.hid (HY.out.below hb2 hw2)
          have HR2 := Lib.hid (HR.out.below hb2 hw3)
          have HB2 := Lib.hid (HB.out.trans (hb2.mono (by omega)))
          have y0 := HT2.out.kind
          have y1 := HT2.out.num
          have y2 := HT2.out.name
          have y3 := HT2.out.args
          have hw20 : w.heap.size < w2.heap.size := by omega
          clear hb2
          go_wp2_with fail
          refine (C3.out _ ?_ ?_ ?_).mono ?_
          · exact HA.out.below HB2.out hB
          · exact ⟨HF2.out.cell, by rw [← HNB.out]; exact HY2.out, by rw [← HNB.out]; exact HAB.out.below HB2.out hB⟩
          · omega
          rintro e w3 ⟨A1, c1, rfl, ha1, -, ho1⟩
          have hb3 : Below w2.heap.size w2 w3 := ho1.below (Nat.le_refl _) (fun k h => h.elim)
          have hs3 := hb3.size
          have HR3 := Lib.hid (HR2.out.below hb3 (by omega))
          have HB3 := Lib.hid (HB2.out.trans (hb3.mono (by omega)))
          have HA1 := Lib.hid (ha1.mono (S' := fun b => b < w3.heap.size) fun b hb => hb.2)
          clear ha1 ho1 hb3 y0 y1 y2 y3
          go_wp2_with fail
          refine (S1.out _ A1 c1 ?_).mono ?_
          · exact (HA1.out.keep fun b (hb : b < w3.heap.size) => Below.heap_alloc _ _ _ hb).up (by simp)
          rintro e w4 ⟨rfl, hb4⟩
          have hs4 := hb4.size
          simp at hs4
          have hsh := (TermAt.new w3 P2 A1 n2 c1 24).below hb4 (by simp)
          have HR4 := Lib.hid ((HR3.out.same (Below.heap_alloc w3 (.cells #[.int .i64 P2.1, .int .i64 P2.2.1, .string P2.2.2, .slice A1 n2 c1] 24) (w.heap.size + 3) (by omega))).below hb4 (by simp; omega))
          have HB4 := Lib.hid (HB3.out.trans (((Below.refl w3.heap.size w3).alloc (Nat.le_refl _) (.cells #[.int .i64 P2.1, .int .i64 P2.2.1, .string P2.2.2, .slice A1 n2 c1] 24)).mono (by omega) |>.trans (hb4.mono (by simp; omega))) : Below w.heap.size w w4)
          have HA4 := Lib.hid ((HA1.out.keep fun b (hb : b < w3.heap.size) => Below.heap_alloc w3 (.cells #[.int .i64 P2.1, .int .i64 P2.2.1, .string P2.2.2, .slice A1 n2 c1] 24) b hb).keep fun b (hb : b < w3.heap.size) => hb4.block b (by simp; omega))
          have hw43 : w3.heap.size < w4.heap.size := by omega
          have hw44 : w.heap.size + 3 < w4.heap.size := by omega
          have y0 := hsh.kind
          have y1 := hsh.num
          have y2 := hsh.name
          have y3 := hsh.args
          have r0 := HR4.out.t.kind
          have r1 := HR4.out.t.num
          have r2 := HR4.out.t.name
          have r3 := HR4.out.t.args
          have q0 := HR4.out.s.s0
          have q1 := HR4.out.s.s1
          have q2 := HR4.out.s.s2
          have q3 := HR4.out.s.s3
          clear hb4 hsh
          go_wp2_with fail
          clear r0 r1 r2 r3 q0 q1 q2 q3 y0 y1 y2 y3
          refine (S2.out _ A1 c1 ?_).mono ?_
          · exact HA4.out.up (by omega)
          rintro e w5 ⟨A5, c5, rfl, ha5, hb5⟩
          have hs5 := hb5.size
          have HR5 := Lib.hid (HR4.out.below hb5 hw44)
          have hw5 : w.heap.size + 3 < w5.heap.size := by omega
          have HA5 := Lib.hid ha5
          have HB5 := Lib.hid (HB4.out.trans (hb5.mono (by omega)))
          have r0 := HR5.out.t.kind
          have r1 := HR5.out.t.num
          have r2 := HR5.out.t.name
          have r3 := HR5.out.t.args
          have q0 := HR5.out.s.s0
          have q1 := HR5.out.s.s1
          have q2 := HR5.out.s.s2
          have q3 := HR5.out.s.s3
          clear ha5 hb5
          go_wp2_with fail
          have st := stored w5 (w.heap.size + 3) P2 zp A5 none n2 c5 0 0 HR5.out.t HR5.out.s
          show bodyPost _ _ _ _ _ (set4 w5 (w.heap.size + 3) 0 P2 A5 n2 c5)
          generalize set4 w5 (w.heap.size + 3) 0 P2 A5 n2 c5 = w6 at st ⊢
          refine bodyPost_ret (term_result_tmp (q := 6) (u := 7) rfl _ _ (w.heap.size + 3) P2 A5 n2 c5 (.int .i64 0) rfl rfl st.term) rfl ?_
          unfold Makes2
          simp only []
          rw [← HN2.out]
          exact ⟨A5, c5, rfl, st.fresh (N := w4.heap.size) HA5.out (by omega) (by omega), st.below _ _ HB5.out (by omega)⟩
        · rw [if_neg hle]
          have hszle : (2000 : Int) < (sz : Int) := by rw [HSZ.out]; unfold Tm.sizeB; omega
          clear hle
          go_enter Try.func22, Try.ntmps22
          go_wp2_with fail
          refine (V1.out _ ?_ ?_).mono ?_
          · exact HA.out.below (K0.out _ _ _ _) hB
          · simp; omega
          rintro e w1 ⟨rfl, hb1⟩
          have hsz1 := hb1.size
          simp at hsz1
          have HT := Lib.hid ((KT.out _ _ _).below hb1 (by simp; omega))
          have HF := Lib.hid ((KF.out _ _ _).below hb1 (by simp))
          have HY := Lib.hid ((KY.out _ _ _).below hb1 (by simp))
          have HR := Lib.hid ((KR.out _ _ _).below hb1 (by simp))
          have HB := Lib.hid ((K0.out _ _ _ _).trans (hb1.mono (by simp; omega)) : Below w.heap.size w w1)
          have y0 := HT.out.kind
          have y1 := HT.out.num
          have y2 := HT.out.name
          have y3 := HT.out.args
          have z0 := HY.out.kind
          have z1 := HY.out.num
          have z2 := HY.out.name
          have z3 := HY.out.args
          have r0 := HR.out.t.kind
          have r1 := HR.out.t.num
          have r2 := HR.out.t.name
          have r3 := HR.out.t.args
          have q0 := HR.out.s.s0
          have q1 := HR.out.s.s1
          have q2 := HR.out.s.s2
          have q3 := HR.out.s.s3
          have f0 := HF.out.cell
          have hw0 : w.heap.size < w1.heap.size := by omega
          have hw1 : w.heap.size + 1 < w1.heap.size := by omega
          have hw2 : w.heap.size + 2 < w1.heap.size := by omega
          have hw3 : w.heap.size + 3 < w1.heap.size := by omega
          clear hb1
          go_wp2_with fail
          refine (CV.out _).mono ?_
          rintro e w2 ⟨rfl, rfl⟩
          go_wp2_with fail
          refine (V2.out _ ?_ ?_).mono ?_
          · exact HAB.out.below HB.out hB
          · omega
          rintro e w2 ⟨rfl, hb2⟩
          have hs2 := hb2.size
          clear y0 y1 y2 y3 z0 z1 z2 z3 r0 r1 r2 r3 q0 q1 q2 q3 f0
          have HT2 := Lib.hid (HT.out.below hb2 hw0)
          have HF2 := Lib.hid (HF.out.below hb2 hw1)
          have HY2 := Lib.hid (HY.out.below hb2 hw2)
          have HR2 := Lib.hid (HR.out.below hb2 hw3)
          have HB2 := Lib.hid (HB.out.trans (hb2.mono (by omega)))
          have y0 := HT2.out.kind
          have y1 := HT2.out.num
          have y2 := HT2.out.name
          have y3 := HT2.out.args
          have hw20 : w.heap.size < w2.heap.size := by omega
          clear hb2
          go_wp2_with fail
          refine (C3.out _ ?_ ?_ ?_).mono ?_
          · exact HA.out.below HB2.out hB
          · exact ⟨HF2.out.cell, by rw [← HNB.out]; exact HY2.out, by rw [← HNB.out]; exact HAB.out.below HB2.out hB⟩
          · omega
          rintro e w3 ⟨A1, c1, rfl, ha1, -, ho1⟩
          have hb3 : Below w2.heap.size w2 w3 := ho1.below (Nat.le_refl _) (fun k h => h.elim)
          have hs3 := hb3.size
          have HR3 := Lib.hid (HR2.out.below hb3 (by omega))
          have HB3 := Lib.hid (HB2.out.trans (hb3.mono (by omega)))
          have HA1 := Lib.hid (ha1.mono (S' := fun b => b < w3.heap.size) fun b hb => hb.2)
          clear ha1 ho1 hb3 y0 y1 y2 y3
          go_wp2_with fail
          refine (S1.out _ A1 c1 ?_).mono ?_
          · exact (HA1.out.keep fun b (hb : b < w3.heap.size) => Below.heap_alloc _ _ _ hb).up (by simp)
          rintro e w4 ⟨rfl, hb4⟩
          have hs4 := hb4.size
          simp at hs4
          have hsh := (TermAt.new w3 P2 A1 n2 c1 24).below hb4 (by simp)
          have HR4 := Lib.hid ((HR3.out.same (Below.heap_alloc w3 (.cells #[.int .i64 P2.1, .int .i64 P2.2.1, .string P2.2.2, .slice A1 n2 c1] 24) (w.heap.size + 3) (by omega))).below hb4 (by simp; omega))
          have HB4 := Lib.hid (HB3.out.trans (((Below.refl w3.heap.size w3).alloc (Nat.le_refl _) (.cells #[.int .i64 P2.1, .int .i64 P2.2.1, .string P2.2.2, .slice A1 n2 c1] 24)).mono (by omega) |>.trans (hb4.mono (by simp; omega))) : Below w.heap.size w w4)
          have HA4 := Lib.hid ((HA1.out.keep fun b (hb : b < w3.heap.size) => Below.heap_alloc w3 (.cells #[.int .i64 P2.1, .int .i64 P2.2.1, .string P2.2.2, .slice A1 n2 c1] 24) b hb).keep fun b (hb : b < w3.heap.size) => hb4.block b (by simp; omega))
          have hw43 : w3.heap.size < w4.heap.size := by omega
          have hw44 : w.heap.size + 3 < w4.heap.size := by omega
          have y0 := hsh.kind
          have y1 := hsh.num
          have y2 := hsh.name
          have y3 := hsh.args
          have r0 := HR4.out.t.kind
          have r1 := HR4.out.t.num
          have r2 := HR4.out.t.name
          have r3 := HR4.out.t.args
          have q0 := HR4.out.s.s0
          have q1 := HR4.out.s.s1
          have q2 := HR4.out.s.s2
          have q3 := HR4.out.s.s3
          clear hb4 hsh
          go_wp2_with fail
          have st := stored w4 (w.heap.size + 3) zp zp none none 0 0 0 0 HR4.out.t HR4.out.s
          show bodyPost _ _ _ _ _ (set4 w4 (w.heap.size + 3) 0 zp none 0 0)
          generalize set4 w4 (w.heap.size + 3) 0 zp none 0 0 = w5 at st ⊢
          refine bodyPost_ret (term_result_tmp (q := 6) (u := 7) rfl _ _ (w.heap.size + 3) zp none 0 0 (.int .i64 2) rfl rfl st.term) rfl ?_
          exact ⟨none, 0, rfl, ArgsIn.nil _ _ _, st.below _ _ HB4.out (by omega)⟩
      · rw [if_neg (fun h => hvb h.2.2)]
        rw [show Tm.validB pb lb = false by simpa using hvb] at V2
        clear C2 C3 HGP HGP2 hvb hv hx
        go_enter Try.func22, Try.ntmps22
        go_wp2_with fail
        refine (V1.out _ ?_ ?_).mono ?_
        · exact HA.out.below (K0.out _ _ _ _) hB
        · simp; omega
        rintro e w1 ⟨rfl, hb1⟩
        have hsz1 := hb1.size
        simp at hsz1
        have HT := Lib.hid ((KT.out _ _ _).below hb1 (by simp; omega))
        have HF := Lib.hid ((KF.out _ _ _).below hb1 (by simp))
        have HY := Lib.hid ((KY.out _ _ _).below hb1 (by simp))
        have HR := Lib.hid ((KR.out _ _ _).below hb1 (by simp))
        have HB := Lib.hid ((K0.out _ _ _ _).trans (hb1.mono (by simp; omega)) : Below w.heap.size w w1)
        have y0 := HT.out.kind
        have y1 := HT.out.num
        have y2 := HT.out.name
        have y3 := HT.out.args
        have z0 := HY.out.kind
        have z1 := HY.out.num
        have z2 := HY.out.name
        have z3 := HY.out.args
        have r0 := HR.out.t.kind
        have r1 := HR.out.t.num
        have r2 := HR.out.t.name
        have r3 := HR.out.t.args
        have q0 := HR.out.s.s0
        have q1 := HR.out.s.s1
        have q2 := HR.out.s.s2
        have q3 := HR.out.s.s3
        have f0 := HF.out.cell
        have hw0 : w.heap.size < w1.heap.size := by omega
        have hw1 : w.heap.size + 1 < w1.heap.size := by omega
        have hw2 : w.heap.size + 2 < w1.heap.size := by omega
        have hw3 : w.heap.size + 3 < w1.heap.size := by omega
        clear hb1
        go_wp2_with fail
        refine (CV.out _).mono ?_
        rintro e w2 ⟨rfl, rfl⟩
        go_wp2_with fail
        refine (V2.out _ ?_ ?_).mono ?_
        · exact HAB.out.below HB.out hB
        · omega
        rintro e w2 ⟨rfl, hb2⟩
        have hs2 := hb2.size
        clear y0 y1 y2 y3 z0 z1 z2 z3 r0 r1 r2 r3 q0 q1 q2 q3 f0
        have HR2 := Lib.hid (HR.out.below hb2 hw3)
        have HB2 := Lib.hid (HB.out.trans (hb2.mono (by omega)))
        have hw23 : w.heap.size + 3 < w2.heap.size := by omega
        have r0 := HR2.out.t.kind
        have r1 := HR2.out.t.num
        have r2 := HR2.out.t.name
        have r3 := HR2.out.t.args
        have q0 := HR2.out.s.s0
        have q1 := HR2.out.s.s1
        have q2 := HR2.out.s.s2
        have q3 := HR2.out.s.s3
        clear hb2
        go_wp2_with fail
        have st := stored w2 (w.heap.size + 3) zp zp none none 0 0 0 0 HR2.out.t HR2.out.s
        show bodyPost _ _ _ _ _ (set4 w2 (w.heap.size + 3) 0 zp none 0 0)
        generalize set4 w2 (w.heap.size + 3) 0 zp none 0 0 = w5 at st ⊢
        refine bodyPost_ret (term_result_tmp (q := 6) (u := 7) rfl _ _ (w.heap.size + 3) zp none 0 0 (.int .i64 1) rfl rfl st.term) rfl ?_
        exact ⟨none, 0, rfl, ArgsIn.nil _ _ _, st.below _ _ HB2.out (by omega)⟩
    · rw [if_neg (fun h => hx h.2.1)]
      rw [show (decide (0 ≤ x) && decide (x ≤ 1099511627776)) = false by rw [Bool.and_eq_false_iff, decide_eq_false_iff_not, decide_eq_false_iff_not]; omega] at CV
      clear C2 C3 HGP HGP2 hv hx
      go_enter Try.func22, Try.ntmps22
      go_wp2_with fail
      refine (V1.out _ ?_ ?_).mono ?_
      · exact HA.out.below (K0.out _ _ _ _) hB
      · simp; omega
      rintro e w1 ⟨rfl, hb1⟩
      have hsz1 := hb1.size
      simp at hsz1
      have HT := Lib.hid ((KT.out _ _ _).below hb1 (by simp; omega))
      have HF := Lib.hid ((KF.out _ _ _).below hb1 (by simp))
      have HY := Lib.hid ((KY.out _ _ _).below hb1 (by simp))
      have HR := Lib.hid ((KR.out _ _ _).below hb1 (by simp))
      have HB := Lib.hid ((K0.out _ _ _ _).trans (hb1.mono (by simp; omega)) : Below w.heap.size w w1)
      have y0 := HT.out.kind
      have y1 := HT.out.num
      have y2 := HT.out.name
      have y3 := HT.out.args
      have z0 := HY.out.kind
      have z1 := HY.out.num
      have z2 := HY.out.name
      have z3 := HY.out.args
      have r0 := HR.out.t.kind
      have r1 := HR.out.t.num
      have r2 := HR.out.t.name
      have r3 := HR.out.t.args
      have q0 := HR.out.s.s0
      have q1 := HR.out.s.s1
      have q2 := HR.out.s.s2
      have q3 := HR.out.s.s3
      have f0 := HF.out.cell
      have hw0 : w.heap.size < w1.heap.size := by omega
      have hw1 : w.heap.size + 1 < w1.heap.size := by omega
      have hw2 : w.heap.size + 2 < w1.heap.size := by omega
      have hw3 : w.heap.size + 3 < w1.heap.size := by omega
      clear hb1
      go_wp2_with fail
      refine (CV.out _).mono ?_
      rintro e w2 ⟨rfl, rfl⟩
      go_wp2_with fail
      have st := stored w1 (w.heap.size + 3) zp zp none none 0 0 0 0 HR.out.t HR.out.s
      show bodyPost _ _ _ _ _ (set4 w1 (w.heap.size + 3) 0 zp none 0 0)
      generalize set4 w1 (w.heap.size + 3) 0 zp none 0 0 = w5 at st ⊢
      refine bodyPost_ret (term_result_tmp (q := 6) (u := 7) rfl _ _ (w.heap.size + 3) zp none 0 0 (.int .i64 1) rfl rfl st.term) rfl ?_
      exact ⟨none, 0, rfl, ArgsIn.nil _ _ _, st.below _ _ HB.out (by omega)⟩
  · rw [if_neg (fun h => hv h.1)]
    rw [show Tm.validB p l = false by simpa using hv] at V1
    clear C2 HGP hv
    go_enter Try.func22, Try.ntmps22
    go_wp2_with fail
    refine (V1.out _ ?_ ?_).mono ?_
    · exact HA.out.below (K0.out _ _ _ _) hB
    · simp; omega
    rintro e w1 ⟨rfl, hb1⟩
    have hsz1 := hb1.size
    simp at hsz1
    have HT := Lib.hid ((KT.out _ _ _).below hb1 (by simp; omega))
    have HF := Lib.hid ((KF.out _ _ _).below hb1 (by simp))
    have HY := Lib.hid ((KY.out _ _ _).below hb1 (by simp))
    have HR := Lib.hid ((KR.out _ _ _).below hb1 (by simp))
    have HB := Lib.hid ((K0.out _ _ _ _).trans (hb1.mono (by simp; omega)) : Below w.heap.size w w1)
    have y0 := HT.out.kind
    have y1 := HT.out.num
    have y2 := HT.out.name
    have y3 := HT.out.args
    have z0 := HY.out.kind
    have z1 := HY.out.num
    have z2 := HY.out.name
    have z3 := HY.out.args
    have r0 := HR.out.t.kind
    have r1 := HR.out.t.num
    have r2 := HR.out.t.name
    have r3 := HR.out.t.args
    have q0 := HR.out.s.s0
    have q1 := HR.out.s.s1
    have q2 := HR.out.s.s2
    have q3 := HR.out.s.s3
    have f0 := HF.out.cell
    have hw0 : w.heap.size < w1.heap.size := by omega
    have hw1 : w.heap.size + 1 < w1.heap.size := by omega
    have hw2 : w.heap.size + 2 < w1.heap.size := by omega
    have hw3 : w.heap.size + 3 < w1.heap.size := by omega
    clear hb1
    go_wp2_with fail
    have st := stored w1 (w.heap.size + 3) zp zp none none 0 0 0 0 HR.out.t HR.out.s
    show bodyPost _ _ _ _ _ (set4 w1 (w.heap.size + 3) 0 zp none 0 0)
    generalize set4 w1 (w.heap.size + 3) 0 zp none 0 0 = w5 at st ⊢
    refine bodyPost_ret (term_result_tmp (q := 6) (u := 7) rfl _ _ (w.heap.size + 3) zp none 0 0 (.int .i64 1) rfl rfl st.term) rfl ?_
    exact ⟨none, 0, rfl, ArgsIn.nil _ _ _, st.below _ _ HB.out (by omega)⟩
end Go.Proofs.Ytmljkhofahgelaa
