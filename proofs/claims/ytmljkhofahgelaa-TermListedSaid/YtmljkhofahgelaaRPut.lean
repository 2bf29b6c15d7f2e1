/-
  The reference's put.
-/
import Derived.Test.YtmljkhofahgelaaRCopy
import Derived.Test.YtmljkhofahgelaaMath
namespace Go.Proofs.Ytmljkhofahgelaa
set_option linter.unusedVariables false
set_option linter.unusedSimpArgs false
open Go.RowKit

/-- What the recursion hands on. -/
def RPuts (x : Int) (pb : Pay) (lb : Fo) (Ab : Option Addr) (cb : Nat) (m : Nat) : Prop := ∀ (p : Pay) (l : Fo) (A : Option Addr) (c B : Nat) (w : World), Tm.size l < m → m ≤ 3000 → Tm.goodB p l = true → ArgsB w B A (Tm.len l) l → B ≤ w.heap.size → ArgsB w B Ab (Tm.len lb) lb →
    Calls Try.prog 57 #[tv p A (Tm.len l) c, .int .i64 x, tv pb Ab (Tm.len lb) cb] w fun e w' =>
      ∃ A' c', e = .returned (tv (Tm.rebT (Tm.putF x (pb, lb)) () p l).2.1 A' (Tm.len (Tm.rebT (Tm.putF x (pb, lb)) () p l).2.2) c') ∧ ArgsIn (fun b => w.heap.size ≤ b ∧ b < w'.heap.size) w' A' (Tm.len (Tm.rebT (Tm.putF x (pb, lb)) () p l).2.2) (Tm.rebT (Tm.putF x (pb, lb)) () p l).2.2 ∧ Below w.heap.size w w'

set_option maxHeartbeats 4000000 in
theorem rput_struct (x : Int) (pb : Pay) (lb : Fo) (Ab : Option Addr) (cb : Nat) (m : Nat) (ih : RPuts x pb lb Ab cb m) (p : Pay) (l : Fo) (A : Option Addr) (c B : Nat) (w : World) (hk : ¬ p.1 = 0) (hm : Tm.size l ≤ m) (hm3 : m ≤ 3000) (hall : Tm.allB l = true) (hA : ArgsB w B A (Tm.len l) l) (hBw : B ≤ w.heap.size) (hb : ArgsB w B Ab (Tm.len lb) lb) :
    Calls Try.prog 57 #[tv p A (Tm.len l) c, .int .i64 x, tv pb Ab (Tm.len lb) cb] w fun e w' =>
      ∃ A' c', e = .returned (tv p A' (Tm.len (Tm.reb (Tm.putF x (pb, lb)) () l).2) c') ∧ ArgsIn (fun b => w.heap.size ≤ b ∧ b < w'.heap.size) w' A' (Tm.len (Tm.reb (Tm.putF x (pb, lb)) () l).2) (Tm.reb (Tm.putF x (pb, lb)) () l).2 ∧ Below w.heap.size w w' := by
  obtain ⟨n, hn⟩ : ∃ n, n = Tm.len l := ⟨_, rfl⟩
  have hlr : Tm.len (Tm.reb (Tm.putF x (pb, lb)) () l).2 = n := by rw [Tm.reb_len, hn]
  rw [hlr]
  rw [← hn] at hA ⊢
  have hnn : n ≤ 9223372036854775807 := hA.hi
  have hn3 : n ≤ 3000 := by have := Tm.len_le_size l; omega
  have HN := Lib.hid hn
  have HA := Lib.hid hA
  have HM := Lib.hid hm
  have IH := Lib.hid ih
  have HALL := Lib.hid hall
  have hkb : (p.1 == 0) = false := by simpa using hk
  obtain ⟨i0, hi0, hz0, hz1, hz2⟩ := term_parts
  obtain ⟨nb, hnb⟩ : ∃ nb, nb = Tm.len lb := ⟨_, rfl⟩
  rw [← hnb] at hb ⊢
  have HBA := Lib.hid hb
  have HNB := Lib.hid hnb
  clear hb hnb
  clear hn hA ih hm hall hlr
  go_enter Try.func57, Try.ntmps57
  go_wp2_with fail
  go_loopw [8] (fun u wr => ∃ (k : Nat) (vs : List Value) (acc : Fo) (Ac : Option Addr) (cc : Nat), k ≤ n ∧ u = .int .i64 k ∧ (Tm.reb (Tm.putF x (pb, lb)) () l).2 = Tm.app acc (Tm.reb (Tm.putF x (pb, lb)) () (Tm.dropF l k)).2 ∧ RowSt (w.heap.size + 3) wr vs acc Ac k cc ∧
    TermAt wr w.heap.size p A n c ∧ ResAt wr (w.heap.size + 2) ∧ TermAt wr (w.heap.size + 3) p Ac k cc ∧ SoftAt wr (w.heap.size + 3) ∧ Below w.heap.size w wr ∧ TermAt wr (w.heap.size + 1) pb Ab nb cb) (fun u _ => n - (intOf u).toNat)
  case atStart =>
    have k0 : ∀ o1 o2 o3 o4 : Obj, Below w.heap.size w ((((w.alloc o1).alloc o2).alloc o3).alloc o4) := fun o1 o2 o3 o4 => Only.below (X := fun _ => False) (((((Only.refl _ w).alloc _).alloc _).alloc _).alloc _) (Nat.le_refl _) (fun _ h => h.elim)
    have k1 : ∀ o1 o2 o3 o4 : Obj, ((((w.alloc o1).alloc o2).alloc o3).alloc o4).heap[w.heap.size]? = (w.alloc o1).heap[w.heap.size]? := fun o1 o2 o3 o4 => (Below.heap_alloc _ _ _ (by simp; omega)).trans ((Below.heap_alloc _ _ _ (by simp; omega)).trans (Below.heap_alloc _ _ _ (by simp)))
    have k2 : ∀ o1 o2 o3 o4 : Obj, ((((w.alloc o1).alloc o2).alloc o3).alloc o4).heap[w.heap.size + 1]? = ((w.alloc o1).alloc o2).heap[w.heap.size + 1]? := fun o1 o2 o3 o4 => (Below.heap_alloc _ _ _ (by simp)).trans (Below.heap_alloc _ _ _ (by simp))
    have k2' : ∀ o1 o2 o3 o4 : Obj, ((((w.alloc o1).alloc o2).alloc o3).alloc o4).heap[w.heap.size + 2]? = (((w.alloc o1).alloc o2).alloc o3).heap[w.heap.size + 2]? := fun o1 o2 o3 o4 => Below.heap_alloc _ _ _ (by simp)
    have k3 : ∀ (o1 o2 o3 : Obj), TermAt ((((w.alloc o1).alloc o2).alloc o3).alloc (.cells #[.int .i64 p.1, .int .i64 p.2.1, .string p.2.2, .slice none 0 0] 24)) (w.heap.size + 3) p none 0 0 := fun o1 o2 o3 => by
      have := TermAt.new (((w.alloc o1).alloc o2).alloc o3) p none 0 0 24
      rw [World.size_alloc, World.size_alloc, World.size_alloc] at this
      exact this
    have k4 : ∀ (o1 o2 o3 : Obj) cs, SoftAt ((((w.alloc o1).alloc o2).alloc o3).alloc (.cells cs 24)) (w.heap.size + 3) := fun o1 o2 o3 cs => by
      have := SoftAt.new (((w.alloc o1).alloc o2).alloc o3) cs 24
      rw [World.size_alloc, World.size_alloc, World.size_alloc] at this
      exact this
    have k5 : ∀ (o1 : Obj), TermAt ((w.alloc o1).alloc (.cells #[.int .i64 pb.1, .int .i64 pb.2.1, .string pb.2.2, .slice Ab nb cb] 24)) (w.heap.size + 1) pb Ab nb cb := fun o1 => by
      have := TermAt.new (w.alloc o1) pb Ab nb cb 24
      rw [World.size_alloc] at this
      exact this
    exact ⟨0, [], .nil, none, 0, Nat.zero_le _, rfl, by rw [Tm.drop_zero]; rfl, RowSt.start _ _ (by simp), (TermAt.new w p A n c 24).same (k1 _ _ _ _), (ResAt.new ((w.alloc _).alloc _) 24 _ (by simp)).same (k2' _ _ _ _), k3 _ _ _, k4 _ _ _ _, k0 _ _ _ _, (k5 _).same (k2 _ _ _ _)⟩
  case round =>
    obtain ⟨k, vs, acc, Ac, cc, hk, rfl, hacc, hrow, hta, hres, htc, hsc, hbl, hby⟩ := hrel
    have x3 := hta.args
    have c3 := htc.args
    have f3 := hsc.s3
    have hwr : w.heap.size + 3 < wr.heap.size := hrow.size
    have HACC := Lib.hid hacc
    have HROW := Lib.hid hrow
    have HT := Lib.hid hta
    have HR := Lib.hid hres
    have HTC := Lib.hid htc
    have HSC := Lib.hid hsc
    have HB := Lib.hid hbl
    have b0 := hby.kind
    have b1 := hby.num
    have b2 := hby.name
    have b3 := hby.args
    have HBY := Lib.hid hby
    clear hby
    clear hacc hrow hta hres htc hsc hbl
    by_cases hlt : k < n
    · obtain ⟨b, o, p1, l1, r1, A1, c1, rfl, hbB, hd, hnode⟩ := HA.out.at hlt
      have hbw : b < w.heap.size := Nat.lt_of_lt_of_le hbB hBw
      have y0 := (HB.out.cell (p := ⟨b, o + k * 4, none⟩) hbw).trans hnode.kind
      have y1 := (HB.out.cell (p := ⟨b, o + k * 4 + 1, none⟩) hbw).trans hnode.num
      have y2 := (HB.out.cell (p := ⟨b, o + k * 4 + 2, none⟩) hbw).trans hnode.name
      have y3 := (HB.out.cell (p := ⟨b, o + k * 4 + 3, none⟩) hbw).trans hnode.args
      have HD := Lib.hid hd
      have HI := Lib.hid (hnode.inn.below HB.out hBw)
      have hs1 : Tm.size l1 < m := by have e := HD.out; have := Tm.size_drop_le l k; rw [e] at this; simp only [Tm.size] at this; have := HM.out; omega
      have hg1 : Tm.goodB p1 l1 = true := by have e := Tm.allB_drop HALL.out k; rw [HD.out, Tm.allB_cons, Bool.and_eq_true] at e; exact e.1
      have hsz := HB.out.size
      have hne : ¬ w.heap.size + 1 + 1 + 1 = b := by omega
      have hne' : ¬ w.heap.size + 1 + 1 + 1 = w.heap.size := by omega
      have C1 := Lib.hid fun (w2 : World) (h2 : ArgsB w2 B A1 (Tm.len l1) l1) (h3 : B ≤ w2.heap.size) (h5 : ArgsB w2 B Ab nb lb) => (by have := IH.out p1 l1 A1 c1 B w2 hs1 (by omega) hg1 h2 h3 (by rw [← HNB.out]; exact h5); rw [← HNB.out] at this; exact this)
      obtain ⟨t, ht⟩ : ∃ t, t = Tm.rebT (Tm.putF x (pb, lb)) () p1 l1 := ⟨_, rfl⟩
      rw [← ht] at C1
      obtain ⟨s2, p2, l2⟩ := t
      obtain ⟨n1, hn1⟩ : ∃ n1, n1 = Tm.len l1 := ⟨_, rfl⟩
      rw [← hn1] at C1 HI y3
      obtain ⟨n2, hn2⟩ : ∃ n2, n2 = Tm.len l2 := ⟨_, rfl⟩
      rw [← hn2] at C1
      have hstep : (Tm.reb (Tm.putF x (pb, lb)) () l).2 = Tm.app (Tm.app acc (.node p2 l2 .nil)) (Tm.reb (Tm.putF x (pb, lb)) () (Tm.dropF l (k + 1))).2 := by
        rw [HACC.out, Tm.drop_succ HD.out, HD.out, Tm.reb_cons, ← ht, Tm.app_assoc]; rfl
      have HN2 := Lib.hid hn2
      have HSTEP := Lib.hid hstep
      clear hs1 hg1 hn1 hn2 hd hnode ht hstep
      go_wp2_with fail
      go_region_law
        (first
          | (refine step_append_lies _ rfl (.tmp 35) (.tmp 44) 22 rfl (w.heap.size + 3 + 1) 24 i0 (tv zp none 0 0) 4 56 Try.underlying22 hi0 hz0 hz1 hz2 rfl (by decide) (.slice Ac k cc) k (tcells vs) (by simp [Act.eval, Act.put]) HRA.out.own ⟨w1.heap.size, 0, none⟩ 1 1 [.int .i64 p2.1, .int .i64 p2.2.1, .string p2.2.2, .slice A2 n2 c2] (by simp [Act.eval, Act.put]) rfl (news_four w1 p2 A2 n2 c2 _) (one_four p2 A2 n2 c2) (by decide) (by simp [maxLen]; omega) (by omega) (by simp; omega) _ rfl ?_
             intro g cap w2 hown2 hgrow hat hlt2
             have hb6 : Below (w.heap.size + 3 + 1) wr w2 := ((HB2.out.mono (by omega)).alloc (by omega) _).grown hgrow (by simp; omega) (fun j e => (HRA.out.own.lt j e).1)
             have v3 := (hb6.cell (p := ⟨w.heap.size + 1 + 1 + 1, 3, none⟩) (by show w.heap.size + 1 + 1 + 1 < _; omega)).trans c3
             have v4 := (hb6.cell (p := ⟨w.heap.size, 3, none⟩) (by show w.heap.size < _; omega)).trans x3
             have v5 := (hb6.cell (p := ⟨b, o + k * 4, none⟩) (by show b < _; omega)).trans y0
             have v6 := (hb6.cell (p := ⟨b, o + k * 4 + 1, none⟩) (by show b < _; omega)).trans y1
             have v7 := (hb6.cell (p := ⟨b, o + k * 4 + 2, none⟩) (by show b < _; omega)).trans y2
             have v8 := (hb6.cell (p := ⟨b, o + k * 4 + 3, none⟩) (by show b < _; omega)).trans y3
             have v9 : w2.frozen? ⟨w.heap.size + 1 + 1 + 1, 3, none⟩ = false := (HSC.out.same (hb6.block (w.heap.size + 3) (by omega))).s3
             have HO2 := Lib.hid hown2
             have HG := Lib.hid hgrow
             have HAT := Lib.hid hat
             have HB6 := Lib.hid hb6
             clear hown2 hgrow hat hb6)
          | (go_simp
             go_at_call 57
             refine (C1.out _ (by exact HI.out.keep (fun _ _ => rfl)) (by show B ≤ wr.heap.size; omega) (by exact (HBA.out.below HB.out hBw).keep (fun _ _ => rfl))).mono ?_
             rintro e w1 ⟨A2, c2, rfl, ha2, hb2⟩
             have hb3 : Below wr.heap.size wr w1 := (Below.refl wr.heap.size wr).drew.trans hb2
             have HA2 := Lib.hid ha2
             have HB2 := Lib.hid hb3
             have v3 := (hb3.cell (p := ⟨w.heap.size + 1 + 1 + 1, 3, none⟩) hwr).trans c3
             have v4 := (hb3.cell (p := ⟨w.heap.size, 3, none⟩) (by show w.heap.size < _; omega)).trans x3
             have v5 := (hb3.cell (p := ⟨b, o + k * 4, none⟩) (by show b < _; omega)).trans y0
             have v6 := (hb3.cell (p := ⟨b, o + k * 4 + 1, none⟩) (by show b < _; omega)).trans y1
             have v7 := (hb3.cell (p := ⟨b, o + k * 4 + 2, none⟩) (by show b < _; omega)).trans y2
             have v8 := (hb3.cell (p := ⟨b, o + k * 4 + 3, none⟩) (by show b < _; omega)).trans y3
             have hw1 := hb3.size
             have hlw1 : w.heap.size + 1 + 1 + 1 < w1.heap.size := by omega
             have HRA := Lib.hid ((HROW.out.below hb3).below ((Below.refl w1.heap.size w1).alloc (Nat.le_refl _) (.cells #[.int .i64 p2.1, .int .i64 p2.2.1, .string p2.2.2, .slice A2 n2 c2] 24)))
             clear ha2 hb2 hb3))
      all_goals go_wp2_with fail
      all_goals
        have hwrs := HB2.out.size
        have hpush := RowSt.push (N := wr.heap.size) HRA.out HN2.out (fun b' hb' => (HROW.out.own.lt b' hb').2) hwr ((HA2.out.keep (fun b' hb' => Below.heap_alloc w1 _ b' hb'.2)).mono (fun b' hb' => ⟨hb'.1, by rw [World.size_alloc]; exact Nat.lt_succ_of_lt hb'.2⟩)) HO2.out HG.out HAT.out
        have hk1 := setCell_block w2 (w.heap.size + 3) 3 (.slice (some ⟨g, 0, none⟩) (k + 1) cap)
        have hk2 := setCell_size w2 ⟨w.heap.size + 3, 3, none⟩ (.slice (some ⟨g, 0, none⟩) (k + 1) cap)
        have e0 := (hk1 w.heap.size (by omega)).trans (HB6.out.block w.heap.size (by omega))
        have e1 := (hk1 (w.heap.size + 2) (by omega)).trans (HB6.out.block (w.heap.size + 2) (by omega))
        have htc2 := (HTC.out.same (HB6.out.block (w.heap.size + 3) (by omega))).setArgs (some ⟨g, 0, none⟩) (k + 1) cap
        have hsc2 := (HSC.out.same (HB6.out.block (w.heap.size + 3) (by omega))).setAny ⟨w.heap.size + 3, 3, none⟩ (.slice (some ⟨g, 0, none⟩) (k + 1) cap)
        have hbw2 : Below w.heap.size w (w2.setCell ⟨w.heap.size + 3, 3, none⟩ (.slice (some ⟨g, 0, none⟩) (k + 1) cap)) := (HB.out.trans (HB6.out.mono (by omega))).setCell (p := ⟨w.heap.size + 3, 3, none⟩) (by show w.heap.size ≤ w.heap.size + 3; omega) _
        exact ⟨⟨k + 1, vs ++ [tv p2 A2 n2 c2], Tm.app acc (.node p2 l2 .nil), some ⟨g, 0, none⟩, cap, by omega, by go_num, HSTEP.out, hpush.keep (Nat.le_of_eq hk2.symm) (fun b' _ hb' => hk1 b' (by omega)), HT.out.same e0, HR.out.same e1, htc2, hsc2, hbw2, HBY.out.same ((hk1 (w.heap.size + 1) (by omega)).trans (HB6.out.block (w.heap.size + 1) (by omega)))⟩, by simp [intOf]; omega⟩
    · obtain rfl : k = n := by omega
      have z0 := HTC.out.kind
      have z1 := HTC.out.num
      have z2 := HTC.out.name
      have r0 := HR.out.t.kind
      have r1 := HR.out.t.num
      have r2 := HR.out.t.name
      have r3 := HR.out.t.args
      have q0 := HR.out.s.s0
      have q1 := HR.out.s.s1
      have q2 := HR.out.s.s2
      have q3 := HR.out.s.s3
      have hle : w.heap.size + 2 < wr.heap.size := by omega
      go_wp2_with fail
      have st := stored wr (w.heap.size + 2) p zp Ac none k cc 0 0 HR.out.t HR.out.s
      have harg := (HROW.out.args (by omega)).keep (w' := set4 wr (w.heap.size + 2) 0 p Ac k cc) (fun b' hb' => st.block b' (by omega))
      have hreb : (Tm.reb (Tm.putF x (pb, lb)) () l).2 = acc := by rw [HACC.out, show k = Tm.len l from HN.out, Tm.drop_end]; exact Tm.app_nil acc
      show bodyPost _ _ _ _ _ (set4 wr (w.heap.size + 2) 0 p Ac k cc)
      generalize set4 wr (w.heap.size + 2) 0 p Ac k cc = w2 at st harg ⊢
      refine bodyPost_ret (term_result (q := 6) rfl _ _ (w.heap.size + 2) p Ac k cc rfl st.term) rfl ?_
      rw [hreb]
      exact ⟨Ac, ⟨cc, rfl⟩, harg.mono (fun b' hb' => ⟨by omega, by rw [st.size]; exact hb'.2⟩), st.below _ _ HB.out (by omega)⟩

set_option maxHeartbeats 1000000 in
theorem rput_var (x : Int) (pb : Pay) (lb : Fo) (Ab : Option Addr) (cb : Nat) (v : Int) (c : Nat) (A : Option Addr) (w : World) (hx : ¬ v = x) :
    Calls Try.prog 57 #[tv (0, v, ByteArray.empty) A 0 c, .int .i64 x, tv pb Ab (Tm.len lb) cb] w fun e w' => e = .returned (tv (0, v, ByteArray.empty) none 0 0) ∧ Below w.heap.size w w' := by
  have hb : (v == x) = false := by simpa using hx
  go_enter Try.func57, Try.ntmps57
  go_wp2_with fail
  refine wp_loop_rounds 1 ?_
  rw [rounds_succ]
  go_wp2_with fail
  have k0 : ∀ o1 o2 o3 o4 : Obj, Below w.heap.size w ((((w.alloc o1).alloc o2).alloc o3).alloc o4) := fun o1 o2 o3 o4 => Only.below (X := fun _ => False) (((((Only.refl _ w).alloc _).alloc _).alloc _).alloc _) (Nat.le_refl _) (fun _ h => h.elim)
  have k1 : ∀ o1 o2 o4 : Obj, TermAt ((((w.alloc o1).alloc o2).alloc (.cells #[.int .i64 (0, v, ByteArray.empty).1, .int .i64 (0, v, ByteArray.empty).2.1, .string (0, v, ByteArray.empty).2.2, .slice none 0 0] 24)).alloc o4) (w.heap.size + 2) (0, v, ByteArray.empty) none 0 0 := fun o1 o2 o4 => by
    have := TermAt.new ((w.alloc o1).alloc o2) (0, v, ByteArray.empty) none 0 0 24
    rw [World.size_alloc, World.size_alloc] at this
    exact this.same (Below.heap_alloc _ _ _ (by simp))
  refine bodyPost_ret (term_result (q := 6) rfl _ _ (w.heap.size + 2) (0, v, ByteArray.empty) none 0 0 rfl (k1 _ _ _)) rfl ?_
  exact ⟨rfl, k0 _ _ _ _⟩

set_option maxHeartbeats 1000000 in
theorem rput_hit (x : Int) (pb : Pay) (lb : Fo) (Ab : Option Addr) (cb c B : Nat) (A : Option Addr) (w : World) (hvb : Tm.validB pb lb = true) (hb : ArgsB w B Ab (Tm.len lb) lb) (hB : B ≤ w.heap.size) :
    Calls Try.prog 57 #[tv (0, x, ByteArray.empty) A 0 c, .int .i64 x, tv pb Ab (Tm.len lb) cb] w fun e w' =>
      ∃ A' c', e = .returned (tv pb A' (Tm.len lb) c') ∧ ArgsIn (fun b => w.heap.size ≤ b ∧ b < w'.heap.size) w' A' (Tm.len lb) lb ∧ Below w.heap.size w w' := by
  have C1 := Lib.hid fun (w2 : World) (h2 : ArgsB w2 B Ab (Tm.len lb) lb) (h4 : B ≤ w2.heap.size) => rcopied_any pb lb Ab cb B w2 hvb h2 h4
  have k0 : ∀ o1 o2 o3 : Obj, Below w.heap.size w (((w.alloc o1).alloc o2).alloc o3) := fun o1 o2 o3 => Only.below (X := fun _ => False) ((((Only.refl _ w).alloc _).alloc _).alloc _) (Nat.le_refl _) (fun _ h => h.elim)
  have K0 := Lib.hid k0
  obtain ⟨nb, hnb⟩ : ∃ nb, nb = Tm.len lb := ⟨_, rfl⟩
  rw [← hnb] at hb C1 ⊢
  have HBY := Lib.hid hb
  clear hb hnb hvb k0
  go_enter Try.func57, Try.ntmps57
  go_wp2_with fail
  refine (C1.out _ ?_ ?_).mono ?_
  · exact HBY.out.below (K0.out _ _ _) hB
  · simp; omega
  rintro e w1 ⟨A1, c1, rfl, ha1, hb1⟩
  have hsz := hb1.size
  simp at hsz
  have hr : ResAt w1 (w.heap.size + 2) := (ResAt.new ((w.alloc _).alloc _) 24 _ (by simp)).below hb1 (by simp)
  have hw1 : w.heap.size + 2 < w1.heap.size := by omega
  have hw2 : w.heap.size + 1 + 1 < w1.heap.size := hw1
  have r0 := hr.t.kind
  have r1 := hr.t.num
  have r2 := hr.t.name
  have r3 := hr.t.args
  have q0 := hr.s.s0
  have q1 := hr.s.s1
  have q2 := hr.s.s2
  have q3 := hr.s.s3
  have HA1 := Lib.hid ha1
  have HB1 := Lib.hid ((K0.out _ _ _).trans (hb1.mono (by simp; omega)) : Below w.heap.size w w1)
  have HR := Lib.hid hr
  clear ha1 hb1 hr
  go_wp2_with fail
  have st := stored w1 (w.heap.size + 2) pb zp A1 none nb c1 0 0 HR.out.t HR.out.s
  show bodyPost _ _ _ _ _ (set4 w1 (w.heap.size + 2) 0 pb A1 nb c1)
  have harg := HA1.out.keep (w' := set4 w1 (w.heap.size + 2) 0 pb A1 nb c1) (fun b' hb' => st.block b' (by have := hb'.1; simp at this; omega))
  generalize set4 w1 (w.heap.size + 2) 0 pb A1 nb c1 = w2 at st harg ⊢
  refine bodyPost_ret (term_result (q := 6) rfl _ _ (w.heap.size + 2) pb A1 nb c1 rfl st.term) rfl ?_
  exact ⟨A1, c1, rfl, harg.mono (fun b' hb' => ⟨by have := hb'.1; simp at this; omega, by rw [st.size]; exact hb'.2⟩), st.below _ _ HB1.out (by omega)⟩

theorem rput_up (x : Int) (pb : Pay) (lb : Fo) (Ab : Option Addr) (cb : Nat) (hvb : Tm.validB pb lb = true) (m : Nat) : RPuts x pb lb Ab cb m := by
  induction m with
  | zero => intro p l A c B w hm; omega
  | succ m ih =>
    intro p l A c B w hm hm3 hg hA hBw hb
    have hg' := hg
    unfold Tm.goodB at hg'
    rw [Bool.and_eq_true] at hg'
    by_cases h0 : p.1 = 0
    · obtain ⟨k, v, nm⟩ := p
      have h0' : k = 0 := h0
      subst h0'
      obtain ⟨_, _, rfl, h4⟩ := nodeB_var hg'.1
      obtain rfl := Tm.len_zero h4
      unfold Tm.rebT Tm.putF
      rw [if_pos rfl]
      by_cases hx : v = x
      · subst hx
        simp only [if_true]
        exact rput_hit v pb lb Ab cb c B A w hvb hb hBw
      · simp only [if_neg hx]
        exact (rput_var x pb lb Ab cb v c A w hx).mono fun e w' ⟨he, hb⟩ => ⟨none, 0, he, ArgsIn.nil _ _ _, hb⟩
    · have := rput_struct x pb lb Ab cb m ih p l A c B w h0 (by omega) (by omega) hg'.2 hA hBw hb
      unfold Tm.rebT
      rw [if_neg h0]
      exact this
/-- The reference's put of a valid term. -/
theorem rput_any (x : Int) (pb : Pay) (lb : Fo) (Ab : Option Addr) (cb : Nat) (hvb : Tm.validB pb lb = true) (p : Pay) (l : Fo) (A : Option Addr) (c B : Nat) (w : World) (hv : Tm.validB p l = true) (hA : ArgsB w B A (Tm.len l) l) (hb : ArgsB w B Ab (Tm.len lb) lb) (hBw : B ≤ w.heap.size) :
    Calls Try.prog 57 #[tv p A (Tm.len l) c, .int .i64 x, tv pb Ab (Tm.len lb) cb] w (Makes (Tm.rebT (Tm.putF x (pb, lb)) () p l).2.1 (Tm.rebT (Tm.putF x (pb, lb)) () p l).2.2 w) := by
  unfold Tm.validB at hv
  rw [Bool.and_eq_true, decide_eq_true_eq] at hv
  exact (rput_up x pb lb Ab cb hvb (Tm.size l + 1) p l A c B w (by omega) (by omega) hv.2 hA hBw hb).mono fun e w' ⟨A', c', he, ha, hb⟩ => ⟨A', c', he, ha, hb⟩
end Go.Proofs.Ytmljkhofahgelaa
