/-
  The reference's copied.
-/
import Derived.Test.YtapcnehpechkpaaRow
namespace Go.Proofs.Ytapcnehpechkpaa
set_option linter.unusedVariables false
set_option linter.unusedSimpArgs false
set_option maxRecDepth 100000
open Go.RowKit

/-- What the recursion hands on. -/
def RCopies (m : Nat) : Prop := ∀ (p : Pay) (l : Fo) (A : Option Addr) (c B : Nat) (w : World), Tm.size l < m → m ≤ 3000 → Tm.goodB p l = true → ArgsB w B A (Tm.len l) l → B ≤ w.heap.size →
    Calls Try.prog 79 #[tv p A (Tm.len l) c] w fun e w' =>
      ∃ A' c', e = .returned (tv (Tm.rebT keepF () p l).2.1 A' (Tm.len (Tm.rebT keepF () p l).2.2) c') ∧ ArgsIn (fun b => w.heap.size ≤ b ∧ b < w'.heap.size) w' A' (Tm.len (Tm.rebT keepF () p l).2.2) (Tm.rebT keepF () p l).2.2 ∧ Below w.heap.size w w'

set_option maxHeartbeats 4000000 in
theorem rcopied_struct  (m : Nat) (ih : RCopies m) (p : Pay) (l : Fo) (A : Option Addr) (c B : Nat) (w : World) (hk : ¬ p.1 = 0) (hm : Tm.size l ≤ m) (hm3 : m ≤ 3000) (hall : Tm.allB l = true) (hA : ArgsB w B A (Tm.len l) l) (hBw : B ≤ w.heap.size) :
    Calls Try.prog 79 #[tv p A (Tm.len l) c] w fun e w' =>
      ∃ A' c', e = .returned (tv p A' (Tm.len (Tm.reb keepF () l).2) c') ∧ ArgsIn (fun b => w.heap.size ≤ b ∧ b < w'.heap.size) w' A' (Tm.len (Tm.reb keepF () l).2) (Tm.reb keepF () l).2 ∧ Below w.heap.size w w' := by
  obtain ⟨n, hn⟩ : ∃ n, n = Tm.len l := ⟨_, rfl⟩
  have hlr : Tm.len (Tm.reb keepF () l).2 = n := by rw [Tm.reb_len, hn]
  rw [hlr]
  rw [← hn] at hA ⊢
  have hnn : n ≤ 9223372036854775807 := hA.hi
  have hn3 : n ≤ 3000 := by have := Tm.len_le_size l; omega
  have HN := Lib.hid hn
  have HA := Lib.hid hA
  have HM := Lib.hid hm
  have IH := Lib.hid ih
  have HALL := Lib.hid hall
  have hkb : (p.1 == 0) = false := by simpa using hk
  obtain ⟨i0, hi0, hz0, hz1, hz2⟩ := term_parts
  clear hn hA ih hm hall hlr
  go_enter Try.func79, Try.ntmps79
  go_wp2_with fail
  go_loopw [4] (fun u wr => ∃ (k : Nat) (vs : List Value) (acc : Fo) (Ac : Option Addr) (cc : Nat), k ≤ n ∧ u = .int .i64 k ∧ (Tm.reb keepF () l).2 = Tm.app acc (Tm.reb keepF () (Tm.dropF l k)).2 ∧ RowSt (w.heap.size + 2) wr vs acc Ac k cc ∧
    TermAt wr w.heap.size p A n c ∧ ResAt wr (w.heap.size + 1) ∧ TermAt wr (w.heap.size + 2) p Ac k cc ∧ SoftAt wr (w.heap.size + 2) ∧ Below w.heap.size w wr) (fun u _ => n - (intOf u).toNat)
  case atStart =>
    have k0 : ∀ o1 o2 o3 : Obj, Below w.heap.size w (((w.alloc o1).alloc o2).alloc o3) := fun o1 o2 o3 => Only.below (X := fun _ => False) ((((Only.refl _ w).alloc _).alloc _).alloc _) (Nat.le_refl _) (fun _ h => h.elim)
    have k1 : ∀ o1 o2 o3 : Obj, (((w.alloc o1).alloc o2).alloc o3).heap[w.heap.size]? = (w.alloc o1).heap[w.heap.size]? := fun o1 o2 o3 => (Below.heap_alloc _ _ _ (by simp; omega)).trans (Below.heap_alloc _ _ _ (by simp))
    have k2 : ∀ o1 o2 o3 : Obj, (((w.alloc o1).alloc o2).alloc o3).heap[w.heap.size + 1]? = ((w.alloc o1).alloc o2).heap[w.heap.size + 1]? := fun o1 o2 o3 => Below.heap_alloc _ _ _ (by simp)
    have k3 : ∀ (o1 o2 : Obj), TermAt (((w.alloc o1).alloc o2).alloc (.cells #[.int .i64 p.1, .int .i64 p.2.1, .string p.2.2, .slice none 0 0] 24)) (w.heap.size + 2) p none 0 0 := fun o1 o2 => by
      have := TermAt.new ((w.alloc o1).alloc o2) p none 0 0 24
      rw [World.size_alloc, World.size_alloc] at this
      exact this
    have k4 : ∀ (o1 o2 : Obj) cs, SoftAt (((w.alloc o1).alloc o2).alloc (.cells cs 24)) (w.heap.size + 2) := fun o1 o2 cs => by
      have := SoftAt.new ((w.alloc o1).alloc o2) cs 24
      rw [World.size_alloc, World.size_alloc] at this
      exact this
    exact ⟨0, [], .nil, none, 0, Nat.zero_le _, rfl, by rw [Tm.drop_zero]; rfl, RowSt.start _ _ (by simp), (TermAt.new w p A n c 24).same (k1 _ _ _), (ResAt.new (w.alloc _) 24 _ (by simp)).same (k2 _ _ _), k3 _ _, k4 _ _ _, k0 _ _ _⟩
  case round =>
    obtain ⟨k, vs, acc, Ac, cc, hk, rfl, hacc, hrow, hta, hres, htc, hsc, hbl⟩ := hrel
    have x3 := hta.args
    have c3 := htc.args
    have f3 := hsc.s3
    have hwr : w.heap.size + 2 < wr.heap.size := hrow.size
    have HACC := Lib.hid hacc
    have HROW := Lib.hid hrow
    have HT := Lib.hid hta
    have HR := Lib.hid hres
    have HTC := Lib.hid htc
    have HSC := Lib.hid hsc
    have HB := Lib.hid hbl
    clear hacc hrow hta hres htc hsc hbl
    by_cases hlt : k < n
    · obtain ⟨b, o, p1, l1, r1, A1, c1, rfl, hbB, hd, hnode⟩ := HA.out.at hlt
      have hbw : b < w.heap.size := Nat.lt_of_lt_of_le hbB hBw
      have y0 := (HB.out.cell (p := ⟨b, o + k * 4, none⟩) hbw).trans hnode.kind
      have y1 := (HB.out.cell (p := ⟨b, o + k * 4 + 1, none⟩) hbw).trans hnode.num
      have y2 := (HB.out.cell (p := ⟨b, o + k * 4 + 2, none⟩) hbw).trans hnode.name
      have y3 := (HB.out.cell (p := ⟨b, o + k * 4 + 3, none⟩) hbw).trans hnode.args
      have HD := Lib.hid hd
      have HI := Lib.hid (hnode.inn.below HB.out hBw)
      have hs1 : Tm.size l1 < m := by have e := HD.out; have := Tm.size_drop_le l k; rw [e] at this; simp only [Tm.size] at this; have := HM.out; omega
      have hg1 : Tm.goodB p1 l1 = true := by have e := Tm.allB_drop HALL.out k; rw [HD.out, Tm.allB_cons, Bool.and_eq_true] at e; exact e.1
      have hsz := HB.out.size
      have hne : ¬ w.heap.size + 1 + 1 = b := by omega
      have hne' : ¬ w.heap.size + 1 + 1 = w.heap.size := by omega
      have C1 := Lib.hid fun (w2 : World) (h2 : ArgsB w2 B A1 (Tm.len l1) l1) (h3 : B ≤ w2.heap.size) => IH.out p1 l1 A1 c1 B w2 hs1 (by omega) hg1 h2 h3
      obtain ⟨t, ht⟩ : ∃ t, t = Tm.rebT keepF () p1 l1 := ⟨_, rfl⟩
      rw [← ht] at C1
      obtain ⟨s2, p2, l2⟩ := t
      obtain ⟨n1, hn1⟩ : ∃ n1, n1 = Tm.len l1 := ⟨_, rfl⟩
      rw [← hn1] at C1 HI y3
      obtain ⟨n2, hn2⟩ : ∃ n2, n2 = Tm.len l2 := ⟨_, rfl⟩
      rw [← hn2] at C1
      have hstep : (Tm.reb keepF () l).2 = Tm.app (Tm.app acc (.node p2 l2 .nil)) (Tm.reb keepF () (Tm.dropF l (k + 1))).2 := by
        rw [HACC.out, Tm.drop_succ HD.out, HD.out, Tm.reb_cons, ← ht, Tm.app_assoc]; rfl
      have HN2 := Lib.hid hn2
      have HSTEP := Lib.hid hstep
      clear hs1 hg1 hn1 hn2 hd hnode ht hstep
      go_wp2_with fail
      go_region_law
        (first
          | (refine step_append_lies _ rfl (.tmp 20) (.tmp 27) 22 rfl (w.heap.size + 2 + 1) 24 i0 (tv zp none 0 0) 4 56 Try.underlying22 hi0 hz0 hz1 hz2 rfl (by decide) (.slice Ac k cc) k (tcells vs) (by simp [Act.eval, Act.put]) HRA.out.own ⟨w1.heap.size, 0, none⟩ 1 1 [.int .i64 p2.1, .int .i64 p2.2.1, .string p2.2.2, .slice A2 n2 c2] (by simp [Act.eval, Act.put]) rfl (news_four w1 p2 A2 n2 c2 _) (one_four p2 A2 n2 c2) (by decide) (by simp [maxLen]; omega) (by omega) (by simp; omega) _ rfl ?_
             intro g cap w2 hown2 hgrow hat hlt2
             have hb6 : Below (w.heap.size + 2 + 1) wr w2 := ((HB2.out.mono (by omega)).alloc (by omega) _).grown hgrow (by simp; omega) (fun j e => (HRA.out.own.lt j e).1)
             have v3 := (hb6.cell (p := ⟨w.heap.size + 1 + 1, 3, none⟩) (by show w.heap.size + 1 + 1 < _; omega)).trans c3
             have v4 := (hb6.cell (p := ⟨w.heap.size, 3, none⟩) (by show w.heap.size < _; omega)).trans x3
             have v5 := (hb6.cell (p := ⟨b, o + k * 4, none⟩) (by show b < _; omega)).trans y0
             have v6 := (hb6.cell (p := ⟨b, o + k * 4 + 1, none⟩) (by show b < _; omega)).trans y1
             have v7 := (hb6.cell (p := ⟨b, o + k * 4 + 2, none⟩) (by show b < _; omega)).trans y2
             have v8 := (hb6.cell (p := ⟨b, o + k * 4 + 3, none⟩) (by show b < _; omega)).trans y3
             have v9 : w2.frozen? ⟨w.heap.size + 1 + 1, 3, none⟩ = false := (HSC.out.same (hb6.block (w.heap.size + 2) (by omega))).s3
             have HO2 := Lib.hid hown2
             have HG := Lib.hid hgrow
             have HAT := Lib.hid hat
             have HB6 := Lib.hid hb6
             clear hown2 hgrow hat hb6)
          | (go_simp
             go_at_call 79
             refine (C1.out _ (by exact HI.out.keep (fun _ _ => rfl)) (by show B ≤ wr.heap.size; omega)).mono ?_
             rintro e w1 ⟨A2, c2, rfl, ha2, hb2⟩
             have hb3 : Below wr.heap.size wr w1 := (Below.refl wr.heap.size wr).drew.trans hb2
             have HA2 := Lib.hid ha2
             have HB2 := Lib.hid hb3
             have v3 := (hb3.cell (p := ⟨w.heap.size + 1 + 1, 3, none⟩) hwr).trans c3
             have v4 := (hb3.cell (p := ⟨w.heap.size, 3, none⟩) (by show w.heap.size < _; omega)).trans x3
             have v5 := (hb3.cell (p := ⟨b, o + k * 4, none⟩) (by show b < _; omega)).trans y0
             have v6 := (hb3.cell (p := ⟨b, o + k * 4 + 1, none⟩) (by show b < _; omega)).trans y1
             have v7 := (hb3.cell (p := ⟨b, o + k * 4 + 2, none⟩) (by show b < _; omega)).trans y2
             have v8 := (hb3.cell (p := ⟨b, o + k * 4 + 3, none⟩) (by show b < _; omega)).trans y3
             have hw1 := hb3.size
             have hlw1 : w.heap.size + 1 + 1 < w1.heap.size := by omega
             have HRA := Lib.hid ((HROW.out.below hb3).below ((Below.refl w1.heap.size w1).alloc (Nat.le_refl _) (.cells #[.int .i64 p2.1, .int .i64 p2.2.1, .string p2.2.2, .slice A2 n2 c2] 24)))
             clear ha2 hb2 hb3))
      all_goals go_wp2_with fail
      all_goals
        have hwrs := HB2.out.size
        have hpush := RowSt.push (N := wr.heap.size) HRA.out HN2.out (fun b' hb' => (HROW.out.own.lt b' hb').2) hwr ((HA2.out.keep (fun b' hb' => Below.heap_alloc w1 _ b' hb'.2)).mono (fun b' hb' => ⟨hb'.1, by rw [World.size_alloc]; exact Nat.lt_succ_of_lt hb'.2⟩)) HO2.out HG.out HAT.out
        have hk1 := setCell_block w2 (w.heap.size + 2) 3 (.slice (some ⟨g, 0, none⟩) (k + 1) cap)
        have hk2 := setCell_size w2 ⟨w.heap.size + 2, 3, none⟩ (.slice (some ⟨g, 0, none⟩) (k + 1) cap)
        have e0 := (hk1 w.heap.size (by omega)).trans (HB6.out.block w.heap.size (by omega))
        have e1 := (hk1 (w.heap.size + 1) (by omega)).trans (HB6.out.block (w.heap.size + 1) (by omega))
        have htc2 := (HTC.out.same (HB6.out.block (w.heap.size + 2) (by omega))).setArgs (some ⟨g, 0, none⟩) (k + 1) cap
        have hsc2 := (HSC.out.same (HB6.out.block (w.heap.size + 2) (by omega))).setAny ⟨w.heap.size + 2, 3, none⟩ (.slice (some ⟨g, 0, none⟩) (k + 1) cap)
        have hbw2 : Below w.heap.size w (w2.setCell ⟨w.heap.size + 2, 3, none⟩ (.slice (some ⟨g, 0, none⟩) (k + 1) cap)) := (HB.out.trans (HB6.out.mono (by omega))).setCell (p := ⟨w.heap.size + 2, 3, none⟩) (by show w.heap.size ≤ w.heap.size + 2; omega) _
        exact ⟨⟨k + 1, vs ++ [tv p2 A2 n2 c2], Tm.app acc (.node p2 l2 .nil), some ⟨g, 0, none⟩, cap, by omega, by go_num, HSTEP.out, hpush.keep (Nat.le_of_eq hk2.symm) (fun b' _ hb' => hk1 b' (by omega)), HT.out.same e0, HR.out.same e1, htc2, hsc2, hbw2⟩, by simp [intOf]; omega⟩
    · obtain rfl : k = n := by omega
      have z0 := HTC.out.kind
      have z1 := HTC.out.num
      have z2 := HTC.out.name
      have r0 := HR.out.t.kind
      have r1 := HR.out.t.num
      have r2 := HR.out.t.name
      have r3 := HR.out.t.args
      have q0 := HR.out.s.s0
      have q1 := HR.out.s.s1
      have q2 := HR.out.s.s2
      have q3 := HR.out.s.s3
      have hle : w.heap.size + 1 < wr.heap.size := by omega
      go_wp2_with fail
      have st := stored wr (w.heap.size + 1) p zp Ac none k cc 0 0 HR.out.t HR.out.s
      have harg := (HROW.out.args (by omega)).keep (w' := set4 wr (w.heap.size + 1) 0 p Ac k cc) (fun b' hb' => st.block b' (by omega))
      have hreb : (Tm.reb keepF () l).2 = acc := by rw [HACC.out, show k = Tm.len l from HN.out, Tm.drop_end]; exact Tm.app_nil acc
      show bodyPost _ _ _ _ _ (set4 wr (w.heap.size + 1) 0 p Ac k cc)
      generalize set4 wr (w.heap.size + 1) 0 p Ac k cc = w2 at st harg ⊢
      refine bodyPost_ret (term_result (q := 2) rfl _ _ (w.heap.size + 1) p Ac k cc rfl st.term) rfl ?_
      rw [hreb]
      exact ⟨Ac, ⟨cc, rfl⟩, harg.mono (fun b' hb' => ⟨by omega, by rw [st.size]; exact hb'.2⟩), st.below _ _ HB.out (by omega)⟩

set_option maxHeartbeats 1000000 in
theorem rcopied_var  (v : Int) (c : Nat) (A : Option Addr) (w : World) :
    Calls Try.prog 79 #[tv (0, v, ByteArray.empty) A 0 c] w fun e w' => e = .returned (tv (0, v, ByteArray.empty) none 0 0) ∧ Below w.heap.size w w' := by
  go_enter Try.func79, Try.ntmps79
  go_wp2_with fail
  refine wp_loop_rounds 1 ?_
  rw [rounds_succ]
  go_wp2_with fail
  have k0 : ∀ o1 o2 o3 : Obj, Below w.heap.size w (((w.alloc o1).alloc o2).alloc o3) := fun o1 o2 o3 => Only.below (X := fun _ => False) ((((Only.refl _ w).alloc _).alloc _).alloc _) (Nat.le_refl _) (fun _ h => h.elim)
  have k1 : ∀ o1 o3 : Obj, TermAt (((w.alloc o1).alloc (.cells #[.int .i64 (0, v, ByteArray.empty).1, .int .i64 (0, v, ByteArray.empty).2.1, .string (0, v, ByteArray.empty).2.2, .slice none 0 0] 24)).alloc o3) (w.heap.size + 1) (0, v, ByteArray.empty) none 0 0 := fun o1 o3 => by
    have := TermAt.new (w.alloc o1) (0, v, ByteArray.empty) none 0 0 24
    rw [World.size_alloc] at this
    exact this.same (Below.heap_alloc _ _ _ (by simp))
  refine bodyPost_ret (term_result (q := 2) rfl _ _ (w.heap.size + 1) (0, v, ByteArray.empty) none 0 0 rfl (k1 _ _)) rfl ?_
  exact ⟨rfl, k0 _ _ _⟩

theorem rcopied_up (m : Nat) : RCopies m := by
  induction m with
  | zero => intro p l A c B w hm; omega
  | succ m ih =>
    intro p l A c B w hm hm3 hg hA hBw
    have hg' := hg
    unfold Tm.goodB at hg'
    rw [Bool.and_eq_true] at hg'
    by_cases h0 : p.1 = 0
    · obtain ⟨k, v, nm⟩ := p
      have h0' : k = 0 := h0
      subst h0'
      obtain ⟨_, _, rfl, h4⟩ := nodeB_var hg'.1
      obtain rfl := Tm.len_zero h4
      exact (rcopied_var v c A w).mono fun e w' ⟨he, hb⟩ => ⟨none, 0, he, ArgsIn.nil _ _ _, hb⟩
    · have := rcopied_struct m ih p l A c B w h0 (by omega) (by omega) hg'.2 hA hBw
      unfold Tm.rebT
      rw [if_neg h0]
      exact this

/-- The reference's copied, of a valid term: a copy in new memory. -/
theorem rcopied_any (p : Pay) (l : Fo) (A : Option Addr) (c B : Nat) (w : World) (hv : Tm.validB p l = true) (hA : ArgsB w B A (Tm.len l) l) (hBw : B ≤ w.heap.size) :
    Calls Try.prog 79 #[tv p A (Tm.len l) c] w fun e w' => ∃ A' c', e = .returned (tv p A' (Tm.len l) c') ∧ ArgsIn (fun b => w.heap.size ≤ b ∧ b < w'.heap.size) w' A' (Tm.len l) l ∧ Below w.heap.size w w' := by
  unfold Tm.validB at hv
  rw [Bool.and_eq_true, decide_eq_true_eq] at hv
  have h := rcopied_up (Tm.size l + 1) p l A c B w (by omega) (by omega) hv.2 hA hBw
  rw [rebT_keep p l hv.2] at h
  exact h
end Go.Proofs.Ytapcnehpechkpaa
