/-
  Copies whose blocks can all be written: package term's copied and Clone.
-/
import Derived.Test.YtapcnehpechkpaaMakers
namespace Go.Proofs.Ytapcnehpechkpaa
set_option linter.unusedVariables false
set_option linter.unusedSimpArgs false
set_option maxRecDepth 100000
open Go.RowKit
/-- A block that can be written. -/
def SoftB (w : World) (g : Nat) : Prop := ∀ o, w.frozen? ⟨g, o, none⟩ = false
theorem SoftB.same {w w' : World} {g : Nat} (h : SoftB w g) (hk : w'.heap[g]? = w.heap[g]?) : SoftB w' g := fun o => (frozen_of_block (p := ⟨g, o, none⟩) hk).trans (h o)
theorem SoftB.new (w : World) (cs : Array Value) (t : TypeId) : SoftB (w.alloc (.cells cs t)) w.heap.size := fun o => by unfold World.frozen?; rw [alloc_new]; rfl
theorem SoftB.set4 {w : World} {g b o : Nat} {p : Pay} {A : Option Addr} {m c : Nat} (h : SoftB w g) : SoftB (set4 w b o p A m c) g := fun x => by rw [set4_frozen]; exact h x
/-- The blocks from N on that are there and can be written. -/
def Nw (N : Nat) (w : World) (b : Nat) : Prop := N ≤ b ∧ b < w.heap.size ∧ SoftB w b
theorem Nw.keep {N N' : Nat} {w w' : World} {b : Nat} (h : Nw N w b) (hN : N' ≤ N) (hs : w.heap.size ≤ w'.heap.size) (hk : w'.heap[b]? = w.heap[b]?) : Nw N' w' b := ⟨Nat.le_trans hN h.1, Nat.lt_of_lt_of_le h.2.1 hs, h.2.2.same hk⟩
theorem Nw.args {N N' : Nat} {w w' : World} {A : Option Addr} {n : Nat} {F : Fo} (h : ArgsIn (Nw N w) w A n F) (hN : N' ≤ N) (hs : w.heap.size ≤ w'.heap.size) (hk : ∀ b, N ≤ b → b < w.heap.size → w'.heap[b]? = w.heap[b]?) : ArgsIn (Nw N' w') w' A n F := by
  refine (h.keep (w' := w') fun b hb => hk b hb.1 hb.2.1).mono fun b hb => hb.keep hN hs (hk b hb.1 hb.2.1)
theorem Nw.vals {N N' : Nat} {w w' : World} {vs : List Value} {F : Fo} (h : Vals (Nw N w) w vs F) (hN : N' ≤ N) (hs : w.heap.size ≤ w'.heap.size) (hk : ∀ b, N ≤ b → b < w.heap.size → w'.heap[b]? = w.heap[b]?) : Vals (Nw N' w') w' vs F := by
  refine (Vals.keep (w' := w') (fun b hb => hk b hb.1 hb.2.1) vs F h).mono' fun b hb => hb.keep hN hs (hk b hb.1 hb.2.1)
/-- A term that a function makes, in blocks that can be written. -/
def MakesS (p : Pay) (l : Fo) (w : World) (e : Ending) (w' : World) : Prop :=
  ∃ A c, e = .returned (tv p A (Tm.len l) c) ∧ ArgsIn (Nw w.heap.size w') w' A (Tm.len l) l ∧ Below w.heap.size w w'
/-- A new row of the terms F, in blocks that can be written. -/
def MadeRowS (F : Fo) (w : World) (e : Ending) (w' : World) : Prop :=
  ∃ A c, e = .returned (.slice A (Tm.len F) c) ∧ ArgsIn (Nw w.heap.size w') w' A (Tm.len F) F ∧ (0 < Tm.len F → ∃ g, A = some ⟨g, 0, none⟩ ∧ Nw w.heap.size w' g ∧ RowIn (fun b => Nw w.heap.size w' b ∧ b ≠ g) w' F g 0) ∧ Below w.heap.size w w'

def RebuildsS (m : Nat) : Prop :=
  ∀ (p : Pay) (l : Fo) (A : Option Addr) (c B : Nat) (w : World), Tm.size l < m → ArgsB w B A (Tm.len l) l → Tm.goodB p l = true → B ≤ w.heap.size →
    Calls Try.prog 94 #[tv p A (Tm.len l) c, .func (.func 95) #[] #[]] w (MakesS p l w)

set_option maxHeartbeats 4000000 in
theorem soft_struct (m : Nat) (ih : RebuildsS m)
    (nm : ByteArray) (l : Fo) (A : Option Addr) (c B : Nat) (w : World) (hm : Tm.size l ≤ m) (hA : ArgsB w B A (Tm.len l) l) (hall : Tm.allB l = true) (hlen : Tm.len l ≤ 8) (hB : B ≤ w.heap.size) :
    Calls Try.prog 94 #[tv (3, 0, nm) A (Tm.len l) c, .func (.func 95) #[] #[]] w (MakesS (3, 0, nm) l w) := by
  have IH := Lib.hid ih
  have HM := Lib.hid hm
  have HALL := Lib.hid hall
  obtain ⟨n, hn⟩ : ∃ n, n = Tm.len l := ⟨_, rfl⟩
  rw [← hn] at hA hlen ⊢
  have HA := Lib.hid hA
  have HN := Lib.hid hn
  have hmk := fun w => run_make_terms n hlen w
  clear ih hm hall hA hn
  unfold MakesS
  go_enter Try.func94, Try.ntmps94
  go_wp2_with fail
  go_loopw [25] (fun u wr => ∃ (k : Nat) (vs : List Value) (acc : Fo), k ≤ n ∧ u = .int .i64 k ∧ l = Tm.app acc (Tm.dropF l k) ∧ vs.length = k ∧
    Vals (Nw (w.heap.size + 3) wr) wr vs acc ∧ Filling wr (w.heap.size + 2) n vs ∧ SoftB wr (w.heap.size + 2) ∧ Below w.heap.size w wr ∧ w.heap.size + 2 < wr.heap.size ∧ TermAt wr w.heap.size (3, 0, nm) A n c ∧ TermAt wr (w.heap.size + 1) zp none 0 0 ∧ SoftAt wr (w.heap.size + 1)) (fun u _ => n - (intOf u).toNat)
  case atStart =>
    have k0 : ∀ o1 o2 o3 : Obj, Below w.heap.size w (((w.alloc o1).alloc o2).alloc o3) := fun o1 o2 o3 => Only.below (X := fun _ => False) ((((Only.refl _ w).alloc _).alloc _).alloc _) (Nat.le_refl _) (fun _ h => h.elim)
    have k1 : ∀ o1 o2 o3 : Obj, (((w.alloc o1).alloc o2).alloc o3).heap[w.heap.size]? = (w.alloc o1).heap[w.heap.size]? := fun o1 o2 o3 => (Below.heap_alloc _ _ _ (by simp; omega)).trans (Below.heap_alloc _ _ _ (by simp))
    have k2 : ∀ o1 o2 o3 : Obj, (((w.alloc o1).alloc o2).alloc o3).heap[w.heap.size + 1]? = ((w.alloc o1).alloc o2).heap[w.heap.size + 1]? := fun o1 o2 o3 => Below.heap_alloc _ _ _ (by simp)
    have k3 : ∀ (o1 o2 : Obj) z, Filling (((w.alloc o1).alloc o2).alloc (.cells (madeCells z (n * 4)) 24)) (w.heap.size + 2) n [] := fun o1 o2 z => by
      have := Filling.new ((w.alloc o1).alloc o2) n z
      rw [World.size_alloc, World.size_alloc] at this
      exact this
    have k6 : ∀ (o1 o2 : Obj) z, SoftB (((w.alloc o1).alloc o2).alloc (.cells z 24)) (w.heap.size + 2) := fun o1 o2 z => by
      have := SoftB.new ((w.alloc o1).alloc o2) z 24
      rw [World.size_alloc, World.size_alloc] at this
      exact this
    have k4 : ∀ o1 : Obj, TermAt ((w.alloc o1).alloc (.cells #[.int .i64 0, .int .i64 0, .string ⟨#[]⟩, .slice none 0 0] 24)) (w.heap.size + 1) zp none 0 0 := fun o1 => by
      have := TermAt.new (w.alloc o1) zp none 0 0 24
      rw [World.size_alloc] at this
      exact this
    have k5 : ∀ (o1 : Obj) cs, SoftAt ((w.alloc o1).alloc (.cells cs 24)) (w.heap.size + 1) := fun o1 cs => by
      have := SoftAt.new (w.alloc o1) cs 24
      rw [World.size_alloc] at this
      exact this
    refine ⟨0, [], .nil, Nat.zero_le _, rfl, by rw [Tm.drop_zero]; rfl, rfl, trivial, k3 _ _ _, k6 _ _ _, k0 _ _ _, by simp, (TermAt.new w (3, 0, nm) A n c 24).same (k1 _ _ _), (k4 _).same (k2 _ _ _), (k5 _ _).same (k2 _ _ _)⟩
  case round =>
    obtain ⟨k, vs, acc, hk, rfl, hacc, hvl, hvals, hfill, hsoft, hbl, hwr, hta, htr, hsr⟩ := hrel
    have HACC := Lib.hid hacc
    have HVL := Lib.hid hvl
    have HV := Lib.hid hvals
    have HF := Lib.hid hfill
    have HS := Lib.hid hsoft
    have HB := Lib.hid hbl
    have HT := Lib.hid hta
    have HTR := Lib.hid htr
    have HSR := Lib.hid hsr
    clear hacc hvl hvals hfill hsoft hbl hta htr hsr
    by_cases hlt : k < n
    · obtain ⟨b, o, p1, l1, r1, A1, c1, rfl, hbB, hd, hnode⟩ := HA.out.at hlt
      have hbw : b < w.heap.size := Nat.lt_of_lt_of_le hbB hB
      have y0 := (HB.out.cell (p := ⟨b, o + k * 4, none⟩) hbw).trans hnode.kind
      have y1 := (HB.out.cell (p := ⟨b, o + k * 4 + 1, none⟩) hbw).trans hnode.num
      have y2 := (HB.out.cell (p := ⟨b, o + k * 4 + 2, none⟩) hbw).trans hnode.name
      have y3 := (HB.out.cell (p := ⟨b, o + k * 4 + 3, none⟩) hbw).trans hnode.args
      have HD := Lib.hid hd
      have HII := Lib.hid (hnode.inn.below HB.out hB)
      clear hd hnode
      have hs1 : Tm.size l1 < m := by have e := HD.out; have := Tm.size_drop_le l k; rw [e] at this; simp only [Tm.size] at this; have := HM.out; omega
      have hg1 : Tm.goodB p1 l1 = true := by have e := Tm.allB_drop HALL.out k; rw [HD.out, Tm.allB_cons, Bool.and_eq_true] at e; exact e.1
      have C1 := Lib.hid fun (w2 : World) (h2 : ArgsB w2 B A1 (Tm.len l1) l1) (h4 : B ≤ w2.heap.size) => IH.out p1 l1 A1 c1 B w2 hs1 h2 hg1 h4
      unfold MakesS at C1
      obtain ⟨m1, hm1⟩ : ∃ m1, m1 = Tm.len l1 := ⟨_, rfl⟩
      rw [← hm1] at C1 HII y3
      have HM1 := Lib.hid hm1
      clear hs1 hg1 hm1
      have hws := HB.out.size
      go_wp2_with fail
      refine (C1.out _ ?_ ?_).mono ?_
      · exact HII.out.below ((Below.refl wr.heap.size wr).alloc (Nat.le_refl _) _) (by omega)
      · simp; omega
      rintro e w3 ⟨A2, c2, rfl, ha2, hb2⟩
      have hb3 : Below wr.heap.size wr w3 := ((Below.refl wr.heap.size wr).alloc (Nat.le_refl _) _).trans (hb2.mono (by simp))
      have hsz3 := hb3.size
      have hf3 : Filling w3 (w.heap.size + 2) n vs := HF.out.same (hb3.block _ hwr)
      have h4 := hf3.four hlt
      obtain ⟨u0, q0⟩ := Option.isSome_iff_exists.1 h4.c0
      obtain ⟨u1, q1⟩ := Option.isSome_iff_exists.1 h4.c1
      obtain ⟨u2, q2⟩ := Option.isSome_iff_exists.1 h4.c2
      obtain ⟨u3, q3⟩ := Option.isSome_iff_exists.1 h4.c3
      have z0 := hf3.soft (k * 4) (by omega)
      have z1 := hf3.soft (k * 4 + 1) (by omega)
      have z2 := hf3.soft (k * 4 + 2) (by omega)
      have z3 := hf3.soft (k * 4 + 3) (by omega)
      have HF3 := Lib.hid hf3
      have HA2 := Lib.hid ha2
      have HB3 := Lib.hid hb3
      have HS3 := Lib.hid (HS.out.same (hb3.block _ hwr))
      clear hf3 ha2 hb2 hb3 h4 y0 y1 y2 y3
      go_wp2_with fail
      have g2 := set4_size w3 (w.heap.size + 2) (k * 4) p1 A2 m1 c2
      have g3 := set4_block w3 (w.heap.size + 2) (k * 4) p1 A2 m1 c2
      have g5 := HF3.out.set hlt (by rw [Vals.tcells_len vs acc HV.out, HVL.out]) p1 A2 m1 c2
      have g6 : Vals (Nw (w.heap.size + 3) (set4 w3 (w.heap.size + 2) (k * 4) p1 A2 m1 c2)) (set4 w3 (w.heap.size + 2) (k * 4) p1 A2 m1 c2) (vs ++ [tv p1 A2 m1 c2]) (Tm.app acc (.node p1 l1 .nil)) := by
        have e := HM1.out
        subst e
        refine Vals.snoc ?_ vs acc ?_
        · exact Nw.args HA2.out (by simp; omega) (by rw [g2]; exact Nat.le_refl _) (fun b hb _ => g3 b (by simp at hb; omega))
        · exact Nw.vals HV.out (Nat.le_refl _) (by rw [g2]; exact hsz3) (fun b hb hb2 => (g3 b (by omega)).trans (HB3.out.block b hb2))
      have hst : l = Tm.app (Tm.app acc (.node p1 l1 .nil)) (Tm.dropF l (k + 1)) := by
        rw [Tm.app_assoc, Tm.drop_succ HD.out]
        show l = Tm.app acc (.node p1 l1 r1)
        rw [← HD.out]; exact HACC.out
      have g8 : Below w.heap.size w (set4 w3 (w.heap.size + 2) (k * 4) p1 A2 m1 c2) := ⟨(HB.out.trans (HB3.out.mono (by omega))).os, (HB.out.trans (HB3.out.mono (by omega))).tape, (HB.out.trans (HB3.out.mono (by omega))).output, by rw [set4_size]; omega, fun b hb => (g3 b (by omega)).trans ((HB.out.trans (HB3.out.mono (by omega))).block b hb)⟩
      have e0 := (g3 w.heap.size (by omega)).trans (HB3.out.block _ (by omega))
      have e1 := (g3 (w.heap.size + 1) (by omega)).trans (HB3.out.block _ (by omega))
      exact ⟨⟨k + 1, vs ++ [tv p1 A2 m1 c2], Tm.app acc (.node p1 l1 .nil), by omega, by go_num, hst, by rw [List.length_append, HVL.out]; rfl, g6, g5, HS3.out.set4, g8, by rw [set4_size]; omega, HT.out.same e0, HTR.out.same e1, HSR.out.same e1⟩, by simp [intOf]; omega⟩
    · obtain rfl : k = n := by omega
      have t0 := HT.out.name
      have q0 := HTR.out.kind
      have q1 := HTR.out.num
      have q2 := HTR.out.name
      have q3 := HTR.out.args
      have z0 := HSR.out.s0
      have z1 := HSR.out.s1
      have z2 := HSR.out.s2
      have z3 := HSR.out.s3
      go_wp2_with fail
      have g1 := set4_term wr (w.heap.size + 1) (3, 0, nm) (some ⟨w.heap.size + 2, 0, none⟩) k k HTR.out.four
      have g2 := set4_size wr (w.heap.size + 1) 0 (3, 0, nm) (some ⟨w.heap.size + 2, 0, none⟩) k k
      have g3 := set4_block wr (w.heap.size + 1) 0 (3, 0, nm) (some ⟨w.heap.size + 2, 0, none⟩) k k
      have g4 : Below w.heap.size w (set4 wr (w.heap.size + 1) 0 (3, 0, nm) (some ⟨w.heap.size + 2, 0, none⟩) k k) := ⟨HB.out.os, HB.out.tape, HB.out.output, by rw [g2]; exact HB.out.size, fun b hb => (g3 b (by omega)).trans (HB.out.block b hb)⟩
      have hacc : l = acc := by
        have := HACC.out
        rwa [show Tm.dropF l k = .nil by rw [show k = Tm.len l from HN.out, Tm.drop_end], Tm.app_nil] at this
      obtain rfl := hacc
      refine bodyPost_ret (term_result (q := 4) rfl _ _ (w.heap.size + 1) (3, 0, nm) (some ⟨w.heap.size + 2, 0, none⟩) k k rfl g1) rfl ?_
      refine ⟨some ⟨w.heap.size + 2, 0, none⟩, ⟨k, by rw [show Tm.len l = k from HN.out.symm]⟩, ?_, g4⟩
      show ArgsIn (Nw w.heap.size (set4 wr (w.heap.size + 1) 0 (3, 0, nm) (some ⟨w.heap.size + 2, 0, none⟩) k k)) (set4 wr (w.heap.size + 1) 0 (3, 0, nm) (some ⟨w.heap.size + 2, 0, none⟩) k k) _ (Tm.len l) l
      generalize set4 wr (w.heap.size + 1) 0 (3, 0, nm) (some ⟨w.heap.size + 2, 0, none⟩) k k = w2 at g1 g2 g3 g4 ⊢
      rw [show Tm.len l = k from HN.out.symm]
      have hv2 := Nw.vals (N' := w.heap.size) (w' := w2) HV.out (by omega) (by rw [g2]; exact Nat.le_refl _) (fun b hb _ => g3 b (by omega))
      have hva := Vals.args (b := w.heap.size + 2) (o := 0) (show Nw w.heap.size w2 (w.heap.size + 2) from ⟨by omega, by rw [g2]; omega, HS.out.same (g3 _ (by omega))⟩) hv2 (by rw [HVL.out]; omega) (fun j u hu => by rw [Nat.zero_add]; exact ((HF.out.same (g3 _ (by omega))).cells j u hu))
      rw [HVL.out] at hva
      exact hva

theorem soft_up (m : Nat) : RebuildsS m := by
  induction m with
  | zero => intro p l A c B w hm; omega
  | succ m ih =>
    intro p l A c B w hm hA hg hB
    obtain ⟨k, v, nm⟩ := p
    have HG := hg
    unfold Tm.goodB at hg
    rw [Bool.and_eq_true] at hg
    by_cases h3 : k = 3
    · subst h3
      have h := nodeB_struct hg.1
      obtain ⟨rfl, h⟩ := h
      exact soft_struct m ih nm l A c B w (by omega) hA hg.2 h.2.2 hB
    · have hl : Tm.len l = 0 := by
        by_cases h0 : k = 0
        · subst h0
          exact (nodeB_var hg.1).2.2.2
        · exact nodeB_leaf hg.1 h3
      obtain rfl := Tm.len_zero hl
      have h := rebuilt_up keepF 95 #[] B 0 B (fun _ => False) (fun _ _ => True) (copiedSpec B) (m + 1) (k, v, nm) .nil A c () w (by omega) hA HG trivial hB
      refine h.mono ?_
      unfold RebDoes
      rw [rebT_keep _ _ HG]
      rintro e w' ⟨A', c', rfl, -, -, ho⟩
      exact ⟨A', c', rfl, ArgsIn.nil _ _ _, ho.below (Nat.le_refl _) (fun k h => h.elim)⟩

set_option maxHeartbeats 1000000 in
theorem copiedS_any (p : Pay) (l : Fo) (A : Option Addr) (c B : Nat) (w : World) (hA : ArgsB w B A (Tm.len l) l) (hg : Tm.goodB p l = true) (hB : B ≤ w.heap.size) :
    Calls Try.prog 88 #[tv p A (Tm.len l) c] w (MakesS p l w) := by
  unfold MakesS
  have C1 := Lib.hid fun (w2 : World) (h2 : ArgsB w2 B A (Tm.len l) l) (h4 : B ≤ w2.heap.size) => soft_up (Tm.size l + 1) p l A c B w2 (by omega) h2 hg h4
  unfold MakesS at C1
  obtain ⟨n, hn⟩ : ∃ n, n = Tm.len l := ⟨_, rfl⟩
  rw [← hn] at hA C1 ⊢
  have HA := Lib.hid hA
  clear hA hg hn
  go_enter Try.func88, Try.ntmps88
  go_wp2_with fail
  refine (C1.out _ ?_ ?_).mono ?_
  · exact HA.out.below (two_boxes w _ _) hB
  · simp; omega
  rintro e w1 ⟨A1, c1, rfl, ha1, hb1⟩
  have hb1 : Below (w.heap.size + 2) _ w1 := hb1.mono (by simp)
  have hsz := hb1.size
  simp at hsz
  have hr : ResAt w1 (w.heap.size + 1) := (ResAt.new (w.alloc _) 24 _ (by simp)).below hb1 (by omega)
  have hw1 : w.heap.size + 1 < w1.heap.size := by omega
  have r0 := hr.t.kind
  have r1 := hr.t.num
  have r2 := hr.t.name
  have r3 := hr.t.args
  have q0 := hr.s.s0
  have q1 := hr.s.s1
  have q2 := hr.s.s2
  have q3 := hr.s.s3
  have HA1 := Lib.hid ha1
  have HB1 := Lib.hid ((two_boxes w _ _).trans (hb1.mono (by omega)) : Below w.heap.size w w1)
  have HR := Lib.hid hr
  clear ha1 hb1 hr
  go_wp2_with fail
  have st := stored w1 (w.heap.size + 1) p zp A1 none n c1 0 0 HR.out.t HR.out.s
  show bodyPost _ _ _ _ _ (set4 w1 (w.heap.size + 1) 0 p A1 n c1)
  generalize set4 w1 (w.heap.size + 1) 0 p A1 n c1 = w2 at st ⊢
  refine bodyPost_ret (term_result (q := 2) rfl _ _ (w.heap.size + 1) p A1 n c1 rfl st.term) rfl ?_
  exact ⟨A1, c1, rfl, Nw.args HA1.out (by simp; omega) (by rw [st.size]; exact Nat.le_refl _) (fun b hb _ => st.block b (by simp at hb; omega)), st.below _ _ HB1.out (by omega)⟩

set_option maxHeartbeats 1000000 in
theorem cloneS_any (p : Pay) (l : Fo) (A : Option Addr) (c B : Nat) (w : World) (hv : Tm.validB p l = true) (hA : ArgsB w B A (Tm.len l) l) (hB : B ≤ w.heap.size) :
    Calls Try.prog 72 #[tv p A (Tm.len l) c] w (MakesS p l w) := by
  have V1 := Lib.hid fun (w1 : World) (h1 : ArgsB w1 B A (Tm.len l) l) (h2 : B ≤ w1.heap.size) => valid_any p l A c B w1 h1 h2
  have BX := Lib.hid (two_boxes w)
  have hg : Tm.goodB p l = true := by unfold Tm.validB at hv; rw [Bool.and_eq_true] at hv; exact hv.2
  have C2 := Lib.hid fun (w1 : World) (h1 : ArgsB w1 B A (Tm.len l) l) (h2 : B ≤ w1.heap.size) => copiedS_any p l A c B w1 h1 hg h2
  rw [hv] at V1
  unfold MakesS at C2
  unfold MakesS
  obtain ⟨n, hn⟩ : ∃ n, n = Tm.len l := ⟨_, rfl⟩
  rw [← hn] at hA V1 C2 ⊢
  have HA := Lib.hid hA
  clear hv hA hn hg
  go_enter Try.func72, Try.ntmps72
  go_wp2_with fail
  refine (V1.out _ ?_ ?_).mono ?_
  · exact HA.out.below (BX.out _ _) hB
  · simp; omega
  rintro e w0 ⟨rfl, hb0⟩
  have hsz0 := hb0.size
  simp at hsz0
  have hta : TermAt w0 w.heap.size p A n c := ((TermAt.new w p A n c 24).below (B := w.heap.size + 1) ((Below.refl _ _).alloc (by simp) _) (by omega)).below hb0 (by simp; omega)
  have hres : ResAt w0 (w.heap.size + 1) := (ResAt.new (w.alloc _) 24 _ (by simp)).below hb0 (by simp)
  have y0 := hta.kind
  have y1 := hta.num
  have y2 := hta.name
  have y3 := hta.args
  have hw0 : w.heap.size + 1 < w0.heap.size := by omega
  have HB0 := Lib.hid ((BX.out _ _).trans (hb0.mono (by simp; omega)) : Below w.heap.size w w0)
  have HR0 := Lib.hid hres
  clear hb0 hta hres
  go_wp2_with fail
  refine (C2.out _ ?_ ?_).mono ?_
  · exact HA.out.below HB0.out hB
  · omega
  rintro e w1 ⟨A1, c1, rfl, ha1, hb1⟩
  have hsz := hb1.size
  try simp at hsz
  have hr : ResAt w1 (w.heap.size + 1) := (HR0.out).below hb1 (by first | omega | (simp; done) | (simp; omega))
  have hw1 : w.heap.size + 1 < w1.heap.size := by omega
  have r0 := hr.t.kind
  have r1 := hr.t.num
  have r2 := hr.t.name
  have r3 := hr.t.args
  have q0 := hr.s.s0
  have q1 := hr.s.s1
  have q2 := hr.s.s2
  have q3 := hr.s.s3
  have HA1 := Lib.hid ha1
  have HB1 := Lib.hid ((HB0.out).trans (hb1.mono (by first | omega | (simp; done) | (simp; omega))) : Below w.heap.size w w1)
  have HR := Lib.hid hr
  clear ha1 hb1 hr
  go_wp2_with fail
  have st := stored w1 (w.heap.size + 1) p zp A1 none (n) c1 0 0 HR.out.t HR.out.s
  show bodyPost _ _ _ _ _ (set4 w1 (w.heap.size + 1) 0 p A1 (n) c1)
  generalize set4 w1 (w.heap.size + 1) 0 p A1 (n) c1 = w2 at st ⊢
  refine bodyPost_ret (term_result (q := 2) rfl _ _ (w.heap.size + 1) p A1 (n) c1 rfl st.term) rfl ?_
  exact ⟨A1, c1, rfl, Nw.args HA1.out (by omega) (by rw [st.size]; exact Nat.le_refl _) (fun b hb _ => st.block b (by omega)), st.below _ _ HB1.out (by omega)⟩

end Go.Proofs.Ytapcnehpechkpaa
