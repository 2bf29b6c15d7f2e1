/-
  Copies whose blocks can all be written: package term's copied and Clone, package order's copied, Sort, Stable and Keys.
  Rows of bytes in slots; remainders; few, whose row can be written.
  Values that do not lead into a given block; a row of the call's own that is appended to, beside calls, in whatever order.
  A region that draws its order, by what holds whichever operations have come up; its last operations in the order of the text.
  The statements' spoil: a row of the call's own and what it leads to, overwritten; nothing else is.
  Rows whose elements' arguments lie below a bound; cells of captured variables; slices of a row.
  The closure of OrderArguments: a term between the others.
  Slots for OrderSorts: rows whose blocks lie between two worlds; a row of copies that is appended to; spoil in a region.
-/
import Derived.Test.YtcjakmafojbhlaaDoorPartG
import Derived.Test.YtcjakmafojbhlaaDoorPartH
import Derived.Test.YtcjakmafojbhlaaDoorOpenT
namespace Go.Proofs.YtcjakmafojbhlaaDoor
set_option linter.unusedVariables false
set_option linter.unusedSimpArgs false
open Go.RowKit

/-- The blocks from N on that are there and can be written. -/
def Nw (N : Nat) (w : World) (b : Nat) : Prop := N ≤ b ∧ b < w.heap.size ∧ SoftB w b
theorem Nw.keep {N N' : Nat} {w w' : World} {b : Nat} (h : Nw N w b) (hN : N' ≤ N) (hs : w.heap.size ≤ w'.heap.size) (hk : w'.heap[b]? = w.heap[b]?) : Nw N' w' b := ⟨Nat.le_trans hN h.1, Nat.lt_of_lt_of_le h.2.1 hs, h.2.2.same hk⟩
theorem Nw.args {N N' : Nat} {w w' : World} {A : Option Addr} {n : Nat} {F : Fo} (h : ArgsIn (Nw N w) w A n F) (hN : N' ≤ N) (hs : w.heap.size ≤ w'.heap.size) (hk : ∀ b, N ≤ b → b < w.heap.size → w'.heap[b]? = w.heap[b]?) : ArgsIn (Nw N' w') w' A n F := by
  refine (h.keep (w' := w') fun b hb => hk b hb.1 hb.2.1).mono fun b hb => hb.keep hN hs (hk b hb.1 hb.2.1)
theorem Nw.vals {N N' : Nat} {w w' : World} {vs : List Value} {F : Fo} (h : Vals (Nw N w) w vs F) (hN : N' ≤ N) (hs : w.heap.size ≤ w'.heap.size) (hk : ∀ b, N ≤ b → b < w.heap.size → w'.heap[b]? = w.heap[b]?) : Vals (Nw N' w') w' vs F := by
  refine (Vals.keep (w' := w') (fun b hb => hk b hb.1 hb.2.1) vs F h).mono' fun b hb => hb.keep hN hs (hk b hb.1 hb.2.1)
/-- A term that a function makes, in blocks that can be written. -/
def MakesS (p : Pay) (l : Fo) (w : World) (e : Ending) (w' : World) : Prop :=
  ∃ A c, e = .returned (tv p A (Tm.len l) c) ∧ ArgsIn (Nw w.heap.size w') w' A (Tm.len l) l ∧ Below w.heap.size w w'
/-- A new row of the terms F, in blocks that can be written. -/
def MadeRowS (F : Fo) (w : World) (e : Ending) (w' : World) : Prop :=
  ∃ A c, e = .returned (.slice A (Tm.len F) c) ∧ ArgsIn (Nw w.heap.size w') w' A (Tm.len F) F ∧ (0 < Tm.len F → ∃ g, A = some ⟨g, 0, none⟩ ∧ Nw w.heap.size w' g ∧ RowIn (fun b => Nw w.heap.size w' b ∧ b ≠ g) w' F g 0) ∧ Below w.heap.size w w'
def MadeErrS (F : Fo) (n : Int) (w : World) (e : Ending) (w' : World) : Prop :=
  ∃ A c, e = .returned (.tuple #[.slice A (Tm.len F) c, .int .i64 n]) ∧ ArgsIn (Nw w.heap.size w') w' A (Tm.len F) F ∧ (0 < Tm.len F → ∃ g, A = some ⟨g, 0, none⟩ ∧ Nw w.heap.size w' g ∧ RowIn (fun b => Nw w.heap.size w' b ∧ b ≠ g) w' F g 0) ∧ Below w.heap.size w w'
theorem MadeErrS.nil_ {w w' : World} {c : Nat} {n : Int} (hb : Below w.heap.size w w') : MadeErrS .nil n w (.returned (.tuple #[.slice none 0 c, .int .i64 n])) w' :=
  ⟨Option.none, c, rfl, ArgsIn.nil _ _ _, fun h => absurd h (by decide), hb⟩
theorem MadeRowS.err {F : Fo} {w w0 w' : World} {e : Ending} (h : MadeRowS F w e w') (hb : Below w0.heap.size w0 w) : ∃ A c, e = .returned (.slice A (Tm.len F) c) ∧ ∀ n, MadeErrS F n w0 (.returned (.tuple #[.slice A (Tm.len F) c, .int .i64 n])) w' := by
  obtain ⟨A, c, rfl, h1, h2, h3⟩ := h
  have hs := hb.size
  refine ⟨A, c, rfl, fun n => ⟨A, c, rfl, h1.mono fun b hb' => ⟨Nat.le_trans hs hb'.1, hb'.2⟩, fun h => ?_, hb.trans (h3.mono hs)⟩⟩
  obtain ⟨g, e, hg, hr⟩ := h2 h
  exact ⟨g, e, ⟨Nat.le_trans hs hg.1, hg.2⟩, RowIn.mono (fun b hb' => ⟨⟨Nat.le_trans hs hb'.1.1, hb'.1.2⟩, hb'.2⟩) _ _ _ hr⟩

def RebuildsS (m : Nat) : Prop :=
  ∀ (p : Pay) (l : Fo) (A : Option Addr) (c B : Nat) (w : World), Tm.size l < m → ArgsB w B A (Tm.len l) l → Tm.goodB p l = true → B ≤ w.heap.size →
    Calls Tryd.prog 82 #[tv p A (Tm.len l) c, .func (.func 83) #[] #[]] w (MakesS p l w)

set_option maxHeartbeats 4000000 in
theorem soft_struct (m : Nat) (ih : RebuildsS m)
    (nm : ByteArray) (l : Fo) (A : Option Addr) (c B : Nat) (w : World) (hm : Tm.size l ≤ m) (hA : ArgsB w B A (Tm.len l) l) (hall : Tm.allB l = true) (hlen : Tm.len l ≤ 8) (hB : B ≤ w.heap.size) :
    Calls Tryd.prog 82 #[tv (3, 0, nm) A (Tm.len l) c, .func (.func 83) #[] #[]] w (MakesS (3, 0, nm) l w) := by
  have IH := Lib.hid ih
  have HM := Lib.hid hm
  have HALL := Lib.hid hall
  obtain ⟨n, hn⟩ : ∃ n, n = Tm.len l := ⟨_, rfl⟩
  rw [← hn] at hA hlen ⊢
  have HA := Lib.hid hA
  have HN := Lib.hid hn
  have hmk := fun w => run_make_terms n hlen w
  clear ih hm hall hA hn
  unfold MakesS
  go_enter Tryd.func82, Tryd.ntmps82
  go_wp2_with fail
  go_loopw [25] (fun u wr => ∃ (k : Nat) (vs : List Value) (acc : Fo), k ≤ n ∧ u = .int .i64 k ∧ l = Tm.app acc (Tm.dropF l k) ∧ vs.length = k ∧
    Vals (Nw (w.heap.size + 3) wr) wr vs acc ∧ Filling wr (w.heap.size + 2) n vs ∧ SoftB wr (w.heap.size + 2) ∧ Below w.heap.size w wr ∧ w.heap.size + 2 < wr.heap.size ∧ TermAt wr w.heap.size (3, 0, nm) A n c ∧ TermAt wr (w.heap.size + 1) zp none 0 0 ∧ SoftAt wr (w.heap.size + 1)) (fun u _ => n - (intOf u).toNat)
  case atStart =>
    have k0 : ∀ o1 o2 o3 : Obj, Below w.heap.size w (((w.alloc o1).alloc o2).alloc o3) := fun o1 o2 o3 => Only.below (X := fun _ => False) ((((Only.refl _ w).alloc _).alloc _).alloc _) (Nat.le_refl _) (fun _ h => h.elim)
    have k1 : ∀ o1 o2 o3 : Obj, (((w.alloc o1).alloc o2).alloc o3).heap[w.heap.size]? = (w.alloc o1).heap[w.heap.size]? := fun o1 o2 o3 => (Below.heap_alloc _ _ _ (by simp; omega)).trans (Below.heap_alloc _ _ _ (by simp))
    have k2 : ∀ o1 o2 o3 : Obj, (((w.alloc o1).alloc o2).alloc o3).heap[w.heap.size + 1]? = ((w.alloc o1).alloc o2).heap[w.heap.size + 1]? := fun o1 o2 o3 => Below.heap_alloc _ _ _ (by simp)
    have k3 : ∀ (o1 o2 : Obj) z, Filling (((w.alloc o1).alloc o2).alloc (.cells (madeCells z (n * 4)) 24)) (w.heap.size + 2) n [] := fun o1 o2 z => by
      have := Filling.new ((w.alloc o1).alloc o2) n z
      rw [World.size_alloc, World.size_alloc] at this
      exact this
    have k6 : ∀ (o1 o2 : Obj) z, SoftB (((w.alloc o1).alloc o2).alloc (.cells z 24)) (w.heap.size + 2) := fun o1 o2 z => by
      have := SoftB.new ((w.alloc o1).alloc o2) z 24
      rw [World.size_alloc, World.size_alloc] at this
      exact this
    have k4 : ∀ o1 : Obj, TermAt ((w.alloc o1).alloc (.cells #[.int .i64 0, .int .i64 0, .string ⟨#[]⟩, .slice none 0 0] 24)) (w.heap.size + 1) zp none 0 0 := fun o1 => by
      have := TermAt.new (w.alloc o1) zp none 0 0 24
      rw [World.size_alloc] at this
      exact this
    have k5 : ∀ (o1 : Obj) cs, SoftAt ((w.alloc o1).alloc (.cells cs 24)) (w.heap.size + 1) := fun o1 cs => by
      have := SoftAt.new (w.alloc o1) cs 24
      rw [World.size_alloc] at this
      exact this
    refine ⟨0, [], .nil, Nat.zero_le _, rfl, by rw [Tm.drop_zero]; rfl, rfl, trivial, k3 _ _ _, k6 _ _ _, k0 _ _ _, by simp, (TermAt.new w (3, 0, nm) A n c 24).same (k1 _ _ _), (k4 _).same (k2 _ _ _), (k5 _ _).same (k2 _ _ _)⟩
  case round =>
    obtain ⟨k, vs, acc, hk, rfl, hacc, hvl, hvals, hfill, hsoft, hbl, hwr, hta, htr, hsr⟩ := hrel
    have HACC := Lib.hid hacc
    have HVL := Lib.hid hvl
    have HV := Lib.hid hvals
    have HF := Lib.hid hfill
    have HS := Lib.hid hsoft
    have HB := Lib.hid hbl
    have HT := Lib.hid hta
    have HTR := Lib.hid htr
    have HSR := Lib.hid hsr
    clear hacc hvl hvals hfill hsoft hbl hta htr hsr
    by_cases hlt : k < n
    · obtain ⟨b, o, p1, l1, r1, A1, c1, rfl, hbB, hd, hnode⟩ := HA.out.at hlt
      have hbw : b < w.heap.size := Nat.lt_of_lt_of_le hbB hB
      have y0 := (HB.out.cell (p := ⟨b, o + k * 4, none⟩) hbw).trans hnode.kind
      have y1 := (HB.out.cell (p := ⟨b, o + k * 4 + 1, none⟩) hbw).trans hnode.num
      have y2 := (HB.out.cell (p := ⟨b, o + k * 4 + 2, none⟩) hbw).trans hnode.name
      have y3 := (HB.out.cell (p := ⟨b, o + k * 4 + 3, none⟩) hbw).trans hnode.args
      have HD := Lib.hid hd
      have HII := Lib.hid (hnode.inn.below HB.out hB)
      clear hd hnode
      have hs1 : Tm.size l1 < m := by have e := HD.out; have := Tm.size_drop_le l k; rw [e] at this; simp only [Tm.size] at this; have := HM.out; omega
      have hg1 : Tm.goodB p1 l1 = true := by have e := Tm.allB_drop HALL.out k; rw [HD.out, Tm.allB_cons, Bool.and_eq_true] at e; exact e.1
      have C1 := Lib.hid fun (w2 : World) (h2 : ArgsB w2 B A1 (Tm.len l1) l1) (h4 : B ≤ w2.heap.size) => IH.out p1 l1 A1 c1 B w2 hs1 h2 hg1 h4
      unfold MakesS at C1
      obtain ⟨m1, hm1⟩ : ∃ m1, m1 = Tm.len l1 := ⟨_, rfl⟩
      rw [← hm1] at C1 HII y3
      have HM1 := Lib.hid hm1
      clear hs1 hg1 hm1
      have hws := HB.out.size
      go_wp2_with fail
      refine (C1.out _ ?_ ?_).mono ?_
      · exact HII.out.below ((Below.refl wr.heap.size wr).alloc (Nat.le_refl _) _) (by omega)
      · simp; omega
      rintro e w3 ⟨A2, c2, rfl, ha2, hb2⟩
      have hb3 : Below wr.heap.size wr w3 := ((Below.refl wr.heap.size wr).alloc (Nat.le_refl _) _).trans (hb2.mono (by simp))
      have hsz3 := hb3.size
      have hf3 : Filling w3 (w.heap.size + 2) n vs := HF.out.same (hb3.block _ hwr)
      have h4 := hf3.four hlt
      obtain ⟨u0, q0⟩ := Option.isSome_iff_exists.1 h4.c0
      obtain ⟨u1, q1⟩ := Option.isSome_iff_exists.1 h4.c1
      obtain ⟨u2, q2⟩ := Option.isSome_iff_exists.1 h4.c2
      obtain ⟨u3, q3⟩ := Option.isSome_iff_exists.1 h4.c3
      have z0 := hf3.soft (k * 4) (by omega)
      have z1 := hf3.soft (k * 4 + 1) (by omega)
      have z2 := hf3.soft (k * 4 + 2) (by omega)
      have z3 := hf3.soft (k * 4 + 3) (by omega)
      have HF3 := Lib.hid hf3
      have HA2 := Lib.hid ha2
      have HB3 := Lib.hid hb3
      have HS3 := Lib.hid (HS.out.same (hb3.block _ hwr))
      clear hf3 ha2 hb2 hb3 h4 y0 y1 y2 y3
      go_wp2_with fail
      have g2 := set4_size w3 (w.heap.size + 2) (k * 4) p1 A2 m1 c2
      have g3 := set4_block w3 (w.heap.size + 2) (k * 4) p1 A2 m1 c2
      have g5 := HF3.out.set hlt (by rw [Vals.tcells_len vs acc HV.out, HVL.out]) p1 A2 m1 c2
      have g6 : Vals (Nw (w.heap.size + 3) (set4 w3 (w.heap.size + 2) (k * 4) p1 A2 m1 c2)) (set4 w3 (w.heap.size + 2) (k * 4) p1 A2 m1 c2) (vs ++ [tv p1 A2 m1 c2]) (Tm.app acc (.node p1 l1 .nil)) := by
        have e := HM1.out
        subst e
        refine Vals.snoc ?_ vs acc ?_
        · exact Nw.args HA2.out (by simp; omega) (by rw [g2]; exact Nat.le_refl _) (fun b hb _ => g3 b (by simp at hb; omega))
        · exact Nw.vals HV.out (Nat.le_refl _) (by rw [g2]; exact hsz3) (fun b hb hb2 => (g3 b (by omega)).trans (HB3.out.block b hb2))
      have hst : l = Tm.app (Tm.app acc (.node p1 l1 .nil)) (Tm.dropF l (k + 1)) := by
        rw [Tm.app_assoc, Tm.drop_succ HD.out]
        show l = Tm.app acc (.node p1 l1 r1)
        rw [← HD.out]; exact HACC.out
      have g8 : Below w.heap.size w (set4 w3 (w.heap.size + 2) (k * 4) p1 A2 m1 c2) := ⟨(HB.out.trans (HB3.out.mono (by omega))).os, (HB.out.trans (HB3.out.mono (by omega))).tape, (HB.out.trans (HB3.out.mono (by omega))).output, by rw [set4_size]; omega, fun b hb => (g3 b (by omega)).trans ((HB.out.trans (HB3.out.mono (by omega))).block b hb)⟩
      have e0 := (g3 w.heap.size (by omega)).trans (HB3.out.block _ (by omega))
      have e1 := (g3 (w.heap.size + 1) (by omega)).trans (HB3.out.block _ (by omega))
      exact ⟨⟨k + 1, vs ++ [tv p1 A2 m1 c2], Tm.app acc (.node p1 l1 .nil), by omega, by go_num, hst, by rw [List.length_append, HVL.out]; rfl, g6, g5, HS3.out.set4, g8, by rw [set4_size]; omega, HT.out.same e0, HTR.out.same e1, HSR.out.same e1⟩, by simp [intOf]; omega⟩
    · obtain rfl : k = n := by omega
      have t0 := HT.out.name
      have q0 := HTR.out.kind
      have q1 := HTR.out.num
      have q2 := HTR.out.name
      have q3 := HTR.out.args
      have z0 := HSR.out.s0
      have z1 := HSR.out.s1
      have z2 := HSR.out.s2
      have z3 := HSR.out.s3
      go_wp2_with fail
      have g1 := set4_term wr (w.heap.size + 1) (3, 0, nm) (some ⟨w.heap.size + 2, 0, none⟩) k k HTR.out.four
      have g2 := set4_size wr (w.heap.size + 1) 0 (3, 0, nm) (some ⟨w.heap.size + 2, 0, none⟩) k k
      have g3 := set4_block wr (w.heap.size + 1) 0 (3, 0, nm) (some ⟨w.heap.size + 2, 0, none⟩) k k
      have g4 : Below w.heap.size w (set4 wr (w.heap.size + 1) 0 (3, 0, nm) (some ⟨w.heap.size + 2, 0, none⟩) k k) := ⟨HB.out.os, HB.out.tape, HB.out.output, by rw [g2]; exact HB.out.size, fun b hb => (g3 b (by omega)).trans (HB.out.block b hb)⟩
      have hacc : l = acc := by
        have := HACC.out
        rwa [show Tm.dropF l k = .nil by rw [show k = Tm.len l from HN.out, Tm.drop_end], Tm.app_nil] at this
      obtain rfl := hacc
      refine bodyPost_ret (term_result (q := 4) rfl _ _ (w.heap.size + 1) (3, 0, nm) (some ⟨w.heap.size + 2, 0, none⟩) k k rfl g1) rfl ?_
      refine ⟨some ⟨w.heap.size + 2, 0, none⟩, ⟨k, by rw [show Tm.len l = k from HN.out.symm]⟩, ?_, g4⟩
      show ArgsIn (Nw w.heap.size (set4 wr (w.heap.size + 1) 0 (3, 0, nm) (some ⟨w.heap.size + 2, 0, none⟩) k k)) (set4 wr (w.heap.size + 1) 0 (3, 0, nm) (some ⟨w.heap.size + 2, 0, none⟩) k k) _ (Tm.len l) l
      generalize set4 wr (w.heap.size + 1) 0 (3, 0, nm) (some ⟨w.heap.size + 2, 0, none⟩) k k = w2 at g1 g2 g3 g4 ⊢
      rw [show Tm.len l = k from HN.out.symm]
      have hv2 := Nw.vals (N' := w.heap.size) (w' := w2) HV.out (by omega) (by rw [g2]; exact Nat.le_refl _) (fun b hb _ => g3 b (by omega))
      have hva := Vals.args (b := w.heap.size + 2) (o := 0) (show Nw w.heap.size w2 (w.heap.size + 2) from ⟨by omega, by rw [g2]; omega, HS.out.same (g3 _ (by omega))⟩) hv2 (by rw [HVL.out]; omega) (fun j u hu => by rw [Nat.zero_add]; exact ((HF.out.same (g3 _ (by omega))).cells j u hu))
      rw [HVL.out] at hva
      exact hva

theorem soft_up (m : Nat) : RebuildsS m := by
  induction m with
  | zero => intro p l A c B w hm; omega
  | succ m ih =>
    intro p l A c B w hm hA hg hB
    obtain ⟨k, v, nm⟩ := p
    have HG := hg
    unfold Tm.goodB at hg
    rw [Bool.and_eq_true] at hg
    by_cases h3 : k = 3
    · subst h3
      have h := nodeB_struct hg.1
      obtain ⟨rfl, h⟩ := h
      exact soft_struct m ih nm l A c B w (by omega) hA hg.2 h.2.2 hB
    · have hl : Tm.len l = 0 := by
        by_cases h0 : k = 0
        · subst h0
          exact (nodeB_var hg.1).2.2.2
        · exact nodeB_leaf hg.1 h3
      obtain rfl := Tm.len_zero hl
      have h := rebuilt_up keepF 83 #[] B 0 B (fun _ => False) (fun _ _ => True) (copiedSpec B) (m + 1) (k, v, nm) .nil A c () w (by omega) hA HG trivial hB
      refine h.mono ?_
      unfold RebDoes
      rw [rebT_keep _ _ HG]
      rintro e w' ⟨A', c', rfl, -, -, ho⟩
      exact ⟨A', c', rfl, ArgsIn.nil _ _ _, ho.below (Nat.le_refl _) (fun k h => h.elim)⟩

set_option maxHeartbeats 1000000 in
theorem copiedS_any (p : Pay) (l : Fo) (A : Option Addr) (c B : Nat) (w : World) (hA : ArgsB w B A (Tm.len l) l) (hg : Tm.goodB p l = true) (hB : B ≤ w.heap.size) :
    Calls Tryd.prog 78 #[tv p A (Tm.len l) c] w (MakesS p l w) := by
  unfold MakesS
  have C1 := Lib.hid fun (w2 : World) (h2 : ArgsB w2 B A (Tm.len l) l) (h4 : B ≤ w2.heap.size) => soft_up (Tm.size l + 1) p l A c B w2 (by omega) h2 hg h4
  unfold MakesS at C1
  obtain ⟨n, hn⟩ : ∃ n, n = Tm.len l := ⟨_, rfl⟩
  rw [← hn] at hA C1 ⊢
  have HA := Lib.hid hA
  clear hA hg hn
  go_enter Tryd.func78, Tryd.ntmps78
  go_wp2_with fail
  refine (C1.out _ ?_ ?_).mono ?_
  · exact HA.out.below (two_boxes w _ _) hB
  · simp; omega
  rintro e w1 ⟨A1, c1, rfl, ha1, hb1⟩
  have hb1 : Below (w.heap.size + 2) _ w1 := hb1.mono (by simp)
  have hsz := hb1.size
  simp at hsz
  have hr : ResAt w1 (w.heap.size + 1) := (ResAt.new (w.alloc _) 24 _ (by simp)).below hb1 (by omega)
  have hw1 : w.heap.size + 1 < w1.heap.size := by omega
  have r0 := hr.t.kind
  have r1 := hr.t.num
  have r2 := hr.t.name
  have r3 := hr.t.args
  have q0 := hr.s.s0
  have q1 := hr.s.s1
  have q2 := hr.s.s2
  have q3 := hr.s.s3
  have HA1 := Lib.hid ha1
  have HB1 := Lib.hid ((two_boxes w _ _).trans (hb1.mono (by omega)) : Below w.heap.size w w1)
  have HR := Lib.hid hr
  clear ha1 hb1 hr
  go_wp2_with fail
  have st := stored w1 (w.heap.size + 1) p zp A1 none n c1 0 0 HR.out.t HR.out.s
  show bodyPost _ _ _ _ _ (set4 w1 (w.heap.size + 1) 0 p A1 n c1)
  generalize set4 w1 (w.heap.size + 1) 0 p A1 n c1 = w2 at st ⊢
  refine bodyPost_ret (term_result (q := 2) rfl _ _ (w.heap.size + 1) p A1 n c1 rfl st.term) rfl ?_
  exact ⟨A1, c1, rfl, Nw.args HA1.out (by simp; omega) (by rw [st.size]; exact Nat.le_refl _) (fun b hb _ => st.block b (by simp at hb; omega)), st.below _ _ HB1.out (by omega)⟩

set_option maxHeartbeats 1000000 in
theorem cloneS_any (p : Pay) (l : Fo) (A : Option Addr) (c B : Nat) (w : World) (hv : Tm.validB p l = true) (hA : ArgsB w B A (Tm.len l) l) (hB : B ≤ w.heap.size) :
    Calls Tryd.prog 68 #[tv p A (Tm.len l) c] w (MakesS p l w) := by
  have V1 := Lib.hid fun (w1 : World) (h1 : ArgsB w1 B A (Tm.len l) l) (h2 : B ≤ w1.heap.size) => valid_any p l A c B w1 h1 h2
  have BX := Lib.hid (two_boxes w)
  have hg : Tm.goodB p l = true := by unfold Tm.validB at hv; rw [Bool.and_eq_true] at hv; exact hv.2
  have C2 := Lib.hid fun (w1 : World) (h1 : ArgsB w1 B A (Tm.len l) l) (h2 : B ≤ w1.heap.size) => copiedS_any p l A c B w1 h1 hg h2
  rw [hv] at V1
  unfold MakesS at C2
  unfold MakesS
  obtain ⟨n, hn⟩ : ∃ n, n = Tm.len l := ⟨_, rfl⟩
  rw [← hn] at hA V1 C2 ⊢
  have HA := Lib.hid hA
  clear hv hA hn hg
  go_enter Tryd.func68, Tryd.ntmps68
  go_wp2_with fail
  refine (V1.out _ ?_ ?_).mono ?_
  · exact HA.out.below (BX.out _ _) hB
  · simp; omega
  rintro e w0 ⟨rfl, hb0⟩
  have hsz0 := hb0.size
  simp at hsz0
  have hta : TermAt w0 w.heap.size p A n c := ((TermAt.new w p A n c 24).below (B := w.heap.size + 1) ((Below.refl _ _).alloc (by simp) _) (by omega)).below hb0 (by simp; omega)
  have hres : ResAt w0 (w.heap.size + 1) := (ResAt.new (w.alloc _) 24 _ (by simp)).below hb0 (by simp)
  have y0 := hta.kind
  have y1 := hta.num
  have y2 := hta.name
  have y3 := hta.args
  have hw0 : w.heap.size + 1 < w0.heap.size := by omega
  have HB0 := Lib.hid ((BX.out _ _).trans (hb0.mono (by simp; omega)) : Below w.heap.size w w0)
  have HR0 := Lib.hid hres
  clear hb0 hta hres
  go_wp2_with fail
  refine (C2.out _ ?_ ?_).mono ?_
  · exact HA.out.below HB0.out hB
  · omega
  rintro e w1 ⟨A1, c1, rfl, ha1, hb1⟩
  have hsz := hb1.size
  try simp at hsz
  have hr : ResAt w1 (w.heap.size + 1) := (HR0.out).below hb1 (by first | omega | (simp; done) | (simp; omega))
  have hw1 : w.heap.size + 1 < w1.heap.size := by omega
  have r0 := hr.t.kind
  have r1 := hr.t.num
  have r2 := hr.t.name
  have r3 := hr.t.args
  have q0 := hr.s.s0
  have q1 := hr.s.s1
  have q2 := hr.s.s2
  have q3 := hr.s.s3
  have HA1 := Lib.hid ha1
  have HB1 := Lib.hid ((HB0.out).trans (hb1.mono (by first | omega | (simp; done) | (simp; omega))) : Below w.heap.size w w1)
  have HR := Lib.hid hr
  clear ha1 hb1 hr
  go_wp2_with fail
  have st := stored w1 (w.heap.size + 1) p zp A1 none (n) c1 0 0 HR.out.t HR.out.s
  show bodyPost _ _ _ _ _ (set4 w1 (w.heap.size + 1) 0 p A1 (n) c1)
  generalize set4 w1 (w.heap.size + 1) 0 p A1 (n) c1 = w2 at st ⊢
  refine bodyPost_ret (term_result (q := 2) rfl _ _ (w.heap.size + 1) p A1 (n) c1 rfl st.term) rfl ?_
  exact ⟨A1, c1, rfl, Nw.args HA1.out (by omega) (by rw [st.size]; exact Nat.le_refl _) (fun b hb _ => st.block b (by omega)), st.below _ _ HB1.out (by omega)⟩

set_option maxHeartbeats 4000000 in
theorem copiesS_any (F : Fo) (A : Option Addr) (n c B : Nat) (w : World) (hA : ArgsB w B A n F) (hn : n ≤ 100000) (hg : ∀ x ∈ Tm.toL F, Tm.validB x.1 x.2 = true) (hB : B ≤ w.heap.size) :
    Calls Tryd.prog 44 #[.slice A n c] w (MadeRowS F w) := by
  unfold MadeRowS
  have hlen := hA.len
  rw [hlen]
  have HG := Lib.hid hg
  have HA := Lib.hid hA
  have HN := Lib.hid hlen
  have hmk := fun w => run_make_row n hn w
  have hn2 : n ≤ 9223372036854775807 := by omega
  clear hA hg hlen
  go_enter Tryd.func44, Tryd.ntmps44
  go_wp2_with fail
  go_loopw [11] (fun u wr => ∃ (k : Nat) (vs : List Value) (acc : Fo), k ≤ n ∧ u = .int .i64 k ∧ F = Tm.app acc (Tm.dropF F k) ∧ vs.length = k ∧
    Vals (Nw (w.heap.size + 1) wr) wr vs acc ∧ Filling wr w.heap.size n vs ∧ SoftB wr w.heap.size ∧ w.heap.size < wr.heap.size ∧ Below w.heap.size w wr) (fun u _ => n - (intOf u).toNat)
  case atStart => exact ⟨0, [], .nil, Nat.zero_le _, rfl, by rw [Tm.drop_zero]; rfl, rfl, trivial, Filling.new w n _, SoftB.new _ _ _, by simp, (Below.refl _ w).alloc (Nat.le_refl _) _⟩
  case round =>
    obtain ⟨k, vs, acc, hk, rfl, hacc, hvl, hvals, hfill, hsoft, hwr, hbl⟩ := hrel
    have HACC := Lib.hid hacc
    have HVL := Lib.hid hvl
    have HV := Lib.hid hvals
    have HF := Lib.hid hfill
    have HS := Lib.hid hsoft
    have HB := Lib.hid hbl
    clear hacc hvl hvals hfill hbl hsoft
    by_cases hlt : k < n
    · obtain ⟨b, o, p1, l1, r1, A1, c1, rfl, hbB, hd, hnode⟩ := HA.out.at hlt
      have hbw : b < w.heap.size := Nat.lt_of_lt_of_le hbB hB
      have y0 := (HB.out.cell (p := ⟨b, o + k * 4, none⟩) hbw).trans hnode.kind
      have y1 := (HB.out.cell (p := ⟨b, o + k * 4 + 1, none⟩) hbw).trans hnode.num
      have y2 := (HB.out.cell (p := ⟨b, o + k * 4 + 2, none⟩) hbw).trans hnode.name
      have y3 := (HB.out.cell (p := ⟨b, o + k * 4 + 3, none⟩) hbw).trans hnode.args
      have HD := Lib.hid hd
      have HII := Lib.hid (hnode.inn.below HB.out hB)
      have hv1 : Tm.validB p1 l1 = true := HG.out _ (List.mem_of_getElem? (Tm.toL_at hd))
      have C1 := Lib.hid fun (w2 : World) (h2 : ArgsB w2 B A1 (Tm.len l1) l1) (h4 : B ≤ w2.heap.size) => cloneS_any p1 l1 A1 c1 B w2 hv1 h2 h4
      unfold MakesS at C1
      obtain ⟨m1, hm1⟩ : ∃ m1, m1 = Tm.len l1 := ⟨_, rfl⟩
      rw [← hm1] at C1 HII y3
      have HM1 := Lib.hid hm1
      clear hd hnode hv1 hm1
      have hws := HB.out.size
      go_wp2_with fail
      refine (C1.out _ ?_ ?_).mono ?_
      · exact HII.out.below ((Below.refl wr.heap.size wr).alloc (Nat.le_refl _) _) (by omega)
      · simp; omega
      rintro e w3 ⟨A2, c2, rfl, ha2, hb2⟩
      have hb3 : Below wr.heap.size wr w3 := ((Below.refl wr.heap.size wr).alloc (Nat.le_refl _) _).trans (hb2.mono (by simp))
      have hsz3 := hb3.size
      have hf3 : Filling w3 w.heap.size n vs := HF.out.same (hb3.block _ hwr)
      have h4 := hf3.four hlt
      obtain ⟨u0, q0⟩ := Option.isSome_iff_exists.1 h4.c0
      obtain ⟨u1, q1⟩ := Option.isSome_iff_exists.1 h4.c1
      obtain ⟨u2, q2⟩ := Option.isSome_iff_exists.1 h4.c2
      obtain ⟨u3, q3⟩ := Option.isSome_iff_exists.1 h4.c3
      have z0 := hf3.soft (k * 4) (by omega)
      have z1 := hf3.soft (k * 4 + 1) (by omega)
      have z2 := hf3.soft (k * 4 + 2) (by omega)
      have z3 := hf3.soft (k * 4 + 3) (by omega)
      have HF3 := Lib.hid hf3
      have HA2 := Lib.hid ha2
      have HB3 := Lib.hid hb3
      have HS3 := Lib.hid (HS.out.same (hb3.block _ hwr))
      clear hf3 ha2 hb2 hb3 h4 y0 y1 y2 y3
      go_wp2_with fail
      have g3 := set4_block w3 w.heap.size (k * 4) p1 A2 m1 c2
      have g5 := HF3.out.set hlt (by rw [Vals.tcells_len vs acc HV.out, HVL.out]) p1 A2 m1 c2
      have g2 := set4_size w3 w.heap.size (k * 4) p1 A2 m1 c2
      have g6 : Vals (Nw (w.heap.size + 1) (set4 w3 w.heap.size (k * 4) p1 A2 m1 c2)) (set4 w3 w.heap.size (k * 4) p1 A2 m1 c2) (vs ++ [tv p1 A2 m1 c2]) (Tm.app acc (.node p1 l1 .nil)) := by
        have e := HM1.out
        subst e
        refine Vals.snoc ?_ vs acc ?_
        · exact Nw.args HA2.out (by simp; omega) (by rw [g2]; exact Nat.le_refl _) (fun b hb _ => g3 b (by simp at hb; omega))
        · exact Nw.vals HV.out (Nat.le_refl _) (by rw [g2]; exact hsz3) (fun b hb hb2 => (g3 b (by omega)).trans (HB3.out.block b hb2))
      have hst : F = Tm.app (Tm.app acc (.node p1 l1 .nil)) (Tm.dropF F (k + 1)) := by
        rw [Tm.app_assoc, Tm.drop_succ HD.out]
        show F = Tm.app acc (.node p1 l1 r1)
        rw [← HD.out]; exact HACC.out
      have g8 : Below w.heap.size w (set4 w3 w.heap.size (k * 4) p1 A2 m1 c2) := ⟨(HB.out.trans (HB3.out.mono (by omega))).os, (HB.out.trans (HB3.out.mono (by omega))).tape, (HB.out.trans (HB3.out.mono (by omega))).output, by rw [set4_size]; omega, fun b hb => (g3 b (by omega)).trans ((HB.out.trans (HB3.out.mono (by omega))).block b hb)⟩
      exact ⟨⟨k + 1, vs ++ [tv p1 A2 m1 c2], Tm.app acc (.node p1 l1 .nil), by omega, by go_num, hst, by rw [List.length_append, HVL.out]; rfl, g6, g5, HS3.out.set4, by rw [set4_size]; omega, g8⟩, by simp [intOf]; omega⟩
    · obtain rfl : k = n := by omega
      have hacc : F = acc := by
        have := HACC.out
        rwa [show Tm.dropF F k = .nil by rw [← HN.out, Tm.drop_end], Tm.app_nil] at this
      obtain rfl := hacc
      go_wp2_with fail
      go_ret
      have hv3 := Nw.vals (N' := w.heap.size) (w' := wr) HV.out (by omega) (Nat.le_refl _) (fun b _ _ => rfl)
      have hgs : Nw w.heap.size wr w.heap.size := ⟨Nat.le_refl _, hwr, HS.out⟩
      refine ⟨some ⟨w.heap.size, 0, none⟩, k, rfl, ?_, fun _ => ⟨_, rfl, hgs, ?_⟩, HB.out⟩
      rotate_left
      · exact Vals.row w.heap.size vs F 0 (HV.out.mono' fun b hb => ⟨⟨by have := hb.1; omega, hb.2⟩, by have := hb.1; omega⟩) Tm.len_le_size fun j u hu => by rw [Nat.zero_add]; exact HF.out.cells j u hu
      have hva := Vals.args (b := w.heap.size) (o := 0) (show Nw w.heap.size wr w.heap.size from ⟨Nat.le_refl _, hwr, HS.out⟩) hv3 (by rw [HVL.out]; omega) (fun j u hu => by rw [Nat.zero_add]; exact HF.out.cells j u hu)
      rw [HVL.out] at hva
      exact hva

set_option maxHeartbeats 4000000 in
theorem stable_allS (F : Fo) (A : Option Addr) (n c B : Nat) (w : World) (hA : ArgsB w B A n F) (hn : n ≤ 100000) (hv : Tm.allV F = true) (hT : Tabs w) (hB : B ≤ w.heap.size) :
    Calls Tryd.prog 17 #[.slice A n c] w (MadeErrS (Tm.ofL (Tm.sortL false (Tm.toL F))) 0 w) := by
  have HV := Lib.hid hv
  have HT := Lib.hid hT
  have hTl := hT.lt
  have V1 := Lib.hid (areValid_any F A n c B w hA (by omega) hB)
  rw [hv] at V1
  have S1 := Lib.hid fun (w1 : World) (hb : Below w.heap.size w w1) => sorted_any false F A n c B w1 (hA.below hb hB) hn (okT_of hv) (hT.only (Only.of_below (X := fun _ => False) hb) id) (Nat.le_trans hB hb.size)
  have HL := Lib.hid hA.len
  clear hA hv hT
  go_enter Tryd.func17, Tryd.ntmps17
  go_wp2_with fail
  refine V1.out.mono ?_
  rintro e w1 ⟨rfl, hb1⟩
  have HB1 := Lib.hid hb1
  clear hb1
  go_wp2_with fail
  refine (S1.out _ HB1.out).mono ?_
  rintro e w2 ⟨d, v, rfl, his, hfit, hrow, hb2⟩
  have hsort := his.eq
  have hds : d.size = n := by
    have := congrArg List.length hsort
    rw [Tm.sortL_len, Tm.len_toL, HL.out] at this
    simpa using this
  obtain ⟨A2, c2, hv2, ha2⟩ := hrow.args (by omega)
  rw [hds] at hv2 ha2
  subst hv2
  have HB2 := Lib.hid (HB1.out.trans (hb2.mono HB1.out.size))
  have C1 := Lib.hid (copiesS_any (rowF d) A2 n c2 w2.heap.size w2 ha2 hn (fun x hx => by
    rw [rowF_toL] at hx
    have : x ∈ Tm.sortL false (Tm.toL F) := by rw [← hsort]; exact hx
    exact Tm.allV_iff.1 HV.out x (Tm.sortL_mem.1 this)) (Nat.le_refl _))
  have HR := Lib.hid (show rowF d = Tm.ofL (Tm.sortL false (Tm.toL F)) by rw [← hsort]; rfl)
  have HDS := Lib.hid hds
  clear his hfit hrow hb2 hsort ha2 hds
  go_wp2_with fail
  refine C1.out.mono ?_
  intro e w3 h3
  obtain ⟨A3, c3, he, hm⟩ := h3.err HB2.out
  have hm0 := hm 0
  rw [rowF_len, HDS.out] at he hm0
  rw [HR.out] at hm0
  subst he
  have HM := Lib.hid hm0
  clear h3 hm hm0
  go_wp2_with fail
  go_ret2
  exact HM.out


set_option maxHeartbeats 4000000 in
theorem sort_allS (F : Fo) (A : Option Addr) (n c B : Nat) (w : World) (hA : ArgsB w B A n F) (hn : n ≤ 100000) (hv : Tm.allV F = true) (hT : Tabs w) (hB : B ≤ w.heap.size) :
    Calls Tryd.prog 16 #[.slice A n c] w (MadeErrS (Tm.ofL (Tm.uniq (Tm.sortL false (Tm.toL F)))) 0 w) := by
  have HV := Lib.hid hv
  have HT := Lib.hid hT
  have hTl := hT.lt
  have V1 := Lib.hid (areValid_any F A n c B w hA (by omega) hB)
  rw [hv] at V1
  have S1 := Lib.hid fun (w1 : World) (hb : Below w.heap.size w w1) => sorted_any false F A n c B w1 (hA.below hb hB) hn (okT_of hv) (hT.only (Only.of_below (X := fun _ => False) hb) id) (Nat.le_trans hB hb.size)
  have HL := Lib.hid hA.len
  clear hA hv hT
  go_enter Tryd.func16, Tryd.ntmps16
  go_wp2_with fail
  refine V1.out.mono ?_
  rintro e w1 ⟨rfl, hb1⟩
  have HB1 := Lib.hid hb1
  clear hb1
  go_wp2_with fail
  refine (S1.out _ HB1.out).mono ?_
  rintro e w2 ⟨d, v, rfl, his, hfit, hrow, hb2⟩
  have hsort := his.eq
  have hds : d.size ≤ 100000 := by
    have := congrArg List.length hsort
    rw [Tm.sortL_len, Tm.len_toL, HL.out] at this
    have h2 : (d.toList.map (·.1)).length = d.size := by simp
    omega
  have HB2 := Lib.hid (HB1.out.trans (hb2.mono HB1.out.size))
  have C0 := Lib.hid (compactRow_any w1 d v w2 hrow hds hfit (HT.out.only (Only.of_below (X := fun _ => False) HB1.out) id) hb2)
  have HS := Lib.hid (show keysOf d = Tm.sortL false (Tm.toL F) from hsort)
  have HDS := Lib.hid hds
  clear his hfit hrow hb2 hsort hds
  go_wp2_with fail
  refine C0.out.mono ?_
  rintro e w3 ⟨d3, v3, rfl, hrow3, hk3, hb3⟩
  rw [HS.out] at hk3
  obtain ⟨m, hm⟩ : ∃ m, m = d3.size := ⟨_, rfl⟩
  have hl3 : m ≤ 100000 := by
    rw [hm, ← keysOf_len, hk3]
    have h1 := Tm.uniq_len (Tm.sortL false (Tm.toL F))
    rw [Tm.sortL_len, Tm.len_toL, HL.out] at h1
    omega
  obtain ⟨A2, c2, hv2, ha2⟩ := hrow3.args (by omega)
  rw [← hm] at hv2 ha2
  subst hv2
  have C1 := Lib.hid (copiesS_any (rowF d3) A2 m c2 w3.heap.size w3 ha2 hl3 (fun x hx => by
    rw [rowF_toL, hk3] at hx
    exact Tm.allV_iff.1 HV.out x (Tm.sortL_mem.1 (Tm.uniq_mem hx))) (Nat.le_refl _))
  have HR := Lib.hid (show rowF d3 = Tm.ofL (Tm.uniq (Tm.sortL false (Tm.toL F))) by rw [← hk3]; rfl)
  have HM0 := Lib.hid (show Tm.len (rowF d3) = m by rw [rowF_len, hm])
  have HB3 := Lib.hid (HB1.out.trans (hb3.mono HB1.out.size))
  clear hrow3 hk3 hb3 ha2 hm
  go_wp2_with fail
  refine C1.out.mono ?_
  intro e w4 h3
  obtain ⟨A3, c3, he, hm⟩ := h3.err HB3.out
  have hm0 := hm 0
  rw [HM0.out] at he hm0
  rw [HR.out] at hm0
  subst he
  have HM := Lib.hid hm0
  clear h3 hm hm0
  go_wp2_with fail
  go_ret2
  exact HM.out


set_option maxHeartbeats 4000000 in
theorem keys_allS (F : Fo) (A : Option Addr) (n c B : Nat) (w : World) (hA : ArgsB w B A n F) (hn : n ≤ 100000) (hv : Tm.allV F = true) (hp : Tm.allPairs F = true) (hT : Tabs w) (hB : B ≤ w.heap.size) :
    Calls Tryd.prog 18 #[.slice A n c] w (MadeErrS (Tm.ofL (Tm.sortL true (Tm.toL F))) 0 w) := by
  have HV := Lib.hid hv
  have HT := Lib.hid hT
  have hTl := hT.lt
  have V1 := Lib.hid (areValid_any F A n c B w hA (by omega) hB)
  rw [hv] at V1
  have S1 := Lib.hid fun (w1 : World) (hb : Below w.heap.size w w1) => sorted_any true F A n c B w1 (hA.below hb hB) hn (okT_pairs hv hp) (hT.only (Only.of_below (X := fun _ => False) hb) id) (Nat.le_trans hB hb.size)
  have P1 := Lib.hid fun (w1 : World) (hb : Below w.heap.size w w1) => arePairs_any F A n c B w1 (hA.below hb hB) (by omega) (Nat.le_trans hB hb.size)
  rw [hp] at P1
  have HL := Lib.hid hA.len
  clear hA hv hT hp
  go_enter Tryd.func18, Tryd.ntmps18
  go_wp2_with fail
  refine V1.out.mono ?_
  rintro e w1 ⟨rfl, hb1⟩
  have HB1 := Lib.hid hb1
  clear hb1
  go_wp2_with fail
  refine (P1.out _ HB1.out).mono ?_
  rintro e w1' ⟨rfl, hb1'⟩
  have HB1 := Lib.hid (HB1.out.trans (hb1'.mono HB1.out.size))
  clear hb1'
  go_wp2_with fail
  refine (S1.out _ HB1.out).mono ?_
  rintro e w2 ⟨d, v, rfl, his, hfit, hrow, hb2⟩
  have hsort := his.eq
  have hds : d.size = n := by
    have := congrArg List.length hsort
    rw [Tm.sortL_len, Tm.len_toL, HL.out] at this
    simpa using this
  obtain ⟨A2, c2, hv2, ha2⟩ := hrow.args (by omega)
  rw [hds] at hv2 ha2
  subst hv2
  have HB2 := Lib.hid (HB1.out.trans (hb2.mono HB1.out.size))
  have C1 := Lib.hid (copiesS_any (rowF d) A2 n c2 w2.heap.size w2 ha2 hn (fun x hx => by
    rw [rowF_toL] at hx
    have : x ∈ Tm.sortL true (Tm.toL F) := by rw [← hsort]; exact hx
    exact Tm.allV_iff.1 HV.out x (Tm.sortL_mem.1 this)) (Nat.le_refl _))
  have HR := Lib.hid (show rowF d = Tm.ofL (Tm.sortL true (Tm.toL F)) by rw [← hsort]; rfl)
  have HDS := Lib.hid hds
  clear his hfit hrow hb2 hsort ha2 hds
  go_wp2_with fail
  refine C1.out.mono ?_
  intro e w3 h3
  obtain ⟨A3, c3, he, hm⟩ := h3.err HB2.out
  have hm0 := hm 0
  rw [rowF_len, HDS.out] at he hm0
  rw [HR.out] at hm0
  subst he
  have HM := Lib.hid hm0
  clear h3 hm hm0
  go_wp2_with fail
  go_ret2
  exact HM.out



theorem MadeErrS.of_nil {n : Int} {w : World} {e : Ending} {w' : World} (h : MadeErr .nil n w e w') : MadeErrS .nil n w e w' := by
  obtain ⟨A, c, rfl, _, _, hb⟩ := h
  exact ⟨A, c, rfl, ArgsIn.nil _ _ _, fun h => absurd h (by decide), hb⟩
theorem osortS_any (F : Fo) (A : Option Addr) (n c B : Nat) (w : World) (hA : ArgsB w B A n F) (hn : n ≤ 100000) (hT : Tabs w) (hB : B ≤ w.heap.size) : Calls Tryd.prog 16 #[.slice A n c] w (MadeErrS (sortR F).1 (sortR F).2 w) := by
  have h := osort_any F A n c B w hA hn hT hB
  unfold sortR at h ⊢
  cases hv : Tm.allV F
  · rw [hv] at h
    exact h.mono fun e w' h => MadeErrS.of_nil h
  · exact sort_allS F A n c B w hA hn hv hT hB
theorem ostableS_any (F : Fo) (A : Option Addr) (n c B : Nat) (w : World) (hA : ArgsB w B A n F) (hn : n ≤ 100000) (hT : Tabs w) (hB : B ≤ w.heap.size) : Calls Tryd.prog 17 #[.slice A n c] w (MadeErrS (stableR F).1 (stableR F).2 w) := by
  have h := ostable_any F A n c B w hA hn hT hB
  unfold stableR at h ⊢
  cases hv : Tm.allV F
  · rw [hv] at h
    exact h.mono fun e w' h => MadeErrS.of_nil h
  · exact stable_allS F A n c B w hA hn hv hT hB
theorem okeysS_any (F : Fo) (A : Option Addr) (n c B : Nat) (w : World) (hA : ArgsB w B A n F) (hn : n ≤ 100000) (hT : Tabs w) (hB : B ≤ w.heap.size) : Calls Tryd.prog 18 #[.slice A n c] w (MadeErrS (keysR F).1 (keysR F).2 w) := by
  have h := okeys_any F A n c B w hA hn hT hB
  unfold keysR at h ⊢
  cases hv : Tm.allV F
  · rw [hv] at h
    exact h.mono fun e w' h => MadeErrS.of_nil h
  · cases hp : Tm.allPairs F
    · rw [hv, hp] at h
      exact h.mono fun e w' h => MadeErrS.of_nil h
    · exact keys_allS F A n c B w hA hn hv hp hT hB
end Go.Proofs.YtcjakmafojbhlaaDoor
namespace Go.Proofs.YtcjakmafojbhlaaDoor
set_option linter.unusedVariables false
set_option linter.unusedSimpArgs false
open Go.ChangeShapes Go.WideShapes Go.ChangeAt Go.RowKit Go.Deep

/-- A row of bytes. -/
def u8P (L : List Nat) : Pd where
  R := fun v w => ∃ A c, v = .slice A L.length c ∧ (0 < L.length → ∃ b o, A = some ⟨b, o, none⟩ ∧ b < w.heap.size ∧ ∀ (j z : Nat), L[j]? = some z → w.cell? ⟨b, o + j, none⟩ = some (.int .u8 (z : Int)))
  keep := by
    rintro v w w' ⟨A, c, e, h⟩ hb
    refine ⟨A, c, e, fun hl => ?_⟩
    obtain ⟨b, o, e1, hlt, hc⟩ := h hl
    exact ⟨b, o, e1, Nat.lt_of_lt_of_le hlt hb.size, fun j z hz => (cell_of_block (p := ⟨b, o + j, none⟩) (hb.block _ hlt)).trans (hc j z hz)⟩
def ptr8P (z : Nat) : Pd where
  R := fun v w => ∃ a : Addr, v = .pointer (some a) ∧ a.block < w.heap.size ∧ w.cell? a = some (.int .u8 (z : Int))
  keep := by
    rintro v w w' ⟨a, e, hlt, hc⟩ hb
    exact ⟨a, e, Nat.lt_of_lt_of_le hlt hb.size, (cell_of_block (hb.block _ hlt)).trans hc⟩
section
variable {ops : Array Oper} {Q : Exit → Act → World → Prop} {E : Nat → Kd} {D : Nat → Nat} {base : Nat → Option Kd} {N : Nat}
theorem step_len_u8 {i : Nat} {x : Operand} {L : List Nat} (hop : (ops[i]?).map (·.op) = some (.call { callee := .builtin .len, args := #[x], argTypes := #[43] })) (hx : Opd ops E D base N i x (.sat (u8P L))) (hE : E i = .val (.int .i64 ((L.length : Nat) : Int))) : Step Tryd.prog ops Q E D base N i :=
  step_still hop hE fun a w h dst ty' pos after guard => by
    obtain ⟨A, c, e, _⟩ := hx a w h
    refine ⟨.int .i64 ((L.length : Nat) : Int), ?_, rfl⟩
    unfold execOp
    simp only [resolve, List.map_toArray, List.map_cons, List.map_nil, e]
    go_simp
theorem step_index_u8 {i : Nat} {x y : Operand} {L : List Nat} {k z : Nat} (hz : L[k]? = some z) (hop : (ops[i]?).map (·.op) = some (.indexAddr 43 x y)) (hx : Opd ops E D base N i x (.sat (u8P L))) (hy : Opd ops E D base N i y (.val (.int .i64 (k : Int)))) (hE : E i = .sat (ptr8P z)) : Step Tryd.prog ops Q E D base N i :=
  step_still hop hE fun a w h dst ty' pos after guard => by
    obtain ⟨A, c, e, hr⟩ := hx a w h
    have e' : a.eval y = .int .i64 (k : Int) := hy a w h
    have hk : k < L.length := (List.getElem?_eq_some_iff.1 hz).1
    obtain ⟨b, o, rfl, hlt, hc⟩ := hr (by omega)
    have hcell := hc k z hz
    refine ⟨.pointer (some ⟨b, o + k, none⟩), ?_, _, rfl, hlt, hcell⟩
    generalize L.length = n at e hk
    unfold execOp
    simp only [e, e']
    go_simp
theorem step_load_u8 {i : Nat} {x : Operand} {z : Nat} (hop : (ops[i]?).map (·.op) = some (.load 5 x)) (hx : Opd ops E D base N i x (.sat (ptr8P z))) (hE : E i = .val (.int .u8 (z : Int))) : Step Tryd.prog ops Q E D base N i :=
  step_still hop hE fun a w h dst ty' pos after guard => by
    obtain ⟨ad, e, hb, hc⟩ := hx a w h
    refine ⟨.int .u8 (z : Int), ?_, rfl⟩
    unfold execOp
    simp only [e]
    go_simp
theorem step_conv8 {i : Nat} {x : Operand} {z : Nat} (hz : z < 256) (hop : (ops[i]?).map (·.op) = some (.convert 5 3 x)) (hx : Opd ops E D base N i x (.val (.int .u8 (z : Int)))) (hE : E i = .val (.int .i64 (z : Int))) : Step Tryd.prog ops Q E D base N i :=
  step_still hop hE fun a w h dst ty' pos after guard => by
    have e : a.eval x = .int .u8 (z : Int) := hx a w h
    refine ⟨.int .i64 (z : Int), ?_, rfl⟩
    have hw : IntKind.i64.wrap (z : Int) = (z : Int) := by rw [IntKind.wrap_i64]; omega
    unfold execOp
    simp only [e]
    go_simp
theorem step_rem {i : Nat} {x y : Operand} {m n : Nat} (hn : 0 < n) (hm : m < 9223372036854775808) (hn2 : n < 9223372036854775808) (hop : (ops[i]?).map (·.op) = some (.binOp .rem 3 x y 3)) (hx : Opd ops E D base N i x (.val (.int .i64 (m : Int)))) (hy : Opd ops E D base N i y (.val (.int .i64 (n : Int)))) (hE : E i = .val (.int .i64 ((m % n : Nat) : Int))) : Step Tryd.prog ops Q E D base N i :=
  step_still hop hE fun a w h dst ty' pos after guard => by
    have e : a.eval x = .int .i64 (m : Int) := hx a w h
    have e' : a.eval y = .int .i64 (n : Int) := hy a w h
    refine ⟨.int .i64 ((m % n : Nat) : Int), ?_, rfl⟩
    have h0 : (n : Int) ≠ 0 := by omega
    have hlt : m % n < n := Nat.mod_lt _ hn
    have h1 : n ≠ 0 := by omega
    unfold execOp
    simp only [e, e']
    go_simp
    first | rfl | exact Int.tmod_eq_emod_of_nonneg (by omega)
theorem St.of_ownR {N : Nat} {w : World} {g n c : Nat} {F : Fo} (h : OwnR N w (some ⟨g, 0, none⟩) n c F) : St w g (tagged F) w := by
  obtain ⟨vs, h1, hv, ho⟩ := h.own
  have hlt := ho.lt g rfl
  have hv' : Vals (fun b => b < w.heap.size ∧ b ≠ g) w vs F := hv.mono' fun b hb => ⟨hb.1, fun e => hb.2 (by subst e; rfl)⟩
  refine ⟨Only.refl _ _, hlt.2, fun k hk => ?_, fun o => ?_⟩
  · rw [tagged_size] at hk
    obtain ⟨r, e, _⟩ := tagged_at hk
    have hrow : RowIn (fun b => b < w.heap.size ∧ b ≠ g) w F g 0 := Vals.row g vs F 0 hv' Tm.len_le_size fun j u hu => by
      have := ho.cells (g := g) rfl j u hu
      rw [show (⟨g, 0, none⟩ : Addr).add j = ⟨g, 0 + j, none⟩ by unfold Addr.add; split <;> simp_all] at this
      exact this
    obtain ⟨A, c, hn⟩ := RowIn.at F g 0 k _ _ _ hrow e
    rw [Nat.zero_add] at hn
    exact ⟨A, c, hn⟩
  · rcases ho.2 with h | ⟨g', cap', cur, e, _, hg, _⟩
    · cases h.1
    · cases e
      unfold World.frozen?
      rw [hg]; rfl
theorem OwnR.to {N : Nat} {w wz : World} {A : Option Addr} {n c : Nat} {F : Fo} (h : OwnR N w A n c F) (hz : wz.heap.size ≤ N) (hn : n ≤ 9223372036854775807) : (ownP F wz).R (.slice A (Tm.len F) c) w := by
  have hl := h.len
  refine ⟨A, c, rfl, by rw [hl]; exact h.args hn, fun h0 => ?_⟩
  rcases h.cap.2.2 with ⟨rfl, h1, _⟩ | ⟨g, rfl⟩
  · omega
  · exact ⟨g, w, rfl, Nat.le_trans hz (h.lt rfl).1, St.of_ownR h⟩
theorem step_fewP {i : Nat} {x : Operand} {F : Fo} {wz : World} (tt : Nat) (hop : (ops[i]?).map (·.op) = some (.call { callee := .value (.func 15), args := #[x], argTypes := #[22] })) (hx : Opd ops E D base N i x (.row F)) (hT : Opd ops E D base N i (.tmp tt) (.sat (oldP .tabs wz))) (hE : E i = .sat (ownP (Tm.takeF F 40) wz)) : Step Tryd.prog ops Q E D base N i :=
  step_call hop (fun _ _ => by kernel_rfl) fun a w h => by
    obtain ⟨A, c, ex, ha⟩ := hx a w h
    have hb0 : Below wz.heap.size wz w := (hT a w h).2
    rw [show (#[x] : Array Operand).map a.eval = #[.slice A (Tm.len F) c] by rw [← ex]; simp, hE]
    refine (few_any F A (Tm.len F) c w.heap.size w ha (Nat.le_refl _)).mono ?_
    rintro e w' ⟨A', c', rfl, ho, hb⟩
    have hl := ho.len
    have := ho.to hb0.size (by omega)
    rw [hl] at this
    exact ⟨_, rfl, this, hb⟩
end
theorem few_few (F : Fo) : Tm.takeF (Tm.takeF F 40) 40 = Tm.takeF F 40 := by
  refine Tm.toL_inj ?_
  rw [takeF_toL, takeF_toL, List.take_take]
  rfl
/-- The exchange keeps the elements. -/
theorem exch_perm (F : Fo) {i j : Nat} (hi : i < Tm.len F) (hj : j < Tm.len F) : (Tm.toL (rowF (Go.Sort.swp (tagged F) i j))).Perm (Tm.toL F) := by
  have hsz := tagged_size F
  have hp := Go.Sort.swp_permIn (tagged F) 0 (tagged F).size i j (Nat.zero_le _) (by omega) (Nat.zero_le _) (by omega) (Nat.le_refl _)
  have h1 : (Go.Sort.swp (tagged F) i j).toList.Perm (tagged F).toList := by
    have := hp.2.2
    have e1 : (Go.Sort.swp (tagged F) i j).extract 0 (tagged F).size = Go.Sort.swp (tagged F) i j := by
      rw [← Go.Sort.size_swp (tagged F) i j]; simp
    have e2 : (tagged F).extract 0 (tagged F).size = tagged F := by simp
    rwa [e1, e2] at this
  rw [rowF_toL]
  refine (h1.map (·.1)).trans ?_
  have : (tagged F).toList.map (·.1) = Tm.toL F := by simp [tagged]
  rw [this]
section
variable {H : Type} {enc : TypeId × Value → H} {w : World} {base : Nat} {spare : Nat → Bool} {held : Bool}
theorem u8_cells : Tryd.prog.cellsOf 5 = 1 := by kernel_rfl
/-- A slice of bytes. -/
theorem open_u8s {r : Reach} {b0 : Nat} {v : Value} {d : DataW H} {ps : List MemPlace} (hval : Value.okWide Tryd.prog w r b0 43 v) (hd : DataW.Trod enc Tryd.prog w base spare held 43 v d ps) :
    ∃ L : List Nat, (∀ z ∈ L, z < 256) ∧ L.length ≤ 9223372036854775807 ∧ (u8P L).R v w := by
  obtain ⟨A, n, c, rfl⟩ := okWide_slice Tryd.underlying43 hval
  obtain ⟨fuel, hf⟩ := hd
  rcases open_ints Tryd.underlying43 Tryd.underlying5 u8_cells hf with ⟨hcs, hx⟩ | ⟨a, len', cap', zs, hcs, _, hl, hm, hz, hx, hcell, hwz⟩
  · simp [Value.cells] at hcs
    obtain ⟨rfl, rfl, rfl⟩ := hcs
    exact ⟨[], fun z h => absurd h List.not_mem_nil, by decide, none, 0, rfl, fun h => absurd h (by decide)⟩
  · simp [Value.cells] at hcs
    obtain ⟨rfl, rfl, rfl⟩ := hcs
    unfold maxLen at hm
    have hzl : n ≤ zs.length := by rw [hz]; split <;> omega
    have hwf : ∀ z ∈ zs, 0 ≤ z ∧ z < 256 := fun z hz' => by
      have := hwz z hz'
      simp only [Lit.wf, Bool.and_eq_true, decide_eq_true_eq] at this
      have h8 : IntKind.u8.min = 0 := by rfl
      have h9 : IntKind.u8.max = 255 := by rfl
      omega
    refine ⟨(zs.take n).map Int.toNat, fun z hz' => ?_, by simp; omega, some a, c, by simp [Nat.min_eq_left hzl], fun h0 => ?_⟩
    · obtain ⟨y, hy, rfl⟩ := List.mem_map.1 hz'
      have := hwf y (List.mem_of_mem_take hy)
      omega
    · have hn0 : 0 < n := by simp at h0; omega
      obtain ⟨b, o, spot⟩ := a
      have h00 := hcell 0 (by omega)
      have hspot : spot = none := by simpa [Addr.add] using World.cell?_spot h00
      subst hspot
      refine ⟨b, o, rfl, by simpa [Addr.add] using World.block_lt_of_cell? w _ h00, fun j z hj => ?_⟩
      have hj2 : j < n := by
        have := (List.getElem?_eq_some_iff.1 hj).1
        simp at this
        omega
      have hcj := hcell j (by omega)
      rw [add_none] at hcj
      rw [hcj]
      have hzj : zs[j]? = some zs[j] := List.getElem?_eq_getElem (by omega)
      have hge : zs.getD j 0 = zs[j] := by simp [List.getD_eq_getElem?_getD, hzj]
      rw [hge]
      have hzt : ((zs.take n).map Int.toNat)[j]? = some (zs[j]).toNat := by
        rw [List.getElem?_map, List.getElem?_take, if_pos hj2, hzj]
        rfl
      rw [hzt] at hj
      cases hj
      have := hwf zs[j] (List.getElem_mem _)
      rw [Int.toNat_of_nonneg this.1]
end
end Go.Proofs.YtcjakmafojbhlaaDoor
namespace Go.Proofs.YtcjakmafojbhlaaDoor
set_option linter.unusedVariables false
set_option linter.unusedSimpArgs false
open Go.RowKit

/-- A term whose arguments do not lie in block G. -/
def avT (G : Option Nat) (p : Pay) (l : Fo) : Pd where
  R := fun v w => ∃ A c, v = tv p A (Tm.len l) c ∧ ArgsIn (fun b => b < w.heap.size ∧ G ≠ some b) w A (Tm.len l) l
  keep := by
    rintro v w w' ⟨A, c, e, h⟩ hb
    exact ⟨A, c, e, (h.keep fun b hb' => hb.block b hb'.1).mono fun b hb' => ⟨Nat.lt_of_lt_of_le hb'.1 hb.size, hb'.2⟩⟩
def avR (G : Option Nat) (F : Fo) : Pd where
  R := fun v w => ∃ A c, v = .slice A (Tm.len F) c ∧ ArgsIn (fun b => b < w.heap.size ∧ G ≠ some b) w A (Tm.len F) F
  keep := by
    rintro v w w' ⟨A, c, e, h⟩ hb
    exact ⟨A, c, e, (h.keep fun b hb' => hb.block b hb'.1).mono fun b hb' => ⟨Nat.lt_of_lt_of_le hb'.1 hb.size, hb'.2⟩⟩
def avPt (G : Option Nat) (p : Pay) (l : Fo) : Pd where
  R := fun v w => ∃ b o A c, v = .pointer (some ⟨b, o, none⟩) ∧ b < w.heap.size ∧ NodeAt (fun b => b < w.heap.size ∧ G ≠ some b) w b o p l A c
  keep := by
    rintro v w w' ⟨b, o, A, c, e, hlt, hn⟩ hb
    exact ⟨b, o, A, c, e, Nat.lt_of_lt_of_le hlt hb.size, hn.keep (hb.block _ hlt) (fun b hb' => hb.block b hb'.1) (fun b hb' => ⟨Nat.lt_of_lt_of_le hb'.1 hb.size, hb'.2⟩)⟩
/-- Block G is there. -/
def ltG (G : Option Nat) : Pd where
  R := fun _ w => ∀ g, G = some g → g < w.heap.size
  keep := fun _ _ _ h hb g e => Nat.lt_of_lt_of_le (h g e) hb.size
def ownRP (N0 : Nat) (A : Option Addr) (n c : Nat) (F : Fo) : Pd where
  R := fun _ w => OwnR N0 w A n c F
  keep := fun _ _ _ h hb => h.below hb
/-- A row of the call's own, that is appended to. -/
def apP (N0 : Nat) (F : Fo) : Pd where
  R := fun v w => ∃ A c, v = .slice A (Tm.len F) c ∧ OwnR N0 w A (Tm.len F) c F
  keep := by
    rintro v w w' ⟨A, c, e, h⟩ hb
    exact ⟨A, c, e, h.below hb⟩
theorem apP.to {N0 : Nat} {F : Fo} {w : World} {v : Value} (h : (apP N0 F).R v w) (hn : Tm.len F ≤ 9223372036854775807) : (Kd.row F).R v w := by
  obtain ⟨A, c, e, ho⟩ := h
  exact ⟨A, c, e, ho.args hn⟩
theorem row_newS {w : World} {S : Nat → Prop} (vs : List Value) (F : Fo) (n : Nat) (t : TypeId) (G : Option Nat) (hv : Vals (fun b => b < w.heap.size ∧ G ≠ some b) w vs F) (hn : Tm.len F = n) (h63 : n ≤ 1000) (hG : ∀ g, G = some g → g < w.heap.size) :
    (avR G F).R (.slice (some ⟨w.heap.size, 0, none⟩) n n) (w.alloc (.cells (tcells vs).toArray t)) := by
  subst hn
  refine ⟨some ⟨w.heap.size, 0, none⟩, Tm.len F, rfl, ?_⟩
  have hl := Vals.len vs F hv
  have hb := alloc_new w (.cells (tcells vs).toArray t)
  have hs : (w.alloc (.cells (tcells vs).toArray t)).heap.size = w.heap.size + 1 := World.size_alloc _ _
  rw [hs]
  have hv' : Vals (fun b => b < w.heap.size + 1 ∧ G ≠ some b) (w.alloc (.cells (tcells vs).toArray t)) vs F := Vals.mono (fun b h => ⟨Nat.lt_succ_of_lt h.1, h.2⟩) vs F (Vals.keep (fun b h => Below.heap_alloc w _ b h.1) vs F hv)
  have := Vals.args (b := w.heap.size) (o := 0) (S := fun b => b < w.heap.size + 1 ∧ G ≠ some b) ⟨by omega, fun e => by have := hG _ e; omega⟩ hv' (by omega) (fun j u hu => by
    rw [Nat.zero_add]
    rw [cell_of_row _ _ _ _ _ _ hb]
    simpa using hu)
  rw [hl] at this
  exact this
section
variable {ops : Array Oper} {Q : Exit → Act → World → Prop} {E : Nat → Kd} {D : Nat → Nat} {base : Nat → Option Kd} {N : Nat}
theorem Opd.av {i : Nat} {x : Operand} {F : Fo} {wz : World} {G : Option Nat} (hG : ∀ g, G = some g → wz.heap.size ≤ g) (h : Opd ops E D base N i x (.sat (oldP (.row F) wz))) : Opd ops E D base N i x (.sat (avR G F)) := fun a w hc => by
  obtain ⟨⟨A, c, e, ha⟩, hb⟩ := h a w hc
  exact ⟨A, c, e, (ha.below hb (Nat.le_refl _)).mono fun b (hb' : b < wz.heap.size) => ⟨Nat.lt_of_lt_of_le hb' hb.size, fun e => by have := hG _ e; omega⟩⟩
theorem step_row_at_av {i : Nat} {x y : Operand} {F l r : Fo} {k : Nat} {p : Pay} {G : Option Nat} (hop : (ops[i]?).map (·.op) = some (.indexAddr 22 x y)) (hx : Opd ops E D base N i x (.sat (avR G F))) (hy : Opd ops E D base N i y (.val (.int .i64 (k : Int)))) (hd : Tm.dropF F k = .node p l r) (hE : E i = .sat (avPt G p l)) : Step Tryd.prog ops Q E D base N i :=
  step_still hop hE fun a w h dst ty' pos after guard => by
    obtain ⟨A, c, e, ha⟩ := hx a w h
    have e' : a.eval y = .int .i64 (k : Int) := hy a w h
    have hk : k < Tm.len F := by
      have h1 := Tm.len_drop F k
      rw [hd] at h1
      have h2 : Tm.len (Fo.node p l r) = Tm.len r + 1 := rfl
      omega
    obtain ⟨b, o, p1, l1, r1, A1, c1, rfl, hb, hd', hn⟩ := ha.at hk
    rw [hd] at hd'
    cases hd'
    refine ⟨.pointer (some ⟨b, o + k * 4, none⟩), ?_, b, o + k * 4, A1, c1, rfl, hb.1, hn⟩
    generalize Tm.len F = n at e hk
    unfold execOp
    simp only [e, e']
    go_simp
theorem step_load_av {i : Nat} {x : Operand} {p : Pay} {l : Fo} {G : Option Nat} (hop : (ops[i]?).map (·.op) = some (.load 24 x)) (hx : Opd ops E D base N i x (.sat (avPt G p l))) (hE : E i = .sat (avT G p l)) : Step Tryd.prog ops Q E D base N i :=
  step_still hop hE fun a w h dst ty' pos after guard => by
    obtain ⟨b, o, A, c, e, hb, hn⟩ := hx a w h
    refine ⟨tv p A (Tm.len l) c, ?_, A, c, rfl, hn.inn⟩
    have h0 := hn.kind
    have h1 := hn.num
    have h2 := hn.name
    have h3 := hn.args
    generalize Tm.len l = n at h3
    unfold execOp
    simp only [e]
    go_simp
theorem step_n_av {i : Nat} {x : Operand} {n : Int} {G : Option Nat} (hop : (ops[i]?).map (·.op) = some (.call { callee := .value (.func 34), args := #[x], argTypes := #[2] })) (hx : Opd ops E D base N i x (.val (.int .i64 n))) (hE : E i = .sat (avT G (1, n, ByteArray.empty) .nil)) : Step Tryd.prog ops Q E D base N i :=
  step_call hop (fun _ _ => by kernel_rfl) fun a w h => by
    have ex : a.eval x = .int .i64 n := hx a w h
    rw [show (#[x] : Array Operand).map a.eval = #[.int .i64 n] by rw [← ex]; simp]
    exact (n_any n w).mono fun e w' ⟨he, hb⟩ => ⟨_, he, by rw [hE]; exact ⟨none, 0, rfl, ArgsIn.nil _ _ _⟩, hb⟩
theorem step_f_av {i : Nat} {x y : Operand} {s : ByteArray} {F : Fo} {G : Option Nat} (hop : (ops[i]?).map (·.op) = some (.call { callee := .value (.func 33), args := #[x, y], argTypes := #[9, 22] })) (hx : Opd ops E D base N i x (.val (.string s))) (hy : Opd ops E D base N i y (.sat (avR G F))) (hE : E i = .sat (avT G (3, 0, s) F)) : Step Tryd.prog ops Q E D base N i :=
  step_call hop (fun _ _ => by kernel_rfl) fun a w h => by
    have ex : a.eval x = .string s := hx a w h
    obtain ⟨A, c, ey, ha⟩ := hy a w h
    rw [show (#[x, y] : Array Operand).map a.eval = #[.string s, .slice A (Tm.len F) c] by rw [← ex, ← ey]; simp]
    exact (f_any s A (Tm.len F) c w).mono fun e w' ⟨he, hb⟩ => ⟨_, he, by rw [hE]; exact ⟨A, c, rfl, ((avR G F).keep (.slice A (Tm.len F) c) w w' ⟨A, c, rfl, ha⟩ hb).choose_spec.choose_spec.2 |> fun h => by
      have := (avR G F).keep (.slice A (Tm.len F) c) w w' ⟨A, c, rfl, ha⟩ hb
      obtain ⟨A2, c2, e2, h2⟩ := this
      cases e2
      exact h2⟩, hb⟩
theorem step_slice1_av {i ss : Nat} {x0 : Operand} {p0 : Pay} {l0 : Fo} {G : Option Nat} (hop : (ops[i]?).map (·.op) = some (.buildSlice 22 1 #[(0, x0)])) (h0 : Opd ops E D base N i x0 (.sat (avT G p0 l0))) (hG : Opd ops E D base N i (.tmp ss) (.sat (ltG G))) (hE : E i = .sat (avR G (.node p0 l0 .nil))) : Step Tryd.prog ops Q E D base N i := by
  intro o ho a w hc K hK
  have hxo := op_of ho hop
  obtain ⟨dst, op, ty, pos, after, guard⟩ := o
  have hx' : op = _ := hxo
  subst hx'
  obtain ⟨A0, c0, e0, ha0⟩ := h0 a w hc
  have hv : Vals (fun b => b < w.heap.size ∧ G ≠ some b) w [tv p0 A0 (Tm.len l0) c0] (.node p0 l0 .nil) := ⟨⟨A0, c0, rfl, ha0⟩, trivial⟩
  have hr := row_newS (S := fun _ => True) _ _ 1 24 G hv rfl (by decide) (hG a w hc)
  have hrun : (execOp a.eval ⟨dst, .buildSlice 22 1 #[(0, x0)], ty, pos, after, guard⟩).run Tryd.prog w = .ok (.value (.slice (some ⟨w.heap.size, 0, none⟩) 1 1)) (w.alloc (.cells (tcells [tv p0 A0 (Tm.len l0) c0]).toArray 24)) := by
    unfold execOp
    simp only [List.map_toArray, List.map_cons, List.map_nil, e0]
    go_simp
    rfl
  unfold Oper.wp
  rw [hrun]
  exact hK _ _ (by rw [hE]; exact hr) ((Below.refl _ _).alloc (Nat.le_refl _) _)
theorem step_slice2_av {i ss : Nat} {x0 x1 : Operand} {p0 p1 : Pay} {l0 l1 : Fo} {G : Option Nat} (hop : (ops[i]?).map (·.op) = some (.buildSlice 22 2 #[(0, x0), (1, x1)])) (h0 : Opd ops E D base N i x0 (.sat (avT G p0 l0))) (h1 : Opd ops E D base N i x1 (.sat (avT G p1 l1))) (hG : Opd ops E D base N i (.tmp ss) (.sat (ltG G))) (hE : E i = .sat (avR G (.node p0 l0 (.node p1 l1 .nil)))) : Step Tryd.prog ops Q E D base N i := by
  intro o ho a w hc K hK
  have hxo := op_of ho hop
  obtain ⟨dst, op, ty, pos, after, guard⟩ := o
  have hx' : op = _ := hxo
  subst hx'
  obtain ⟨A0, c0, e0, ha0⟩ := h0 a w hc
  obtain ⟨A1, c1, e1, ha1⟩ := h1 a w hc
  have hv : Vals (fun b => b < w.heap.size ∧ G ≠ some b) w [tv p0 A0 (Tm.len l0) c0, tv p1 A1 (Tm.len l1) c1] (.node p0 l0 (.node p1 l1 .nil)) := ⟨⟨A0, c0, rfl, ha0⟩, ⟨A1, c1, rfl, ha1⟩, trivial⟩
  have hr := row_newS (S := fun _ => True) _ _ 2 24 G hv rfl (by decide) (hG a w hc)
  have hrun : (execOp a.eval ⟨dst, .buildSlice 22 2 #[(0, x0), (1, x1)], ty, pos, after, guard⟩).run Tryd.prog w = .ok (.value (.slice (some ⟨w.heap.size, 0, none⟩) 2 2)) (w.alloc (.cells (tcells [tv p0 A0 (Tm.len l0) c0, tv p1 A1 (Tm.len l1) c1]).toArray 24)) := by
    unfold execOp
    simp only [List.map_toArray, List.map_cons, List.map_nil, e0, e1]
    go_simp
    rfl
  unfold Oper.wp
  rw [hrun]
  exact hK _ _ (by rw [hE]; exact hr) ((Below.refl _ _).alloc (Nat.le_refl _) _)
theorem step_ge_int64 {i : Nat} {x y : Operand} {m n : Int} {b : Bool} (hop : (ops[i]?).map (·.op) = some (.binOp .geq 2 x y 2)) (hx : Opd ops E D base N i x (.val (.int .i64 m))) (hy : Opd ops E D base N i y (.val (.int .i64 n))) (hb : (decide (n ≤ m)) = b) (hE : E i = .val (.bool b)) : Step Tryd.prog ops Q E D base N i :=
  step_still hop hE fun a w h dst ty' pos after guard => by
    have e : a.eval x = .int .i64 m := hx a w h
    have e' : a.eval y = .int .i64 n := hy a w h
    refine ⟨.bool b, ?_, rfl⟩
    rw [← hb]
    unfold execOp
    simp only [e, e']
    go_simp
end
theorem wp_append_terms {o : Oper} {a : Act} {Q : Exit → Act → World → Prop} {K : Act → World → Prop} {w : World} (s x : Operand) (ho : o.op = .call { callee := .builtin .append, args := #[s, x], argTypes := #[22, 22] })
    {N : Nat} {A0 : Option Addr} {n c0 : Nat} {F : Fo} (h : OwnR N w A0 n c0 F) (hs : a.eval s = .slice A0 n c0) {A : Option Addr} {m c : Nat} {G : Fo} (hx : a.eval x = .slice A m c)
    (hA : ArgsIn (fun b => b < w.heap.size ∧ (Value.slice A0 n c0).ownBlock ≠ some b) w A m G) (hb : n + m ≤ 100000)
    (hk : ∀ A' c' w', OwnR N w' A' (n + m) c' (Tm.app F G) → Below N w w' → (∀ b, b < w.heap.size → (Value.slice A0 n c0).ownBlock ≠ some b → w'.heap[b]? = w.heap[b]?) → K (a.put o.dst (.slice A' (n + m) c')) w') : o.wp Tryd.prog a w K Q := by
  obtain ⟨A', c', w', hr, h1, h2, h3⟩ := append_terms h hA hb o.type
  unfold Oper.wp
  simp [execOp, ho, resolve, invoke, builtin, hs, hx, Result.andThen]
  rw [hr]
  exact hk A' c' w' h1 h2 h3
end Go.Proofs.YtcjakmafojbhlaaDoor
namespace Go.Proofs.YtcjakmafojbhlaaDoor
set_option linter.unusedVariables false
set_option linter.unusedSimpArgs false
open Go.RowKit
section
variable {ops : Array Oper} {Q : Exit → Act → World → Prop}
theorem any_inv (m : Nat) (hm : m ≤ ops.size) (hlate : lateB ops m [] = true) (hed : edgesB ops = true) (I : (Nat → Bool) → Act → World → Prop)
    (hstep : ∀ (L : Nat → Bool) (a : Act) (w : World) (i : Nat) (o : Oper), i < m → ops[i]? = some o → L i = false → (∀ e ∈ o.after, Region.binds .any e = true → L e.on = true) → I L a w → wpOp Tryd.prog ops Q i (fun a' w' => I (fun j => if j = i then true else L j) a' w') a w)
    (hQ : ∀ (L : Nat → Bool) (a : Act) (w : World), (∀ j, j < m → L j = true) → I L a w → wpOps Tryd.prog ops Q (List.range' m (ops.size - m)) a w) :
    ∀ (fuel : Nat) (listed : Array Bool) (a : Act) (w : World), cnt ops.size listed ≤ fuel → listed.size = ops.size → Closed ops listed → (∀ j, m ≤ j → listed.getD j false = false) → I (fun j => listed.getD j false) a w → wpAny Tryd.prog .any ops Q fuel listed a w := by
  intro fuel
  induction fuel with
  | zero =>
    intro listed a w hc hl hcl hno st
    by_cases hfull : ∀ j, j < m → listed.getD j false = true
    · exact any_chain hlate hed (ops.size - m) m 0 listed a w (by omega) (Nat.le_refl _) hl hcl hfull hno (fun i h => by cases h) hc (hQ _ a w hfull st)
    · exfalso
      apply hfull
      intro j hj
      cases hb : listed.getD j false with
      | true => rfl
      | false =>
        have := cnt_pos (n := ops.size) (i := j) (listed := listed) (by omega) (by rw [getD_true_of_lt (by omega)]; exact hb)
        omega
  | succ fuel ih =>
    intro listed a w hc hl hcl hno st
    by_cases hfull : ∀ j, j < m → listed.getD j false = true
    · exact any_chain hlate hed (ops.size - m) m (fuel + 1) listed a w (by omega) (Nat.le_refl _) hl hcl hfull hno (fun i h => by cases h) hc (hQ _ a w hfull st)
    have hready : ∀ i, i ∈ Region.ready .any ops listed → i < m := by
      intro i hi
      rcases Nat.lt_or_ge i m with h | h
      · exact h
      · exfalso
        apply hfull
        intro j hj
        obtain ⟨hun, o, ho, hd⟩ := mem_ready.1 hi
        have hil : i < ops.size := (Array.getElem?_eq_some_iff.1 ho).1
        rcases lateB_spec hlate hil h (show j < i by omega) with h3 | h3
        · cases h3
        · exact waits_spec hcl 12 i j o ho hd h3
    have hsome : Region.ready .any ops listed ≠ [] := by
      intro hr
      apply hfull
      intro j
      induction j using Nat.strongRecOn with
      | ind j ihj =>
        intro hj
        cases hb : listed.getD j false with
        | true => rfl
        | false =>
          exfalso
          have ho : ops[j]? = some ops[j] := Array.getElem?_eq_getElem (by omega)
          have hmem : j ∈ Region.ready .any ops listed := mem_ready.2 ⟨by rw [getD_true_of_lt (by omega)]; exact hb, ops[j], ho, fun e he hbind => by
            have h1 := edgesB_spec hed ho e he hbind
            exact ihj e.on h1 (Nat.lt_trans h1 hj)⟩
          rw [hr] at hmem
          cases hmem
    refine ⟨fun hr => absurd hr hsome, fun i hi => ?_⟩
    have him := hready i hi
    obtain ⟨hun, o, ho, hdep⟩ := mem_ready.1 hi
    have hlt : i < ops.size := (Array.getElem?_eq_some_iff.1 ho).1
    have hif : listed.getD i false = false := by rw [← getD_true_of_lt (by omega)]; exact hun
    refine wpOp_mono (fun a' w' h => ih _ a' w' (by have := cnt_set hlt hl hun; omega) (by simpa using hl) (closed_set hcl hi) (fun j hj => by rw [getD_set_ne false (by omega)]; exact hno j hj) ?_) (hstep (fun j => listed.getD j false) a w i o him ho hif hdep st)
    have he : (fun j => if j = i then true else listed.getD j false) = fun j => (listed.setIfInBounds i true).getD j false := by
      funext j
      by_cases hji : j = i
      · subst hji
        have : j < listed.size := by omega
        simp [this]
      · rw [if_neg hji, getD_set_ne false (Ne.symm hji)]
    rw [← he]
    exact h
/-- A region that draws its order, by an invariant. -/
theorem region_inv {id n m : Nat} {a : Act} {w : World} (hn : ops.size = n) (hm : m ≤ n) (hlate : lateB ops m [] = true) (hed : edgesB ops = true) (I : (Nat → Bool) → Act → World → Prop)
    (h0 : I (fun _ => false) a { w with drawn := w.drawn + 1 })
    (hstep : ∀ (L : Nat → Bool) (a : Act) (w : World) (i : Nat) (o : Oper), i < m → ops[i]? = some o → L i = false → (∀ e ∈ o.after, Region.binds .any e = true → L e.on = true) → I L a w → wpOp Tryd.prog ops Q i (fun a' w' => I (fun j => if j = i then true else L j) a' w') a w)
    (hQ : ∀ (L : Nat → Bool) (a : Act) (w : World), (∀ j, j < m → L j = true) → I L a w → wpOps Tryd.prog ops Q (List.range' m (n - m)) a w) : (Code.region id ops true).wp Tryd.prog Q a w := by
  subst hn
  refine wp_region_any (by kernel_rfl) (any_inv m hm hlate hed I hstep hQ ops.size _ a _ ?_ (by simp) (closed_none _) (fun j _ => none_listed _ j) ?_)
  · unfold cnt
    exact Nat.le_trans (List.countP_le_length) (by simp)
  · have he : (fun j => (Array.replicate ops.size false).getD j false) = fun _ => false := by funext j; exact none_listed _ j
    rw [he]
    exact h0
/-- An operation that has no guard. -/
theorem wpOp_one {i : Nat} {o : Oper} {K : Act → World → Prop} {a : Act} {w : World} (ho : ops[i]? = some o) (hg : o.guard = none) (h : o.wp Tryd.prog a w K Q) : wpOp Tryd.prog ops Q i K a w := by
  unfold wpOp
  rw [ho]
  simp only [wanted_free hg, if_true]
  exact .inl h
end
end Go.Proofs.YtcjakmafojbhlaaDoor
namespace Go.Proofs.YtcjakmafojbhlaaDoor
set_option linter.unusedVariables false
set_option linter.unusedSimpArgs false
open Go.RowKit

/-- Blocks from N to M, that can be written. -/
def Bt (N M : Nat) (w : World) (b : Nat) : Prop := N ≤ b ∧ b < M ∧ SoftB w b
/-- A row with all that it leads to between N and M; its own block apart. -/
structure Rng (N M : Nat) (F : Fo) (w : World) (A : Option Addr) : Prop where
  le : M ≤ w.heap.size
  args : ArgsIn (Bt N M w) w A (Tm.len F) F
  row : 0 < Tm.len F → ∃ g, A = some ⟨g, 0, none⟩ ∧ Bt N M w g ∧ RowIn (fun b => Bt N M w b ∧ b ≠ g) w F g 0
theorem Rng.keep {N M : Nat} {F : Fo} {w w' : World} {A : Option Addr} (h : Rng N M F w A) (hs : w.heap.size ≤ w'.heap.size) (hk : ∀ b, N ≤ b → b < M → w'.heap[b]? = w.heap[b]?) : Rng N M F w' A := by
  have hb : ∀ b, Bt N M w b → Bt N M w' b := fun b hb => ⟨hb.1, hb.2.1, hb.2.2.same (hk b hb.1 hb.2.1)⟩
  refine ⟨Nat.le_trans h.le hs, (h.args.keep fun b hb => hk b hb.1 hb.2.1).mono hb, fun h0 => ?_⟩
  obtain ⟨g, e, hg, hr⟩ := h.row h0
  refine ⟨g, e, hb g hg, ?_⟩
  have hrow : ∀ (F : Fo) (o : Nat), RowIn (fun b => Bt N M w b ∧ b ≠ g) w F g o → RowIn (fun b => Bt N M w' b ∧ b ≠ g) w' F g o := by
    intro F
    induction F with
    | nil => intro o _; trivial
    | node p l r _ ih =>
      rintro o ⟨h3, h4, h5, ⟨A1, c1, h6, hle, h7⟩, h8⟩
      have hc : ∀ i, w'.cell? ⟨g, i, none⟩ = w.cell? ⟨g, i, none⟩ := fun i => cell_of_block (hk g hg.1 hg.2.1)
      refine ⟨(hc _).trans h3, (hc _).trans h4, (hc _).trans h5, ⟨A1, c1, (hc _).trans h6, hle, fun h => ?_⟩, ih _ h8⟩
      obtain ⟨b1, o1, e, hb1, hr1⟩ := h7 h
      exact ⟨b1, o1, e, ⟨hb b1 hb1.1, hb1.2⟩, RowIn.mono (fun b hb' => ⟨hb b hb'.1, hb'.2⟩) _ _ _ (RowIn.keep (fun b hb' => hk b hb'.1.1 hb'.1.2.1) l b1 o1 hb1 hr1)⟩
  exact hrow F 0 hr
theorem Rng.mono {N N' M M' : Nat} {F : Fo} {w : World} {A : Option Addr} (h : Rng N M F w A) (hN : N' ≤ N) (hM : M ≤ M') (hs : M' ≤ w.heap.size) : Rng N' M' F w A := by
  have hb : ∀ b, Bt N M w b → Bt N' M' w b := fun b hb => ⟨Nat.le_trans hN hb.1, Nat.lt_of_lt_of_le hb.2.1 hM, hb.2.2⟩
  refine ⟨hs, h.args.mono hb, fun h0 => ?_⟩
  obtain ⟨g, e, hg, hr⟩ := h.row h0
  exact ⟨g, e, hb g hg, RowIn.mono (fun b hb' => ⟨hb b hb'.1, hb'.2⟩) _ _ _ hr⟩
/-- What spoil has done up to the element i of the row in block g. -/
structure Spo (N M g n : Nat) (w w' : World) (i : Nat) : Prop where
  only : Only (fun b => N ≤ b ∧ b < M) w w'
  some_ : ∀ p, (w.cell? p).isSome = true → (w'.cell? p).isSome = true
  soft : ∀ p, w'.frozen? p = w.frozen? p
  args : ∀ k, i ≤ k → k < n → w'.cell? ⟨g, k * 4 + 3, none⟩ = w.cell? ⟨g, k * 4 + 3, none⟩
theorem some_setCell {w : World} {p q : Addr} {v : Value} (h : (w.cell? q).isSome = true) : ((w.setCell p v).cell? q).isSome = true := by
  by_cases e : p = q
  · subst e
    rw [World.cell?_setCell_same' _ _ _ h]
    rfl
  · rw [World.cell?_setCell_other _ _ _ _ e]
    exact h
theorem some_set4 {w : World} {b o : Nat} {p : Pay} {A : Option Addr} {m c : Nat} {q : Addr} (h : (w.cell? q).isSome = true) : ((set4 w b o p A m c).cell? q).isSome = true := some_setCell (some_setCell (some_setCell (some_setCell h)))
theorem Spo.start (N M g n : Nat) (w : World) : Spo N M g n w w 0 := ⟨Only.refl _ _, fun _ h => h, fun _ => rfl, fun _ _ _ => rfl⟩
theorem Spo.inner {N M g n : Nat} {w w' : World} {i : Nat} (h : Spo N M g n w w' i) {b o : Nat} {p : Pay} {A : Option Addr} {m c : Nat} (hb : N ≤ b ∧ b < M) (hg : b ≠ g) : Spo N M g n w (set4 w' b o p A m c) i :=
  ⟨set4_in _ _ _ _ _ _ h.only hb, fun q hq => some_set4 (h.some_ q hq), fun q => by rw [set4_frozen]; exact h.soft q, fun k h1 h2 => (cell_of_block (p := ⟨g, k * 4 + 3, none⟩) (set4_block _ _ _ _ _ _ _ _ (Ne.symm hg))).trans (h.args k h1 h2)⟩
theorem Spo.outer {N M g n : Nat} {w w' : World} {i : Nat} (h : Spo N M g n w w' i) {p : Pay} {A : Option Addr} {m c : Nat} (hb : N ≤ g ∧ g < M) : Spo N M g n w (set4 w' g (i * 4) p A m c) (i + 1) :=
  ⟨set4_in _ _ _ _ _ _ h.only hb, fun q hq => some_set4 (h.some_ q hq), fun q => by rw [set4_frozen]; exact h.soft q, fun k h1 h2 => (set4_far _ _ _ _ _ _ _ _ (by omega)).trans (h.args k (by omega) h2)⟩
theorem Spo.four {N M g n : Nat} {w w' : World} {i : Nat} (h : Spo N M g n w w' i) {b o : Nat} (hf : Four w b o) : Four w' b o := ⟨h.some_ _ hf.c0, h.some_ _ hf.c1, h.some_ _ hf.c2, h.some_ _ hf.c3⟩
theorem Rng.at {N M : Nat} {F : Fo} {w : World} {A : Option Addr} (h : Rng N M F w A) : ∃ g, 0 < Tm.len F → A = some ⟨g, 0, none⟩ ∧ Bt N M w g ∧ ∀ k, k < Tm.len F → Four w g (k * 4) ∧ ∃ A1 m c1, w.cell? ⟨g, k * 4 + 3, none⟩ = some (.slice A1 m c1) ∧ m ≤ 9223372036854775807 ∧
    (0 < m → ∃ b o, A1 = some ⟨b, o, none⟩ ∧ Bt N M w b ∧ b ≠ g ∧ ∀ j, j < m → Four w b (o + j * 4)) := by
  by_cases h0 : 0 < Tm.len F
  · obtain ⟨g, e, hg, hr⟩ := h.row h0
    refine ⟨g, fun _ => ⟨e, hg, fun k hk => ?_⟩⟩
    obtain ⟨p, l, r, hd⟩ := Tm.drop_at hk
    obtain ⟨A1, c1, hn⟩ := RowIn.at F g 0 k p l r hr hd
    rw [Nat.zero_add] at hn
    refine ⟨⟨by rw [hn.kind]; rfl, by rw [hn.num]; rfl, by rw [hn.name]; rfl, by rw [hn.args]; rfl⟩, A1, Tm.len l, c1, hn.args, hn.inn.hi, fun hl => ?_⟩
    obtain ⟨b, o, e1, hb, hr1⟩ := hn.inn.row hl
    refine ⟨b, o, e1, hb.1, hb.2, fun j hj => ?_⟩
    obtain ⟨p2, l2, r2, hd2⟩ := Tm.drop_at hj
    obtain ⟨A2, c2, hn2⟩ := RowIn.at l b o j p2 l2 r2 hr1 hd2
    exact ⟨by rw [hn2.kind]; rfl, by rw [hn2.num]; rfl, by rw [hn2.name]; rfl, by rw [hn2.args]; rfl⟩
  · exact ⟨0, fun h => absurd h h0⟩

set_option maxHeartbeats 4000000 in
theorem spoil_any (F : Fo) (A : Option Addr) (c N M : Nat) (w : World) (hn : Tm.len F ≤ 100000) (hR : Rng N M F w A) :
    Calls Tryd.prog 25 #[.slice A (Tm.len F) c] w fun e w' => e = .returned (.tuple #[]) ∧ Only (fun b => N ≤ b ∧ b < M) w w' := by
  obtain ⟨g, hg⟩ := hR.at
  obtain ⟨n, hnn⟩ : ∃ n, n = Tm.len F := ⟨_, rfl⟩
  rw [← hnn] at hg hn ⊢
  have HG := Lib.hid hg
  clear hg hR hnn
  go_enter Tryd.func25, Tryd.ntmps25
  go_wp2_with fail
  go_loopw [2] (fun u wr => ∃ i : Nat, i ≤ n ∧ u = .int .i64 i ∧ Spo N M g n w wr i) (fun u _ => n - (intOf u).toNat)
  case atStart => exact ⟨0, Nat.zero_le _, rfl, Spo.start _ _ _ _ _⟩
  case round =>
    obtain ⟨i, hi, rfl, hsp⟩ := hrel
    have HSP := Lib.hid hsp
    clear hsp
    by_cases hlt : i < n
    · obtain ⟨rfl, hgb, hrow⟩ := HG.out (by omega)
      obtain ⟨hf, A1, m, c1, hc, hm, hin⟩ := hrow i hlt
      have HF := Lib.hid hf
      have HC := Lib.hid hc
      have HIN := Lib.hid hin
      have HGB := Lib.hid hgb
      clear hf hc hin hgb hrow
      go_wp2_with fail
      go_loopw [3] (fun u wr2 => ∃ k : Nat, k ≤ m ∧ u = .int .i64 k ∧ Spo N M g n w wr2 i) (fun u _ => m - (intOf u).toNat)
      case atStart => exact ⟨0, Nat.zero_le _, rfl, HSP.out⟩
      case round =>
        obtain ⟨k, hk, rfl, hsp2⟩ := hrel
        have HSP2 := Lib.hid hsp2
        have y3 := (hsp2.args i (Nat.le_refl _) hlt).trans HC.out
        clear hsp2
        by_cases hkm : k < m
        · obtain ⟨b, o, rfl, hb, hbg, hfour⟩ := HIN.out (by omega)
          have h4 := HSP2.out.four (hfour k hkm)
          obtain ⟨u0, q0⟩ := Option.isSome_iff_exists.1 h4.c0
          obtain ⟨u1, q1⟩ := Option.isSome_iff_exists.1 h4.c1
          obtain ⟨u2, q2⟩ := Option.isSome_iff_exists.1 h4.c2
          obtain ⟨u3, q3⟩ := Option.isSome_iff_exists.1 h4.c3
          have z0 := (HSP2.out.soft ⟨b, o + k * 4, none⟩).trans (hb.2.2 _)
          have z1 := (HSP2.out.soft ⟨b, o + k * 4 + 1, none⟩).trans (hb.2.2 _)
          have z2 := (HSP2.out.soft ⟨b, o + k * 4 + 2, none⟩).trans (hb.2.2 _)
          have z3 := (HSP2.out.soft ⟨b, o + k * 4 + 3, none⟩).trans (hb.2.2 _)
          have hnew := HSP2.out.inner (b := b) (o := o + k * 4) (p := (7, 0, ByteArray.empty)) (A := none) (m := 0) (c := 0) ⟨hb.1, hb.2.1⟩ hbg
          have HNEW := Lib.hid hnew
          clear hnew h4 hfour hb
          go_wp2_with fail
          exact ⟨⟨k + 1, by omega, by go_num, HNEW.out⟩, by simp [intOf]; omega⟩
        · obtain rfl : k = m := by omega
          have h4 := HSP2.out.four HF.out
          obtain ⟨u0, q0⟩ := Option.isSome_iff_exists.1 h4.c0
          obtain ⟨u1, q1⟩ := Option.isSome_iff_exists.1 h4.c1
          obtain ⟨u2, q2⟩ := Option.isSome_iff_exists.1 h4.c2
          have z0 := (HSP2.out.soft ⟨g, i * 4, none⟩).trans (HGB.out.2.2 _)
          have z1 := (HSP2.out.soft ⟨g, i * 4 + 1, none⟩).trans (HGB.out.2.2 _)
          have z2 := (HSP2.out.soft ⟨g, i * 4 + 2, none⟩).trans (HGB.out.2.2 _)
          have z3 := (HSP2.out.soft ⟨g, i * 4 + 3, none⟩).trans (HGB.out.2.2 _)
          have hnew := HSP2.out.outer (p := (7, 0, ByteArray.empty)) (A := none) (m := 0) (c := 0) ⟨HGB.out.1, HGB.out.2.1⟩
          have HNEW := Lib.hid hnew
          clear hnew h4
          go_wp2_with fail
          exact ⟨⟨i + 1, by omega, by go_num, HNEW.out⟩, by simp [intOf]; omega⟩
    · obtain rfl : i = n := by omega
      go_wp2_with fail
      go_end0
      exact ⟨rfl, HSP.out.only⟩
end Go.Proofs.YtcjakmafojbhlaaDoor
namespace Go.Proofs.YtcjakmafojbhlaaDoor
set_option linter.unusedVariables false
set_option linter.unusedSimpArgs false
open Go.RowKit

/-- A row of the call's own, from N on; what its elements lead to lies below B. -/
structure OwnB (B N : Nat) (w : World) (A : Option Addr) (n c : Nat) (F : Fo) : Prop where
  own : ∃ vs, vs.length = n ∧ Vals (fun b => b < B) w vs F ∧ w.ownsRow N 24 4 (.slice A n c) n (tcells vs)
  lo : N ≤ w.heap.size
  le : B ≤ N
theorem OwnB.start {B N : Nat} {w : World} (h : N ≤ w.heap.size) (hB : B ≤ N) : OwnB B N w none 0 0 .nil := ⟨⟨[], rfl, trivial, World.ownsRow_nil w _ _ _⟩, h, hB⟩
theorem OwnB.len {B N : Nat} {w : World} {A : Option Addr} {n c : Nat} {F : Fo} (h : OwnB B N w A n c F) : Tm.len F = n := by
  obtain ⟨vs, h1, h2, _⟩ := h.own
  rw [← Vals.len vs F h2, h1]
theorem OwnB.lt {B N : Nat} {w : World} {A : Option Addr} {n c : Nat} {F : Fo} (h : OwnB B N w A n c F) {b : Nat} (hb : (Value.slice A n c).ownBlock = some b) : N ≤ b ∧ b < w.heap.size := by
  obtain ⟨vs, _, _, h3⟩ := h.own
  exact h3.lt b hb
theorem OwnB.only {B N : Nat} {w w' : World} {A : Option Addr} {n c : Nat} {F : Fo} (h : OwnB B N w A n c F) (hs : w.heap.size ≤ w'.heap.size) (hk : ∀ b, b < B ∨ (Value.slice A n c).ownBlock = some b → w'.heap[b]? = w.heap[b]?) : OwnB B N w' A n c F := by
  obtain ⟨vs, h1, h2, h3⟩ := h.own
  exact ⟨⟨vs, h1, Vals.keep (fun b hb => hk b (.inl hb)) vs F h2, ownsRow_same h3 fun g hg => hk g (.inr hg)⟩, Nat.le_trans h.lo hs, h.le⟩
theorem OwnB.below {B N : Nat} {w w' : World} {A : Option Addr} {n c : Nat} {F : Fo} (h : OwnB B N w A n c F) (hb : Below w.heap.size w w') : OwnB B N w' A n c F :=
  h.only hb.size fun b hb' => hb.block b (by rcases hb' with h1 | h1; exact Nat.lt_of_lt_of_le h1 (Nat.le_trans h.le h.lo); exact (h.lt h1).2)
/-- As a row: its own block from N on, the rest below B. -/
theorem OwnB.args {B N : Nat} {w : World} {A : Option Addr} {n c : Nat} {F : Fo} (h : OwnB B N w A n c F) (hn : n ≤ 9223372036854775807) : ArgsIn (fun b => b < w.heap.size ∧ (b < B ∨ N ≤ b)) w A n F := by
  obtain ⟨vs, h1, h2, h3⟩ := h.own
  by_cases h0 : n = 0
  · subst h0
    obtain rfl := Tm.len_zero h.len
    exact ArgsIn.nil _ _ _
  · obtain ⟨g, cap, e, hg1, hg2⟩ := h3.form (by omega)
    injection e with e1 e2 e3
    subst e1
    have hc := h3.cells (g := g) rfl
    have hlo := h.lo
    have hle := h.le
    have := Vals.args (b := g) (o := 0) (S := fun b => b < w.heap.size ∧ (b < B ∨ N ≤ b)) ⟨hg2, .inr hg1⟩ (h2.mono' fun b hb => ⟨by omega, .inl hb⟩) (by rw [h1]; exact hn) (fun j u hu => by
      have := hc j u hu
      rw [show (⟨g, 0, none⟩ : Addr).add j = ⟨g, 0 + j, none⟩ by unfold Addr.add; split <;> simp_all] at this
      exact this)
    rw [h1] at this
    exact this
/-- A row that is read: what its elements lead to lies below B. -/
structure SrcB (B : Nat) (w : World) (A : Option Addr) (n : Nat) (F : Fo) : Prop where
  len : Tm.len F = n
  row : 0 < n → ∃ b o, A = some ⟨b, o, none⟩ ∧ b < w.heap.size ∧ RowIn (fun b => b < B) w F b o
  le : B ≤ w.heap.size
theorem RowIn.at_keep {B : Nat} {w w' : World} : ∀ {F : Fo} {b o : Nat}, b < w.heap.size → Below w.heap.size w w' → B ≤ w.heap.size → RowIn (fun b => b < B) w F b o → RowIn (fun b => b < B) w' F b o
  | .nil, _, _, _, _, _, _ => trivial
  | .node p l r, b, o, hlt, hb, hB, ⟨h3, h4, h5, ⟨A, c, h6, hle, h7⟩, h8⟩ => by
    have hc : ∀ i, w'.cell? ⟨b, i, none⟩ = w.cell? ⟨b, i, none⟩ := fun i => cell_of_block (hb.block b hlt)
    refine ⟨(hc _).trans h3, (hc _).trans h4, (hc _).trans h5, ⟨A, c, (hc _).trans h6, hle, fun h => ?_⟩, RowIn.at_keep hlt hb hB h8⟩
    obtain ⟨b1, o1, e, hb1, hr⟩ := h7 h
    exact ⟨b1, o1, e, hb1, hr.keep (fun b (hb' : b < B) => hb.block b (by omega)) l b1 o1 hb1⟩
theorem SrcB.below {B : Nat} {w w' : World} {A : Option Addr} {n : Nat} {F : Fo} (h : SrcB B w A n F) (hb : Below w.heap.size w w') : SrcB B w' A n F :=
  ⟨h.len, fun h0 => by
    obtain ⟨b, o, e, hlt, hr⟩ := h.row h0
    refine ⟨b, o, e, Nat.lt_of_lt_of_le hlt hb.size, ?_⟩
    have hle := h.le
    exact RowIn.at_keep hlt hb hle hr, Nat.le_trans h.le hb.size⟩
theorem append_B {B N : Nat} {w : World} {A0 : Option Addr} {n c0 : Nat} {F : Fo} (h : OwnB B N w A0 n c0 F) {A : Option Addr} {m c : Nat} {G : Fo} (hA : SrcB B w A m G) (hb : n + m ≤ 100000) (ty : TypeId) :
    ∃ A' c' w', (Builtin.append_ #[22, 22] ty #[.slice A0 n c0, .slice A m c]).run Tryd.prog w = .ok (.slice A' (n + m) c') w' ∧ OwnB B N w' A' (n + m) c' (Tm.app F G) ∧ Below N w w' := by
  obtain ⟨i0, hi0, hz0, hz1, hz2⟩ := term_parts
  obtain ⟨vs, h1, h2, h3⟩ := h.own
  by_cases h0 : m = 0
  · subst h0
    obtain rfl := Tm.len_zero hA.len
    have hcap : n ≤ c0 := by
      rcases h3.2 with ⟨e, hn0⟩ | ⟨g, cap, cur, e, _, _, hc, _⟩
      · omega
      · cases e; exact hc
    refine ⟨A0, c0, w, ?_, by rw [Tm.app_nil, Nat.add_zero]; exact h, Below.refl _ _⟩
    rw [Nat.add_zero]
    cases A with
    | none => exact run_append_nothing w 22 22 ty 24 i0 Tryd.underlying22 hi0 A0 n c0 hcap _ (Src.ofNil w Tryd.underlying22 c)
    | some ad => exact run_append_nothing w 22 22 ty 24 i0 Tryd.underlying22 hi0 A0 n c0 hcap _ (Src.ofSlice w Tryd.underlying22 ad 0 c [] (by simp) (by simp) (by simp))
  · obtain ⟨bk, of, rfl, hbk, hrow⟩ := hA.row (by omega)
    obtain ⟨us, hu, hcu⟩ := RowIn.vals G bk of hrow
    have hul : us.length = m := by rw [Vals.len us G hu, hA.len]
    have hlo := h.lo
    have hle := h.le
    obtain ⟨g, cap, w', hr, hown, hgrow, hat, hlt⟩ := run_append_lies (P := Tryd.prog) (w := w) 22 ty N 24 i0 (tv zp none 0 0) 4 56 Tryd.underlying22 hi0 hz0 hz1 hz2 rfl (by decide) (.slice A0 n c0) n (tcells vs) h3 ⟨bk, of, none⟩ m c (tcells us)
      (by rw [Vals.tcells_len us G hu, hul]) (fun j u hj => by
        rw [show (⟨bk, of, none⟩ : Addr).add j = ⟨bk, of + j, none⟩ by unfold Addr.add; split <;> simp_all]
        exact hcu j u hj) (Vals.one us G hu) (by omega) (Nat.le_trans hb (by decide)) (by omega) h.lo w.heap.size rfl
    have hbl : ∀ b, b < N → w'.heap[b]? = w.heap[b]? := fun b hb' => hgrow.block b (by omega) fun e => by have := h3.lt b e.symm; omega
    refine ⟨some ⟨g, 0, none⟩, cap, w', hr, ⟨⟨vs ++ us, by rw [List.length_append, h1, hul], ?_, by rw [tcells_app]; exact hown⟩, Nat.le_trans h.lo hgrow.size, h.le⟩, ⟨hgrow.os, hgrow.tape, hgrow.output, hgrow.size, hbl⟩⟩
    exact Vals.app vs us F G (Vals.keep (fun b (hb' : b < B) => hbl b (by omega)) vs F h2) (Vals.keep (fun b (hb' : b < B) => hbl b (by omega)) us G hu)
theorem wp_append_B {o : Oper} {a : Act} {Q : Exit → Act → World → Prop} {K : Act → World → Prop} {w : World} (s x : Operand) (ho : o.op = .call { callee := .builtin .append, args := #[s, x], argTypes := #[22, 22] })
    {B N : Nat} {A0 : Option Addr} {n c0 : Nat} {F : Fo} (h : OwnB B N w A0 n c0 F) (hs : a.eval s = .slice A0 n c0) {A : Option Addr} {m c : Nat} {G : Fo} (hx : a.eval x = .slice A m c)
    (hA : SrcB B w A m G) (hb : n + m ≤ 100000) (hk : ∀ A' c' w', OwnB B N w' A' (n + m) c' (Tm.app F G) → Below N w w' → K (a.put o.dst (.slice A' (n + m) c')) w') : o.wp Tryd.prog a w K Q := by
  obtain ⟨A', c', w', hr, h1, h2⟩ := append_B h hA hb o.type
  unfold Oper.wp
  simp [execOp, ho, resolve, invoke, builtin, hs, hx, Result.andThen]
  rw [hr]
  exact hk A' c' w' h1 h2
/-! ### kinds -/
def bT (B : Nat) (p : Pay) (l : Fo) : Pd where
  R := fun v w => ∃ A c, v = tv p A (Tm.len l) c ∧ ArgsB w B A (Tm.len l) l ∧ B ≤ w.heap.size
  keep := by
    rintro v w w' ⟨A, c, e, h, hB⟩ hb
    exact ⟨A, c, e, h.below hb hB, Nat.le_trans hB hb.size⟩
def bPt (B : Nat) (p : Pay) (l : Fo) : Pd where
  R := fun v w => ∃ b o A c, v = .pointer (some ⟨b, o, none⟩) ∧ b < w.heap.size ∧ B ≤ w.heap.size ∧ NodeAt (fun b => b < B) w b o p l A c
  keep := by
    rintro v w w' ⟨b, o, A, c, e, hlt, hB, hn⟩ hb
    exact ⟨b, o, A, c, e, Nat.lt_of_lt_of_le hlt hb.size, Nat.le_trans hB hb.size, hn.keep (hb.block _ hlt) (fun b (hb' : b < B) => hb.block b (by omega)) (fun b h => h)⟩
def bR (B : Nat) (F : Fo) : Pd where
  R := fun v w => ∃ A c, v = .slice A (Tm.len F) c ∧ SrcB B w A (Tm.len F) F
  keep := by
    rintro v w w' ⟨A, c, e, h⟩ hb
    exact ⟨A, c, e, h.below hb⟩
section
variable {ops : Array Oper} {Q : Exit → Act → World → Prop} {E : Nat → Kd} {D : Nat → Nat} {base : Nat → Option Kd} {N : Nat}
theorem step_load_cellT {i : Nat} {x : Operand} {pc : Nat} {v : Value} {A : Option Addr} {n c : Nat} (hv : v = .slice A n c) (hop : (ops[i]?).map (·.op) = some (.load 22 x)) (hx : Opd ops E D base N i x (.sat (cellP pc v))) (hE : E i = .val v) : Step Tryd.prog ops Q E D base N i :=
  step_still hop hE fun a w h dst ty' pos after guard => by
    subst hv
    obtain ⟨e, hlt, hc⟩ := hx a w h
    refine ⟨.slice A n c, ?_, rfl⟩
    unfold execOp
    simp only [e]
    go_simp
theorem step_load_cellI {i : Nat} {x : Operand} {pc : Nat} {n : Int} (hop : (ops[i]?).map (·.op) = some (.load 3 x)) (hx : Opd ops E D base N i x (.sat (cellP pc (.int .i64 n)))) (hE : E i = .val (.int .i64 n)) : Step Tryd.prog ops Q E D base N i :=
  step_still hop hE fun a w h dst ty' pos after guard => by
    obtain ⟨e, hlt, hc⟩ := hx a w h
    refine ⟨.int .i64 n, ?_, rfl⟩
    unfold execOp
    simp only [e]
    go_simp
theorem step_box_b {i : Nat} {x : Operand} {B : Nat} {p : Pay} {l : Fo} (hop : (ops[i]?).map (·.op) = some (.box 24 x)) (hx : Opd ops E D base N i x (.sat (bT B p l))) (hE : E i = .sat (bPt B p l)) : Step Tryd.prog ops Q E D base N i := by
  intro o ho a w hc K hK
  have hxo := op_of ho hop
  obtain ⟨dst, op, ty, pos, after, guard⟩ := o
  have hx' : op = _ := hxo
  subst hx'
  obtain ⟨A, c, e, ha, hB⟩ := hx a w hc
  have ht := TermAt.new w p A (Tm.len l) c 24
  have hrun : (execOp a.eval ⟨dst, .box 24 x, ty, pos, after, guard⟩).run Tryd.prog w = .ok (.value (.pointer (some ⟨w.heap.size, 0, none⟩))) (w.alloc (.cells #[.int .i64 p.1, .int .i64 p.2.1, .string p.2.2, .slice A (Tm.len l) c] 24)) := by
    generalize Tm.len l = n at e
    unfold execOp
    simp only [e]
    go_simp
  unfold Oper.wp
  rw [hrun]
  have hb : Below w.heap.size w (w.alloc (.cells #[.int .i64 p.1, .int .i64 p.2.1, .string p.2.2, .slice A (Tm.len l) c] 24)) := (Below.refl _ _).alloc (Nat.le_refl _) _
  refine hK _ _ ?_ hb
  rw [hE]
  exact ⟨w.heap.size, 0, A, c, rfl, by rw [World.size_alloc]; omega, by rw [World.size_alloc]; omega, ht.kind, ht.num, ht.name, ht.args, ha.below hb hB⟩
theorem step_load_b {i : Nat} {x : Operand} {B : Nat} {p : Pay} {l : Fo} (hop : (ops[i]?).map (·.op) = some (.load 24 x)) (hx : Opd ops E D base N i x (.sat (bPt B p l))) (hE : E i = .sat (bT B p l)) : Step Tryd.prog ops Q E D base N i :=
  step_still hop hE fun a w h dst ty' pos after guard => by
    obtain ⟨b, o, A, c, e, hb, hB, hn⟩ := hx a w h
    refine ⟨tv p A (Tm.len l) c, ?_, A, c, rfl, hn.inn, hB⟩
    have h0 := hn.kind
    have h1 := hn.num
    have h2 := hn.name
    have h3 := hn.args
    generalize Tm.len l = n at h3
    unfold execOp
    simp only [e]
    go_simp
theorem step_slice1_b {i : Nat} {x0 : Operand} {B : Nat} {p0 : Pay} {l0 : Fo} (hop : (ops[i]?).map (·.op) = some (.buildSlice 22 1 #[(0, x0)])) (h0 : Opd ops E D base N i x0 (.sat (bT B p0 l0))) (hE : E i = .sat (bR B (.node p0 l0 .nil))) : Step Tryd.prog ops Q E D base N i := by
  intro o ho a w hc K hK
  have hxo := op_of ho hop
  obtain ⟨dst, op, ty, pos, after, guard⟩ := o
  have hx' : op = _ := hxo
  subst hx'
  obtain ⟨A0, c0, e0, ha0, hB⟩ := h0 a w hc
  have hrun : (execOp a.eval ⟨dst, .buildSlice 22 1 #[(0, x0)], ty, pos, after, guard⟩).run Tryd.prog w = .ok (.value (.slice (some ⟨w.heap.size, 0, none⟩) 1 1)) (w.alloc (.cells #[.int .i64 p0.1, .int .i64 p0.2.1, .string p0.2.2, .slice A0 (Tm.len l0) c0] 24)) := by
    unfold execOp
    simp only [List.map_toArray, List.map_cons, List.map_nil, e0]
    go_simp
  have ht := TermAt.new w p0 A0 (Tm.len l0) c0 24
  have hb : Below w.heap.size w (w.alloc (.cells #[.int .i64 p0.1, .int .i64 p0.2.1, .string p0.2.2, .slice A0 (Tm.len l0) c0] 24)) := (Below.refl _ _).alloc (Nat.le_refl _) _
  have ha := ha0.below hb hB
  unfold Oper.wp
  rw [hrun]
  refine hK _ _ ?_ hb
  rw [hE]
  exact ⟨some ⟨w.heap.size, 0, none⟩, 1, rfl, rfl, fun _ => ⟨w.heap.size, 0, rfl, by rw [World.size_alloc]; omega, ht.kind, ht.num, ht.name, ⟨A0, c0, ht.args, ha.hi, ha.row⟩, trivial⟩, by rw [World.size_alloc]; omega⟩
end
/-! ### slices of a row -/
theorem run_slice_to {a : Act} {x y : Operand} {dst : Option Tmp} {ty : TypeId} {pos : String} {after : Array Edge} {guard : Option (Nat × Bool)} (w : World) (A : Option Addr) (n c i : Nat) (hx : a.eval x = .slice A n c) (hy : a.eval y = .int .i64 (i : Int)) (hi : i ≤ n) (hn : n ≤ c) (hA : A = none → c = 0) (hc : c ≤ 9223372036854775807) :
    (execOp a.eval ⟨dst, .slice 22 x none (some y) none, ty, pos, after, guard⟩).run Tryd.prog w = .ok (.value (.slice A i c)) w := by
  cases A with
  | none =>
    obtain rfl := hA rfl
    obtain rfl : n = 0 := by omega
    obtain rfl : i = 0 := by omega
    unfold execOp
    simp only [hx, hy, Option.map]
    go_simp
  | some ad =>
    unfold execOp
    simp only [hx, hy, Option.map]
    go_simp
    intro h
    omega
theorem run_slice_from {a : Act} {x y : Operand} {dst : Option Tmp} {ty : TypeId} {pos : String} {after : Array Edge} {guard : Option (Nat × Bool)} (w : World) (A : Option Addr) (n c i : Nat) (hx : a.eval x = .slice A n c) (hy : a.eval y = .int .i64 (i : Int)) (hi : i ≤ n) (hn : n ≤ c) (hA : A = none → c = 0) (hA2 : ∀ ad, A = some ad → ad.spot = none) (hc : c ≤ 9223372036854775807) :
    ∃ A', (execOp a.eval ⟨dst, .slice 22 x (some y) none none, ty, pos, after, guard⟩).run Tryd.prog w = .ok (.value (.slice A' (n - i) (c - i))) w ∧ (i < n → ∀ b o, A = some ⟨b, o, none⟩ → A' = some ⟨b, o + i * 4, none⟩) := by
  cases A with
  | none =>
    obtain rfl := hA rfl
    obtain rfl : n = 0 := by omega
    obtain rfl : i = 0 := by omega
    refine ⟨none, ?_, fun h => by omega⟩
    unfold execOp
    simp only [hx, hy, Option.map]
    go_simp
  | some ad =>
    obtain ⟨b, o, spot⟩ := ad
    have hsp := hA2 _ rfl
    have hsp' : spot = none := hsp
    subst hsp'
    by_cases hic : i = c
    · subst hic
      refine ⟨some ⟨b, o, none⟩, ?_, fun h => by omega⟩
      obtain rfl : n = i := by omega
      unfold execOp
      simp only [hx, hy, Option.map]
      go_simp
    · refine ⟨some ⟨b, o + i * 4, none⟩, ?_, fun h b' o' e => by cases e; rfl⟩
      have h1 : i < c := by omega
      unfold execOp
      simp only [hx, hy, Option.map]
      go_simp
      intro h
      omega
end Go.Proofs.YtcjakmafojbhlaaDoor
namespace Go.Proofs.YtcjakmafojbhlaaDoor
set_option linter.unusedVariables false
set_option linter.unusedSimpArgs false
open Go.RowKit
noncomputable def bd0Ops : Array Oper := ((Tryd.f29.body).bind (findReg 0)).getD #[]
noncomputable def bd1Ops : Array Oper := ((Tryd.f29.body).bind (findReg 1)).getD #[]
noncomputable def bd2Ops : Array Oper := ((Tryd.f29.body).bind (findReg 2)).getD #[]
noncomputable def bd3Ops : Array Oper := ((Tryd.f29.body).bind (findReg 3)).getD #[]
noncomputable def bd4Ops : Array Oper := ((Tryd.f29.body).bind (findReg 4)).getD #[]
theorem bd_body : Tryd.f29.body = some (.seq (.region 0 bd0Ops false) (.seq (.region 1 bd1Ops false) (.seq (.region 2 bd2Ops false) (.seq (.region 3 bd3Ops false) (.seq (.region 4 bd4Ops true) .ret))))) := by kernel_rfl
theorem ops_at {ops : Array Oper} {Q : Exit → Act → World → Prop} {i : Nat} {X : Op} {d : Option Tmp} {rest : List Nat} {a : Act} {w : World} (h : (ops[i]?).map (fun o => (o.op, o.dst, o.guard)) = some (X, d, none))
    (hk : ∀ ty pos after, Oper.wp Tryd.prog ⟨d, X, ty, pos, after, none⟩ a w (wpOps Tryd.prog ops Q rest) Q) : wpOps Tryd.prog ops Q (i :: rest) a w := by
  cases ho : ops[i]? with
  | none => rw [ho] at h; cases h
  | some o =>
    rw [ho] at h
    have h := Option.some.inj h
    obtain ⟨dst, op, ty, pos, after, guard⟩ := o
    simp only [Prod.mk.injEq] at h
    obtain ⟨e1, e2, e3⟩ := h
    subst e1 e2 e3
    exact wpOps_one ho rfl (hk ty pos after)
theorem op_at {ops : Array Oper} {Q : Exit → Act → World → Prop} {i : Nat} {X : Op} {d : Option Tmp} {K : Act → World → Prop} {a : Act} {w : World} (h : (ops[i]?).map (fun o => (o.op, o.dst, o.guard)) = some (X, d, none))
    (hk : ∀ ty pos after, Oper.wp Tryd.prog ⟨d, X, ty, pos, after, none⟩ a w K Q) : wpOp Tryd.prog ops Q i K a w := by
  cases ho : ops[i]? with
  | none => rw [ho] at h; cases h
  | some o =>
    rw [ho] at h
    have h := Option.some.inj h
    obtain ⟨dst, op, ty, pos, after, guard⟩ := o
    simp only [Prod.mk.injEq] at h
    obtain ⟨e1, e2, e3⟩ := h
    subst e1 e2 e3
    exact wpOp_one ho rfl (hk ty pos after)
theorem run_load_rowv {a : Act} {x : Operand} {dst : Option Tmp} {ty : TypeId} {pos : String} {after : Array Edge} {guard : Option (Nat × Bool)} (w : World) (b : Nat) (A : Option Addr) (n c : Nat) (hx : a.eval x = .pointer (some ⟨b, 0, none⟩)) (hc : w.cell? ⟨b, 0, none⟩ = some (.slice A n c)) :
    (execOp a.eval ⟨dst, .load 22 x, ty, pos, after, guard⟩).run Tryd.prog w = .ok (.value (.slice A n c)) w := by
  unfold execOp
  simp only [hx]
  go_simp
theorem run_load_intv {a : Act} {x : Operand} {dst : Option Tmp} {ty : TypeId} {pos : String} {after : Array Edge} {guard : Option (Nat × Bool)} (w : World) (b : Nat) (n : Int) (hx : a.eval x = .pointer (some ⟨b, 0, none⟩)) (hc : w.cell? ⟨b, 0, none⟩ = some (.int .i64 n)) :
    (execOp a.eval ⟨dst, .load 3 x, ty, pos, after, guard⟩).run Tryd.prog w = .ok (.value (.int .i64 n)) w := by
  unfold execOp
  simp only [hx]
  go_simp
theorem run_load_strv {a : Act} {x : Operand} {dst : Option Tmp} {ty : TypeId} {pos : String} {after : Array Edge} {guard : Option (Nat × Bool)} (w : World) (b : Nat) (s : ByteArray) (hx : a.eval x = .pointer (some ⟨b, 0, none⟩)) (hc : w.cell? ⟨b, 0, none⟩ = some (.string s)) :
    (execOp a.eval ⟨dst, .load 9 x, ty, pos, after, guard⟩).run Tryd.prog w = .ok (.value (.string s)) w := by
  unfold execOp
  simp only [hx]
  go_simp
theorem run_build3 {a : Act} {y z : Operand} {dst : Option Tmp} {ty : TypeId} {pos : String} {after : Array Edge} {guard : Option (Nat × Bool)} (w : World) (s : ByteArray) (A : Option Addr) (n c : Nat) (hy : a.eval y = .string s) (hz : a.eval z = .slice A n c) :
    (execOp a.eval ⟨dst, .build 24 #[(0, .const (.int .i64 3)), (2, y), (3, z)], ty, pos, after, guard⟩).run Tryd.prog w = .ok (.value (tv (3, 0, s) A n c)) w := by
  unfold execOp
  simp only [List.map_toArray, List.map_cons, List.map_nil, hy, hz]
  go_simp
theorem run_store_new {a : Act} {x y : Operand} {ty : TypeId} {pos : String} {after : Array Edge} {guard : Option (Nat × Bool)} (w : World) (g : Nat) (p : Pay) (A : Option Addr) (n c : Nat) (hx : a.eval x = .pointer (some ⟨g, 0, none⟩)) (hy : a.eval y = tv p A n c) (hf : ResAt w g) :
    (execOp a.eval ⟨none, .store 24 x y, ty, pos, after, guard⟩).run Tryd.prog w = .ok .skip (set4 w g 0 p A n c) := by
  have f0 := hf.s.s0
  have f1 := hf.s.s1
  have f2 := hf.s.s2
  have f3 := hf.s.s3
  have y0 := hf.t.kind
  have y1 := hf.t.num
  have y2 := hf.t.name
  have y3 := hf.t.args
  clear hf
  unfold execOp
  simp only [hx, hy]
  go_simp
def resAtP (r : Nat) : Pd where
  R := fun _ w => r < w.heap.size ∧ ResAt w r
  keep := fun _ _ _ h hb => ⟨Nat.lt_of_lt_of_le h.1 hb.size, h.2.below hb h.1⟩
def lrowP (B : Nat) (A : Option Addr) (n : Nat) (L : Fo) : Pd where
  R := fun _ w => ArgsB w B A n L ∧ B ≤ w.heap.size
  keep := fun _ _ _ h hb => ⟨h.1.below hb h.2, Nat.le_trans h.2 hb.size⟩
/-- Facts that hold in old memory, kept whatever is done to newer blocks. -/
abbrev oldEnv (env : Env) (w1 : World) : Env := env.map fun e => (e.1, Kd.sat (oldP e.2 w1))
theorem look_old (env : Env) (w1 : World) (t : Nat) : look (oldEnv env w1) t = (look env t).map fun k => Kd.sat (oldP k w1) := by
  induction env with
  | nil => rfl
  | cons x xs ih =>
    obtain ⟨d, k0⟩ := x
    show look ((d, _) :: oldEnv xs w1) t = _
    rw [look_cons, look_cons, ih]
    split <;> rfl
theorem Hold.olds {N : Nat} {env : Env} {w0 w : World} {a : Act} (h : Hold N env w0 a w) : Hold N (oldEnv env w) w a w := by
  refine ⟨h.size, h.defers, Below.refl _ _, fun t k hk => ?_⟩
  rw [look_old] at hk
  obtain ⟨k1, h1, rfl⟩ := Option.map_eq_some_iff.1 hk
  exact ⟨h.slots t k1 h1, Below.refl _ _⟩
theorem Hold.later {N : Nat} {env : Env} {w1 w w' : World} {a a' : Act} (h : Hold N (oldEnv env w1) w1 a w) (hs : a'.tmps.size = N) (hd : a'.defers = []) (hb : Below w1.heap.size w1 w') (hv : ∀ t k, look env t = some k → a'.tmps.getD t undef = a.tmps.getD t undef) : Hold N (oldEnv env w1) w1 a' w' := by
  refine ⟨hs, hd, hb, fun t k hk => ?_⟩
  have hk2 := hk
  rw [look_old] at hk2
  obtain ⟨k1, h1, rfl⟩ := Option.map_eq_some_iff.1 hk2
  rw [hv t k1 h1]
  exact ⟨(h.slots t _ hk).1, hb⟩
/-- An append to the row in slot 6, and its assignment. -/
theorem bd_app {ops : Array Oper} {Q : Exit → Act → World → Prop} {N k x y d m ny B : Nat} {env : Env} {w1 w : World} {a : Act} {A6 Ay : Option Addr} {c6 cy : Nat} {F G : Fo}
    (hop1 : (ops[k]?).map (fun o => (o.op, o.dst, o.guard)) = some (.call { callee := .builtin .append, args := #[.tmp x, .tmp y], argTypes := #[22, 22] }, some d, none)) (hop2 : (ops[k + 1]?).map (fun o => (o.op, o.dst, o.guard)) = some (.assign (.tmp d), some 6, none))
    (hx : a.tmps.getD x undef = .slice A6 m c6) (hy : a.tmps.getD y undef = .slice Ay ny cy) (ho : OwnB B w1.heap.size w A6 m c6 F) (hsrc : SrcB B w Ay ny G) (hb : m + ny ≤ 100000) (hd : d < N) (h6 : 6 < N)
    (hold : Hold N (oldEnv env w1) w1 a w) (hne : ∀ t k, look env t = some k → t ≠ d ∧ t ≠ 6)
    (hQ : ∀ A' c' a' w', Hold N (oldEnv env w1) w1 a' w' → a'.tmps.getD 6 undef = .slice A' (m + ny) c' → OwnB B w1.heap.size w' A' (m + ny) c' (Tm.app F G) → Q .normal a' w') : wpOps Tryd.prog ops Q [k, k + 1] a w := by
  refine ops_at hop1 fun ty pos after => wp_append_B (.tmp x) (.tmp y) rfl ho hx hy hsrc hb fun A' c' w' o' b' => ?_
  refine ops_at hop2 fun ty pos after => wp_assign_op ?_
  have hs := hold.size
  have ev : (a.put (some d) (.slice A' (m + ny) c')).eval (.tmp d) = .slice A' (m + ny) c' := put_self (by omega)
  rw [ev]
  refine hQ A' c' _ _ (hold.later (put_size.trans (put_size.trans hs)) hold.defers (hold.world.trans b') fun t k hk => ?_) (put_self (by rw [put_size]; omega)) o'
  exact (put_other (hne t k hk).2).trans (put_other (hne t k hk).1)
def bdOld (name : ByteArray) (Lr : Fo) (i n c : Nat) (A : Option Addr) (p : Pay) (l : Fo) (pl pi pn B r : Nat) : Env := [(1, Kd.sat (cellP pl (.slice A n c))), (2, .sat (cellP pi (.int .i64 (i : Int)))), (3, .sat (cellP pn (.string name))), (4, .sat (bPt B p l)), (5, .val (.pointer (some ⟨r, 0, none⟩))), (991, .sat (lrowP B A n Lr)), (992, .sat (resAtP r))]
theorem bdOld_ne {name : ByteArray} {Lr l : Fo} {i n c pl pi pn B r : Nat} {A : Option Addr} {p : Pay} {d : Nat} (hd : 6 < d) (hd2 : d < 990) : ∀ t k, look (bdOld name Lr i n c A p l pl pi pn B r) t = some k → t ≠ d ∧ t ≠ 6 := by
  intro t k hk
  unfold look bdOld at hk
  obtain ⟨e, he, _⟩ := Option.map_eq_some_iff.1 hk
  have h1 := List.find?_some he
  have h2 := List.mem_of_find?_eq_some he
  have h3 : e.1 = t := by simpa using h1
  simp only [List.mem_cons, List.not_mem_nil, or_false] at h2
  rcases h2 with rfl | rfl | rfl | rfl | rfl | rfl | rfl <;> (subst h3; dsimp only; omega)
/-- One operation; the other slots stay. -/
theorem env_one' {ops : Array Oper} {Q : Exit → Act → World → Prop} {N : Nat} {env : Env} {w0 w : World} {a : Act} {i d : Nat} {k : Kd} {rest : List Nat} (hs : EnvStep ops Q N env i k) (hd : (ops[i]?).map (fun o => (o.dst, o.guard)) = some (some d, none)) (hN : d < N) (st : Hold N env w0 a w)
    (h : ∀ a' w', Hold N ((d, k) :: env) w0 a' w' → (∀ t, t ≠ d → a'.tmps.getD t undef = a.tmps.getD t undef) → wpOps Tryd.prog ops Q rest a' w') : wpOps Tryd.prog ops Q (i :: rest) a w := by
  cases ho : ops[i]? with
  | none => rw [ho] at hd; cases hd
  | some o =>
    rw [ho] at hd
    have hd := Option.some.inj hd
    simp only [Prod.mk.injEq] at hd
    refine wpOps_one ho hd.2 (hs o ho a w ⟨st.size, st.slots, fun j o' _ hji _ => ?_⟩ _ fun v w' hv hb => ?_)
    · rw [if_neg (by omega)]; trivial
    · rw [hd.1]
      have hv : (if i = i then k else Kd.any).R v w' := hv
      rw [if_pos rfl] at hv
      exact h _ _ (st.put hN hv hb) fun t ht => put_other ht
def newResP (w0 : World) : Pd where
  R := fun v w => ∃ r, v = .pointer (some ⟨r, 0, none⟩) ∧ w0.heap.size ≤ r ∧ r < w.heap.size ∧ ResAt w r
  keep := by
    rintro v w w' ⟨r, e, h1, h2, h3⟩ hb
    exact ⟨r, e, h1, Nat.lt_of_lt_of_le h2 hb.size, h3.below hb h2⟩
def ownBP (B N0 : Nat) (A : Option Addr) (n c : Nat) (F : Fo) : Pd where
  R := fun _ w => OwnB B N0 w A n c F
  keep := fun _ _ _ h hb => h.below hb
theorem bd2_region {Q : Exit → Act → World → Prop} (name : ByteArray) (Lr : Fo) (i n c : Nat) (A : Option Addr) (p : Pay) (l : Fo) (pl pi pn B r : Nat) (w1 : World) (hi : i ≤ n) (hn : n ≤ c) (hn7 : n ≤ 7) (hc : c ≤ 9223372036854775807) (hA : A = none → c = 0) {a : Act} {w : World} (h : Hold 23 (oldEnv (bdOld name Lr i n c A p l pl pi pn B r) w1) w1 a w) (h6 : a.tmps.getD 6 undef = .slice none 0 0) (hBw : B ≤ w1.heap.size)
    (hQ : ∀ A' c' a' w', Hold 23 (oldEnv (bdOld name Lr i n c A p l pl pi pn B r) w1) w1 a' w' → a'.tmps.getD 6 undef = .slice A' i c' → OwnB B w1.heap.size w' A' i c' (Tm.takeF Lr i) → Q .normal a' w') : (Code.region 2 bd2Ops false).wp Tryd.prog Q a w := by
  refine region_seq (w0 := w) 6 (by kernel_rfl) ?_
  rw [show List.range 6 = [0, 1, 2, 3, 4, 5] from rfl]
  obtain ⟨hc1, hlt1, hl1⟩ := oldP.to (k := .sat (cellP pl (.slice A n c))) (h.get 1 rfl)
  obtain ⟨hc2, hlt2, hl2⟩ := oldP.to (k := .sat (cellP pi (.int .i64 (i : Int)))) (h.get 2 rfl)
  obtain ⟨hrow, hB⟩ := oldP.to (k := .sat (lrowP B A n Lr)) (h.get 991 rfl)
  have hs := h.size
  refine ops_at (X := .move (.tmp 6)) (d := some 7) (by kernel_rfl) fun ty pos after => wp_run (v := .slice none 0 0) (by rw [← h6]; rfl) ?_
  refine ops_at (X := .load 22 (.tmp 1)) (d := some 8) (by kernel_rfl) fun ty pos after => wp_run (run_load_rowv w pl A n c ((put_other (by decide)).trans hc1) hl1) ?_
  refine ops_at (X := .load 3 (.tmp 2)) (d := some 9) (by kernel_rfl) fun ty pos after => wp_run (run_load_intv w pi i ((put_other (by decide)).trans ((put_other (by decide)).trans hc2)) hl2) ?_
  refine ops_at (X := .slice 22 (.tmp 8) none (some (.tmp 9)) none) (d := some 10) (by kernel_rfl) fun ty pos after => wp_run (run_slice_to w A n c i ((put_other (by decide)).trans (put_self (by rw [put_size]; omega))) (put_self (by rw [put_size, put_size]; omega)) hi hn hA hc) ?_
  have e7 : ((((a.put (some 7) (.slice none 0 0)).put (some 8) (.slice A n c)).put (some 9) (.int .i64 (i : Int))).put (some 10) (.slice A i c)).tmps.getD 7 undef = .slice none 0 0 := (put_other (by decide)).trans ((put_other (by decide)).trans ((put_other (by decide)).trans (put_self (by omega))))
  have e10 : ((((a.put (some 7) (.slice none 0 0)).put (some 8) (.slice A n c)).put (some 9) (.int .i64 (i : Int))).put (some 10) (.slice A i c)).tmps.getD 10 undef = .slice A i c := put_self (by rw [put_size, put_size, put_size]; omega)
  have hh := h.later (a' := (((a.put (some 7) (.slice none 0 0)).put (some 8) (.slice A n c)).put (some 9) (.int .i64 (i : Int))).put (some 10) (.slice A i c)) (w' := w) (put_size.trans (put_size.trans (put_size.trans (put_size.trans hs)))) h.defers h.world fun t k hk => (put_other (bdOld_ne (d := 10) (by decide) (by decide) t k hk).1).trans ((put_other (bdOld_ne (d := 9) (by decide) (by decide) t k hk).1).trans ((put_other (bdOld_ne (d := 8) (by decide) (by decide) t k hk).1).trans (put_other (bdOld_ne (d := 7) (by decide) (by decide) t k hk).1)))
  have hsrc : SrcB B w A i (Tm.takeF Lr i) := by
    refine ⟨Tm.takeF_len Lr i (by rw [hrow.len]; exact hi), fun h0 => ?_, hB⟩
    obtain ⟨b, o, e, hb, hr⟩ := hrow.row (by omega)
    exact ⟨b, o, e, Nat.lt_of_lt_of_le hb hB, hr.take Lr b o i⟩
  refine bd_app (x := 7) (y := 10) (d := 11) (by kernel_rfl) (by kernel_rfl) e7 e10 (OwnB.start h.world.size hBw) hsrc (by omega) (by decide) (by decide) hh (bdOld_ne (by decide) (by decide)) fun A' c' a' w' h1 h2 h3 => ?_
  rw [Nat.zero_add] at h2 h3
  exact hQ A' c' a' w' h1 h2 h3
theorem bd3_region {Q : Exit → Act → World → Prop} (name : ByteArray) (Lr : Fo) (i n c : Nat) (A : Option Addr) (p : Pay) (l : Fo) (pl pi pn B r : Nat) (w1 : World) (hi : i ≤ 7) {A6 : Option Addr} {c6 : Nat} {a : Act} {w : World} (h : Hold 23 (oldEnv (bdOld name Lr i n c A p l pl pi pn B r) w1) w1 a w) (h6 : a.tmps.getD 6 undef = .slice A6 i c6) (ho : OwnB B w1.heap.size w A6 i c6 (Tm.takeF Lr i))
    (hQ : ∀ A' c' a' w', Hold 23 (oldEnv (bdOld name Lr i n c A p l pl pi pn B r) w1) w1 a' w' → a'.tmps.getD 6 undef = .slice A' (i + 1) c' → OwnB B w1.heap.size w' A' (i + 1) c' (Tm.app (Tm.takeF Lr i) (.node p l .nil)) → Q .normal a' w') : (Code.region 3 bd3Ops false).wp Tryd.prog Q a w := by
  refine region_seq (w0 := w) 5 (by kernel_rfl) ?_
  rw [show List.range 5 = [0, 1, 2, 3, 4] from rfl]
  have h2 : Hold 23 [(4, .sat (bPt B p l)), (6, .val (.slice A6 i c6)), (993, .sat (ownBP B w1.heap.size A6 i c6 (Tm.takeF Lr i)))] w a w := ⟨h.size, h.defers, Below.refl _ _, slots_cons 4 (oldP.to (h.get 4 rfl)) (slots_cons 6 h6 (slots_cons 993 ho slots_nil))⟩
  refine env_one' (i := 0) (d := 12) (k := .val (.slice A6 i c6)) (step_move (by kernel_rfl) (Opd.of_base 6 rfl) rfl) (by kernel_rfl) (by decide) h2 ?_
  intro a1 w2 q1 g1
  refine env_one' (i := 1) (d := 13) (k := .sat (bT B p l)) (step_load_b (by kernel_rfl) (Opd.of_base 4 rfl) rfl) (by kernel_rfl) (by decide) q1 ?_
  intro a2 w3 q2 g2
  refine env_one' (i := 2) (d := 14) (k := .sat (bR B (.node p l .nil))) (step_slice1_b (by kernel_rfl) (Opd.of_base 13 rfl) rfl) (by kernel_rfl) (by decide) q2 ?_
  intro a3 w4 q3 g3
  obtain ⟨Ay, cy, e14, hsrc⟩ := q3.get 14 rfl
  have hh := h.later (a' := a3) (w' := w4) q3.size q3.defers (h.world.trans (q3.world.mono h.world.size)) fun t k hk => (g3 t (bdOld_ne (d := 14) (by decide) (by decide) t k hk).1).trans ((g2 t (bdOld_ne (d := 13) (by decide) (by decide) t k hk).1).trans (g1 t (bdOld_ne (d := 12) (by decide) (by decide) t k hk).1))
  exact bd_app (x := 12) (y := 14) (d := 15) (by kernel_rfl) (by kernel_rfl) (q3.get 12 rfl) e14 (q3.get 993 rfl) hsrc (by show i + Tm.len (Fo.node p l .nil) ≤ _; simp [Tm.len]; omega) (by decide) (by decide) hh (bdOld_ne (by decide) (by decide)) hQ
structure BI (name : ByteArray) (Lr : Fo) (i n c : Nat) (A : Option Addr) (p : Pay) (l : Fo) (pl pi pn B r : Nat) (w1 : World) (A6 : Option Addr) (c6 : Nat) (L : Nat → Bool) (a : Act) (w : World) : Prop where
  old : Hold 23 (oldEnv (bdOld name Lr i n c A p l pl pi pn B r) w1) w1 a w
  e6 : a.tmps.getD 6 undef = .slice A6 (i + 1) c6
  own : L 5 = false → OwnB B w1.heap.size w A6 (i + 1) c6 (Tm.app (Tm.takeF Lr i) (.node p l .nil))
  d0 : L 0 = true → a.tmps.getD 16 undef = .string name
  d1 : L 1 = true → a.tmps.getD 17 undef = .slice A6 (i + 1) c6
  d2 : L 2 = true → a.tmps.getD 18 undef = .slice A n c
  d3 : L 3 = true → a.tmps.getD 19 undef = .int .i64 (i : Int)
  d4 : L 4 = true → L 5 = false → ∃ A' c', a.tmps.getD 20 undef = .slice A' (n - i) c' ∧ SrcB B w A' (n - i) (Tm.dropF Lr i)
  d5 : L 5 = true → ∃ A' c', a.tmps.getD 21 undef = .slice A' (i + 1 + (n - i)) c' ∧ OwnB B w1.heap.size w A' (i + 1 + (n - i)) c' (Tm.app (Tm.app (Tm.takeF Lr i) (.node p l .nil)) (Tm.dropF Lr i))
theorem BI.put {name : ByteArray} {Lr l : Fo} {i n c pl pi pn B r : Nat} {A : Option Addr} {p : Pay} {w1 : World} {A6 : Option Addr} {c6 : Nat} {L : Nat → Bool} {a : Act} {w : World} (h : BI name Lr i n c A p l pl pi pn B r w1 A6 c6 L a w) {d : Nat} (hd : 6 < d) (hd2 : d < 990) (v : Value) : Hold 23 (oldEnv (bdOld name Lr i n c A p l pl pi pn B r) w1) w1 (a.put (some d) v) w ∧ (a.put (some d) v).tmps.getD 6 undef = .slice A6 (i + 1) c6 :=
  ⟨h.old.later (put_size.trans h.old.size) h.old.defers h.old.world fun t k hk => put_other (bdOld_ne hd hd2 t k hk).1, (put_other (by omega)).trans h.e6⟩
theorem bi_0 {Q : Exit → Act → World → Prop} (name : ByteArray) (Lr : Fo) (i n c : Nat) (A : Option Addr) (p : Pay) (l : Fo) (pl pi pn B r : Nat) (w1 : World) (A6 : Option Addr) (c6 : Nat) (hi : i ≤ n) (hn : n ≤ c) (hn7 : n ≤ 7) (hc : c ≤ 9223372036854775807) (hA : A = none → c = 0) (hA2 : ∀ ad, A = some ad → ad.spot = none) (L : Nat → Bool) (a : Act) (w : World) (I : BI name Lr i n c A p l pl pi pn B r w1 A6 c6 L a w) : wpOp Tryd.prog bd4Ops Q 0 (BI name Lr i n c A p l pl pi pn B r w1 A6 c6 (fun j => if j = 0 then true else L j)) a w := by
  obtain ⟨hc1, hlt1, hl1⟩ := oldP.to (k := .sat (cellP pl (.slice A n c))) (I.old.get 1 rfl)
  obtain ⟨hc2, hlt2, hl2⟩ := oldP.to (k := .sat (cellP pi (.int .i64 (i : Int)))) (I.old.get 2 rfl)
  obtain ⟨hc3, hlt3, hl3⟩ := oldP.to (k := .sat (cellP pn (.string name))) (I.old.get 3 rfl)
  obtain ⟨hrow, hB⟩ := oldP.to (k := .sat (lrowP B A n Lr)) (I.old.get 991 rfl)
  refine op_at (X := .load 9 (.tmp 3)) (d := some 16) (by kernel_rfl) fun ty pos after => wp_run (run_load_strv w pn name hc3 hl3) ?_
  obtain ⟨q1, q2⟩ := I.put (d := 16) (by decide) (by decide) (.string name)
  exact ⟨q1, q2, I.own, fun _ => put_self (by have := I.old.size; omega), fun h => (put_other (by decide)).trans (I.d1 h), fun h => (put_other (by decide)).trans (I.d2 h), fun h => (put_other (by decide)).trans (I.d3 h), fun h h5 => by
      obtain ⟨A', c', e, hs⟩ := I.d4 h h5
      exact ⟨A', c', (put_other (by decide)).trans e, hs⟩, fun h => by
      obtain ⟨A', c', e, ho⟩ := I.d5 h
      exact ⟨A', c', (put_other (by decide)).trans e, ho⟩⟩
theorem bi_1 {Q : Exit → Act → World → Prop} (name : ByteArray) (Lr : Fo) (i n c : Nat) (A : Option Addr) (p : Pay) (l : Fo) (pl pi pn B r : Nat) (w1 : World) (A6 : Option Addr) (c6 : Nat) (hi : i ≤ n) (hn : n ≤ c) (hn7 : n ≤ 7) (hc : c ≤ 9223372036854775807) (hA : A = none → c = 0) (hA2 : ∀ ad, A = some ad → ad.spot = none) (L : Nat → Bool) (a : Act) (w : World) (I : BI name Lr i n c A p l pl pi pn B r w1 A6 c6 L a w) : wpOp Tryd.prog bd4Ops Q 1 (BI name Lr i n c A p l pl pi pn B r w1 A6 c6 (fun j => if j = 1 then true else L j)) a w := by
  obtain ⟨hc1, hlt1, hl1⟩ := oldP.to (k := .sat (cellP pl (.slice A n c))) (I.old.get 1 rfl)
  obtain ⟨hc2, hlt2, hl2⟩ := oldP.to (k := .sat (cellP pi (.int .i64 (i : Int)))) (I.old.get 2 rfl)
  obtain ⟨hc3, hlt3, hl3⟩ := oldP.to (k := .sat (cellP pn (.string name))) (I.old.get 3 rfl)
  obtain ⟨hrow, hB⟩ := oldP.to (k := .sat (lrowP B A n Lr)) (I.old.get 991 rfl)
  refine op_at (X := .move (.tmp 6)) (d := some 17) (by kernel_rfl) fun ty pos after => wp_run (v := .slice A6 (i + 1) c6) (by rw [← I.e6]; rfl) ?_
  obtain ⟨q1, q2⟩ := I.put (d := 17) (by decide) (by decide) (.slice A6 (i + 1) c6)
  exact ⟨q1, q2, I.own, fun h => (put_other (by decide)).trans (I.d0 h), fun _ => put_self (by have := I.old.size; omega), fun h => (put_other (by decide)).trans (I.d2 h), fun h => (put_other (by decide)).trans (I.d3 h), fun h h5 => by
      obtain ⟨A', c', e, hs⟩ := I.d4 h h5
      exact ⟨A', c', (put_other (by decide)).trans e, hs⟩, fun h => by
      obtain ⟨A', c', e, ho⟩ := I.d5 h
      exact ⟨A', c', (put_other (by decide)).trans e, ho⟩⟩
theorem bi_2 {Q : Exit → Act → World → Prop} (name : ByteArray) (Lr : Fo) (i n c : Nat) (A : Option Addr) (p : Pay) (l : Fo) (pl pi pn B r : Nat) (w1 : World) (A6 : Option Addr) (c6 : Nat) (hi : i ≤ n) (hn : n ≤ c) (hn7 : n ≤ 7) (hc : c ≤ 9223372036854775807) (hA : A = none → c = 0) (hA2 : ∀ ad, A = some ad → ad.spot = none) (L : Nat → Bool) (a : Act) (w : World) (I : BI name Lr i n c A p l pl pi pn B r w1 A6 c6 L a w) : wpOp Tryd.prog bd4Ops Q 2 (BI name Lr i n c A p l pl pi pn B r w1 A6 c6 (fun j => if j = 2 then true else L j)) a w := by
  obtain ⟨hc1, hlt1, hl1⟩ := oldP.to (k := .sat (cellP pl (.slice A n c))) (I.old.get 1 rfl)
  obtain ⟨hc2, hlt2, hl2⟩ := oldP.to (k := .sat (cellP pi (.int .i64 (i : Int)))) (I.old.get 2 rfl)
  obtain ⟨hc3, hlt3, hl3⟩ := oldP.to (k := .sat (cellP pn (.string name))) (I.old.get 3 rfl)
  obtain ⟨hrow, hB⟩ := oldP.to (k := .sat (lrowP B A n Lr)) (I.old.get 991 rfl)
  refine op_at (X := .load 22 (.tmp 1)) (d := some 18) (by kernel_rfl) fun ty pos after => wp_run (run_load_rowv w pl A n c hc1 hl1) ?_
  obtain ⟨q1, q2⟩ := I.put (d := 18) (by decide) (by decide) (.slice A n c)
  exact ⟨q1, q2, I.own, fun h => (put_other (by decide)).trans (I.d0 h), fun h => (put_other (by decide)).trans (I.d1 h), fun _ => put_self (by have := I.old.size; omega), fun h => (put_other (by decide)).trans (I.d3 h), fun h h5 => by
      obtain ⟨A', c', e, hs⟩ := I.d4 h h5
      exact ⟨A', c', (put_other (by decide)).trans e, hs⟩, fun h => by
      obtain ⟨A', c', e, ho⟩ := I.d5 h
      exact ⟨A', c', (put_other (by decide)).trans e, ho⟩⟩
theorem bi_3 {Q : Exit → Act → World → Prop} (name : ByteArray) (Lr : Fo) (i n c : Nat) (A : Option Addr) (p : Pay) (l : Fo) (pl pi pn B r : Nat) (w1 : World) (A6 : Option Addr) (c6 : Nat) (hi : i ≤ n) (hn : n ≤ c) (hn7 : n ≤ 7) (hc : c ≤ 9223372036854775807) (hA : A = none → c = 0) (hA2 : ∀ ad, A = some ad → ad.spot = none) (L : Nat → Bool) (a : Act) (w : World) (I : BI name Lr i n c A p l pl pi pn B r w1 A6 c6 L a w) : wpOp Tryd.prog bd4Ops Q 3 (BI name Lr i n c A p l pl pi pn B r w1 A6 c6 (fun j => if j = 3 then true else L j)) a w := by
  obtain ⟨hc1, hlt1, hl1⟩ := oldP.to (k := .sat (cellP pl (.slice A n c))) (I.old.get 1 rfl)
  obtain ⟨hc2, hlt2, hl2⟩ := oldP.to (k := .sat (cellP pi (.int .i64 (i : Int)))) (I.old.get 2 rfl)
  obtain ⟨hc3, hlt3, hl3⟩ := oldP.to (k := .sat (cellP pn (.string name))) (I.old.get 3 rfl)
  obtain ⟨hrow, hB⟩ := oldP.to (k := .sat (lrowP B A n Lr)) (I.old.get 991 rfl)
  refine op_at (X := .load 3 (.tmp 2)) (d := some 19) (by kernel_rfl) fun ty pos after => wp_run (run_load_intv w pi i hc2 hl2) ?_
  obtain ⟨q1, q2⟩ := I.put (d := 19) (by decide) (by decide) (.int .i64 (i : Int))
  exact ⟨q1, q2, I.own, fun h => (put_other (by decide)).trans (I.d0 h), fun h => (put_other (by decide)).trans (I.d1 h), fun h => (put_other (by decide)).trans (I.d2 h), fun _ => put_self (by have := I.old.size; omega), fun h h5 => by
      obtain ⟨A', c', e, hs⟩ := I.d4 h h5
      exact ⟨A', c', (put_other (by decide)).trans e, hs⟩, fun h => by
      obtain ⟨A', c', e, ho⟩ := I.d5 h
      exact ⟨A', c', (put_other (by decide)).trans e, ho⟩⟩
theorem bi_4 {Q : Exit → Act → World → Prop} (name : ByteArray) (Lr : Fo) (i n c : Nat) (A : Option Addr) (p : Pay) (l : Fo) (pl pi pn B r : Nat) (w1 : World) (A6 : Option Addr) (c6 : Nat) (hi : i ≤ n) (hn : n ≤ c) (hn7 : n ≤ 7) (hc : c ≤ 9223372036854775807) (hA : A = none → c = 0) (hA2 : ∀ ad, A = some ad → ad.spot = none) (L : Nat → Bool) (a : Act) (w : World) (I : BI name Lr i n c A p l pl pi pn B r w1 A6 c6 L a w) (hL2 : L 2 = true) (hL3 : L 3 = true) : wpOp Tryd.prog bd4Ops Q 4 (BI name Lr i n c A p l pl pi pn B r w1 A6 c6 (fun j => if j = 4 then true else L j)) a w := by
  obtain ⟨hc1, hlt1, hl1⟩ := oldP.to (k := .sat (cellP pl (.slice A n c))) (I.old.get 1 rfl)
  obtain ⟨hc2, hlt2, hl2⟩ := oldP.to (k := .sat (cellP pi (.int .i64 (i : Int)))) (I.old.get 2 rfl)
  obtain ⟨hc3, hlt3, hl3⟩ := oldP.to (k := .sat (cellP pn (.string name))) (I.old.get 3 rfl)
  obtain ⟨hrow, hB⟩ := oldP.to (k := .sat (lrowP B A n Lr)) (I.old.get 991 rfl)
  obtain ⟨A', hr, hA'⟩ := run_slice_from (a := a) (x := .tmp 18) (y := .tmp 19) (dst := some 20) (ty := 0) (pos := "") (after := #[]) (guard := none) w A n c i (I.d2 hL2) (I.d3 hL3) hi hn hA hA2 hc
  have hsrc : SrcB B w A' (n - i) (Tm.dropF Lr i) := by
    refine ⟨by rw [Tm.len_drop, hrow.len], fun h0 => ?_, hB⟩
    obtain ⟨b, o, e, hb, hr⟩ := hrow.row (by omega)
    exact ⟨b, o + i * 4, hA' (by omega) b o e, Nat.lt_of_lt_of_le hb hB, hr.drop Lr b o i⟩
  refine op_at (X := .slice 22 (.tmp 18) (some (.tmp 19)) none none) (d := some 20) (by kernel_rfl) fun ty pos after => wp_run (v := .slice A' (n - i) (c - i)) hr ?_
  obtain ⟨q1, q2⟩ := I.put (d := 20) (by decide) (by decide) (.slice A' (n - i) (c - i))
  exact ⟨q1, q2, I.own, fun h => (put_other (by decide)).trans (I.d0 h), fun h => (put_other (by decide)).trans (I.d1 h), fun h => (put_other (by decide)).trans (I.d2 h), fun h => (put_other (by decide)).trans (I.d3 h), fun _ _ => ⟨_, _, put_self (by have := I.old.size; omega), hsrc⟩, fun h => by
      obtain ⟨A', c', e, ho⟩ := I.d5 h
      exact ⟨A', c', (put_other (by decide)).trans e, ho⟩⟩
theorem bi_5 {Q : Exit → Act → World → Prop} (name : ByteArray) (Lr : Fo) (i n c : Nat) (A : Option Addr) (p : Pay) (l : Fo) (pl pi pn B r : Nat) (w1 : World) (A6 : Option Addr) (c6 : Nat) (hi : i ≤ n) (hn : n ≤ c) (hn7 : n ≤ 7) (L : Nat → Bool) (a : Act) (w : World) (I : BI name Lr i n c A p l pl pi pn B r w1 A6 c6 L a w) (hL1 : L 1 = true) (hL4 : L 4 = true) (hL5 : L 5 = false) : wpOp Tryd.prog bd4Ops Q 5 (BI name Lr i n c A p l pl pi pn B r w1 A6 c6 (fun j => if j = 5 then true else L j)) a w := by
  obtain ⟨Ay, cy, ey, hsrc⟩ := I.d4 hL4 hL5
  refine op_at (X := .call { callee := .builtin .append, args := #[.tmp 17, .tmp 20], argTypes := #[22, 22] }) (d := some 21) (by kernel_rfl) fun ty pos after => wp_append_B (.tmp 17) (.tmp 20) rfl (I.own hL5) (I.d1 hL1) ey hsrc (by omega) fun A' c' w' o' b' => ?_
  obtain ⟨q1, q2⟩ := I.put (d := 21) (by decide) (by decide) (.slice A' (i + 1 + (n - i)) c')
  exact ⟨q1.later q1.size q1.defers (I.old.world.trans b') (fun _ _ _ => rfl), q2, fun h => by simp at h, fun h => (put_other (by decide)).trans (I.d0 h), fun h => (put_other (by decide)).trans (I.d1 h), fun h => (put_other (by decide)).trans (I.d2 h), fun h => (put_other (by decide)).trans (I.d3 h), fun _ h => by simp at h, fun _ => ⟨A', c', put_self (by have := I.old.size; omega), o'⟩⟩
theorem bd4_region {Q : Exit → Act → World → Prop} (name : ByteArray) (Lr : Fo) (i n c : Nat) (A : Option Addr) (p : Pay) (l : Fo) (pl pi pn B r : Nat) (w1 : World) (A6 : Option Addr) (c6 : Nat) (hi : i ≤ n) (hn : n ≤ c) (hn7 : n ≤ 7) (hc : c ≤ 9223372036854775807) (hA : A = none → c = 0) (hA2 : ∀ ad, A = some ad → ad.spot = none) {a : Act} {w : World} (h : Hold 23 (oldEnv (bdOld name Lr i n c A p l pl pi pn B r) w1) w1 a w) (h6 : a.tmps.getD 6 undef = .slice A6 (i + 1) c6) (ho : OwnB B w1.heap.size w A6 (i + 1) c6 (Tm.app (Tm.takeF Lr i) (.node p l .nil))) (hr1 : r < w1.heap.size)
    (hQ : ∀ A' c' wq a' w', a'.tmps.size = 23 → a'.defers = [] → a'.tmps.getD 5 undef = .pointer (some ⟨r, 0, none⟩) → TermAt w' r (3, 0, name) A' (i + 1 + (n - i)) c' → OwnB B w1.heap.size wq A' (i + 1 + (n - i)) c' (Tm.app (Tm.app (Tm.takeF Lr i) (.node p l .nil)) (Tm.dropF Lr i)) → Only (· = r) wq w' → Below w1.heap.size w1 wq → Q .normal a' w') : (Code.region 4 bd4Ops true).wp Tryd.prog Q a w := by
  refine region_inv (n := 8) (m := 6) (by kernel_rfl) (by decide) (by kernel_rfl) (by kernel_rfl) (BI name Lr i n c A p l pl pi pn B r w1 A6 c6) ?_ ?_ ?_
  · have hb := drawn_below w
    exact ⟨h.later h.size h.defers (h.world.trans (hb.mono h.world.size)) (fun _ _ _ => rfl), h6, fun _ => ho.below hb, fun h => absurd h (by decide), fun h => absurd h (by decide), fun h => absurd h (by decide), fun h => absurd h (by decide), fun h => absurd h (by decide), fun h => absurd h (by decide)⟩
  · intro L a w i' o hi' ho' hun hdep I
    have hdeps : ∀ j, ((bd4Ops[i']?).map fun o => o.after.any fun e => Region.binds .any e && e.on == j) = some true → L j = true := fun j hj => by
      rw [ho'] at hj
      have hj := Option.some.inj hj
      obtain ⟨e, he, hb⟩ := Array.any_eq_true'.1 hj
      simp only [Bool.and_eq_true, beq_iff_eq] at hb
      rw [← hb.2]
      exact hdep e he hb.1
    have h6' : i' = 0 ∨ i' = 1 ∨ i' = 2 ∨ i' = 3 ∨ i' = 4 ∨ i' = 5 := by omega
    rcases h6' with rfl | rfl | rfl | rfl | rfl | rfl
    · exact bi_0 name Lr i n c A p l pl pi pn B r w1 A6 c6 hi hn hn7 hc hA hA2 L a w I
    · exact bi_1 name Lr i n c A p l pl pi pn B r w1 A6 c6 hi hn hn7 hc hA hA2 L a w I
    · exact bi_2 name Lr i n c A p l pl pi pn B r w1 A6 c6 hi hn hn7 hc hA hA2 L a w I
    · exact bi_3 name Lr i n c A p l pl pi pn B r w1 A6 c6 hi hn hn7 hc hA hA2 L a w I
    · exact bi_4 name Lr i n c A p l pl pi pn B r w1 A6 c6 hi hn hn7 hc hA hA2 L a w I (hdeps 2 (by kernel_rfl)) (hdeps 3 (by kernel_rfl))
    · exact bi_5 name Lr i n c A p l pl pi pn B r w1 A6 c6 hi hn hn7 L a w I (hdeps 1 (by kernel_rfl)) (hdeps 4 (by kernel_rfl)) hun
  · intro L a w hL I
    show wpOps _ _ _ [6, 7] a w
    obtain ⟨A', c', e21, o'⟩ := I.d5 (hL 5 (by decide))
    have e16 := I.d0 (hL 0 (by decide))
    have e5 : a.tmps.getD 5 undef = .pointer (some ⟨r, 0, none⟩) := (I.old.get 5 rfl).1
    obtain ⟨hrl, hres⟩ := oldP.to (k := .sat (resAtP r)) (I.old.get 992 rfl)
    have hs := I.old.size
    refine ops_at (X := .build 24 #[(0, .const (.int .i64 3)), (2, .tmp 16), (3, .tmp 21)]) (d := some 22) (by kernel_rfl) fun ty pos after => wp_run (run_build3 w name A' (i + 1 + (n - i)) c' e16 e21) ?_
    refine ops_at (X := .store 24 (.tmp 5) (.tmp 22)) (d := none) (by kernel_rfl) fun ty pos after => wp_skips (run_store_new w r (3, 0, name) A' (i + 1 + (n - i)) c' ((put_other (by decide)).trans e5) (put_self (by omega)) hres) ?_
    show Q .normal _ _
    exact hQ A' c' w _ _ (put_size.trans hs) I.old.defers ((put_other (by decide)).trans e5) (stored w r (3, 0, name) zp A' none (i + 1 + (n - i)) c' 0 0 hres.t hres.s).term o' (set4_in _ _ _ _ _ _ (Only.refl _ _) rfl) I.old.world
theorem step_alloc_res {ops : Array Oper} {Q : Exit → Act → World → Prop} {E : Nat → Kd} {D : Nat → Nat} {base : Nat → Option Kd} {N : Nat} {i : Nat} {w0 : World} (ss : Nat) (hop : (ops[i]?).map (·.op) = some (.alloc 24)) (hs : Opd ops E D base N i (.tmp ss) (.sat (oldP .any w0))) (hE : E i = .sat (newResP w0)) : Step Tryd.prog ops Q E D base N i := by
  intro o ho a w hc K hK
  have hxo := op_of ho hop
  obtain ⟨dst, op, ty, pos, after, guard⟩ := o
  have hx' : op = _ := hxo
  subst hx'
  refine wp_alloc_op ?_
  have hb : Below w.heap.size w (w.alloc (.cells #[.int .i64 0, .int .i64 0, .string ⟨#[]⟩, .slice none 0 0] 24)) := (Below.refl _ _).alloc (Nat.le_refl _) _
  refine hK _ _ ?_ hb
  rw [hE]
  exact ⟨w.heap.size, rfl, (hs a w hc).2.size, by rw [World.size_alloc]; omega, ResAt.new w _ _ rfl⟩
theorem build_any (name : ByteArray) (Lr : Fo) (i n c : Nat) (A : Option Addr) (p : Pay) (l : Fo) (A0 : Option Addr) (c0 : Nat) (pl pi pn B : Nat) (w : World) (hi : i ≤ n) (hn : n ≤ c) (hn7 : n ≤ 7) (hc : c ≤ 9223372036854775807) (hA : A = none → c = 0) (hA2 : ∀ ad, A = some ad → ad.spot = none)
    (hrow : ArgsB w B A n Lr) (hx : ArgsB w B A0 (Tm.len l) l) (hB : B ≤ w.heap.size) (h1 : (cellP pl (.slice A n c)).R (.pointer (some ⟨pl, 0, none⟩)) w) (h2 : (cellP pi (.int .i64 (i : Int))).R (.pointer (some ⟨pi, 0, none⟩)) w) (h3 : (cellP pn (.string name)).R (.pointer (some ⟨pn, 0, none⟩)) w) :
    Calls Tryd.prog 29 #[tv p A0 (Tm.len l) c0, .pointer (some ⟨pl, 0, none⟩), .pointer (some ⟨pi, 0, none⟩), .pointer (some ⟨pn, 0, none⟩)] w fun e w' => ∃ A' c', e = .returned (tv (3, 0, name) A' (i + 1 + (n - i)) c') ∧ ArgsIn (fun b => b < w'.heap.size ∧ (b < B ∨ w.heap.size ≤ b)) w' A' (i + 1 + (n - i)) (Tm.app (Tm.app (Tm.takeF Lr i) (.node p l .nil)) (Tm.dropF Lr i)) ∧ Below w.heap.size w w' := by
  refine calls_of_wp Tryd.func29 bd_body ?_
  obtain ⟨v0, hv0⟩ : ∃ v : Value, v = tv p A0 (Tm.len l) c0 := ⟨_, rfl⟩
  obtain ⟨v1, hv1⟩ : ∃ v : Value, v = .pointer (some ⟨pl, 0, none⟩) := ⟨_, rfl⟩
  obtain ⟨v2, hv2⟩ : ∃ v : Value, v = .pointer (some ⟨pi, 0, none⟩) := ⟨_, rfl⟩
  obtain ⟨v3, hv3⟩ : ∃ v : Value, v = .pointer (some ⟨pn, 0, none⟩) := ⟨_, rfl⟩
  rw [← hv0, ← hv1, ← hv2, ← hv3]
  have full : (#[v0, v1, v2, v3] ++ Array.replicate (Tryd.f29.ntmps - #[v0, v1, v2, v3].size) undef : Array Value).size = 23 := by kernel_rfl
  have gs0 : (#[v0, v1, v2, v3] ++ Array.replicate (Tryd.f29.ntmps - #[v0, v1, v2, v3].size) undef : Array Value).getD 0 undef = v0 := by kernel_rfl
  have gs1 : (#[v0, v1, v2, v3] ++ Array.replicate (Tryd.f29.ntmps - #[v0, v1, v2, v3].size) undef : Array Value).getD 1 undef = v1 := by kernel_rfl
  have gs2 : (#[v0, v1, v2, v3] ++ Array.replicate (Tryd.f29.ntmps - #[v0, v1, v2, v3].size) undef : Array Value).getD 2 undef = v2 := by kernel_rfl
  have gs3 : (#[v0, v1, v2, v3] ++ Array.replicate (Tryd.f29.ntmps - #[v0, v1, v2, v3].size) undef : Array Value).getD 3 undef = v3 := by kernel_rfl
  generalize (#[v0, v1, v2, v3] ++ Array.replicate (Tryd.f29.ntmps - #[v0, v1, v2, v3].size) undef : Array Value) = tm at full gs0 gs1 gs2 gs3 ⊢
  have h : Hold 23 [(0, .sat (bT B p l)), (1, .sat (cellP pl (.slice A n c))), (2, .sat (cellP pi (.int .i64 (i : Int)))), (3, .sat (cellP pn (.string name))), (991, .sat (lrowP B A n Lr)), (998, .sat (oldP .any w))] w { tmps := tm, defers := [] } w :=
    ⟨full, rfl, Below.refl _ _, slots_cons 0 (by rw [gs0]; exact ⟨A0, c0, hv0, hx, hB⟩) (slots_cons 1 (by rw [gs1, hv1]; exact h1) (slots_cons 2 (by rw [gs2, hv2]; exact h2) (slots_cons 3 (by rw [gs3, hv3]; exact h3) (slots_cons 991 ⟨hrow, hB⟩ (slots_cons 998 ⟨trivial, Below.refl _ _⟩ slots_nil)))))⟩
  refine wp_seq ?_
  refine region_seq (w0 := w) 2 (by kernel_rfl) ?_
  rw [show List.range 2 = [0, 1] from rfl]
  refine env_one (i := 0) (d := 4) (k := .sat (bPt B p l)) (step_box_b (by kernel_rfl) (Opd.of_base 0 rfl) rfl) (by kernel_rfl) (by decide) h ?_
  clear h
  intro a w1 h
  refine env_one (i := 1) (d := 5) (k := .sat (newResP w)) (step_alloc_res 998 (by kernel_rfl) (Opd.of_base 998 rfl) rfl) (by kernel_rfl) (by decide) h ?_
  clear h
  intro a w1 h
  show Code.wp _ _ _ a w1
  obtain ⟨r, e5, hr0, hr1, hres⟩ := h.get 5 rfl
  have hbw := h.world
  have h : Hold 23 (bdOld name Lr i n c A p l pl pi pn B r) w1 a w1 := ⟨h.size, h.defers, Below.refl _ _, slots_cons 1 (h.get 1 rfl) (slots_cons 2 (h.get 2 rfl) (slots_cons 3 (h.get 3 rfl) (slots_cons 4 (h.get 4 rfl) (slots_cons 5 e5 (slots_cons 991 (h.get 991 rfl) (slots_cons 992 ⟨hr1, hres⟩ slots_nil))))))⟩
  have h := h.olds
  refine wp_seq ?_
  refine region_seq (w0 := w1) 1 (by kernel_rfl) ?_
  rw [show List.range 1 = [0] from rfl]
  refine ops_at (X := .assign (.const (.slice none 0 0))) (d := some 6) (by kernel_rfl) fun ty pos after => wp_assign_op ?_
  have h6 : (a.put (some 6) (.slice none 0 0)).tmps.getD 6 undef = .slice none 0 0 := put_self (by have := h.size; omega)
  have h := h.later (a' := a.put (some 6) (.slice none 0 0)) (put_size.trans h.size) h.defers h.world fun t k hk => put_other (bdOld_ne (d := 7) (by decide) (by decide) t k hk).2
  show Code.wp _ _ _ (a.put (some 6) (.slice none 0 0)) w1
  refine wp_seq ?_
  refine bd2_region name Lr i n c A p l pl pi pn B r w1 hi hn hn7 hc hA h h6 (Nat.le_trans hB hbw.size) fun A6 c6 a2 w2 q1 q2 q3 => ?_
  show Code.wp _ _ _ a2 w2
  refine wp_seq ?_
  refine bd3_region name Lr i n c A p l pl pi pn B r w1 (by omega) q1 q2 q3 fun A7 c7 a3 w3 q4 q5 q6 => ?_
  show Code.wp _ _ _ a3 w3
  refine wp_seq ?_
  refine bd4_region name Lr i n c A p l pl pi pn B r w1 A7 c7 hi hn hn7 hc hA hA2 q4 q5 q6 hr1 fun A' c' wq a4 w4 s1 s2 s3 s4 s5 s6 s7 => ?_
  show Code.wp _ _ _ a4 w4
  refine wp_ret ?_
  (try simp only [then_ret, block_ret])
  refine bodyPost_ret (v := tv (3, 0, name) A' (i + 1 + (n - i)) c') (term_result (q := 5) rfl _ _ r (3, 0, name) A' (i + 1 + (n - i)) c' s3 s4) s2 ?_
  have hbs := hbw.size
  have hsz := s6.size
  have hargs := (s5.args (by omega)).keep (w' := w4) fun b hb => s6.block b hb.1 (fun e => by rcases hb.2 with h1 | h1 <;> omega)
  refine ⟨A', c', rfl, hargs.mono fun b hb => ⟨Nat.lt_of_lt_of_le hb.1 hsz, ?_⟩, ?_⟩
  · rcases hb.2 with h1 | h1
    · exact .inl h1
    · exact .inr (by omega)
  · exact hbw.trans ((s7.mono hbs).trans (s6.below (Nat.le_trans hbs s7.size) fun k hk => by subst hk; exact hr0))
end Go.Proofs.YtcjakmafojbhlaaDoor
namespace Go.Proofs.YtcjakmafojbhlaaDoor
set_option linter.unusedVariables false
set_option linter.unusedSimpArgs false
open Go.RowKit

/-- A row of the call's own, in blocks since wz. -/
def rngE (F : Fo) (wz : World) : Pd where
  R := fun v w => ∃ A c, v = .slice A (Tm.len F) c ∧ Rng wz.heap.size w.heap.size F w A
  keep := by
    rintro v w w' ⟨A, c, e, h⟩ hb
    exact ⟨A, c, e, (h.keep hb.size fun b _ hb' => hb.block b hb').mono (Nat.le_refl _) hb.size (Nat.le_refl _)⟩
def srtP (F : Fo) (n : Int) (wz : World) : Pd where
  R := fun v w => ∃ u, v = .tuple #[u, .int .i64 n] ∧ (rngE F wz).R u w
  keep := by
    rintro v w w' ⟨u, e, h⟩ hb
    exact ⟨u, e, (rngE F wz).keep _ _ _ h hb⟩
/-- A row whose blocks were made after wa and before wb. -/
def rngP (F : Fo) (wa wb : World) : Pd where
  R := fun v w => ∃ A c, v = .slice A (Tm.len F) c ∧ Rng wa.heap.size wb.heap.size F w A
  keep := by
    rintro v w w' ⟨A, c, e, h⟩ hb
    exact ⟨A, c, e, h.keep hb.size fun b _ hb' => hb.block b (Nat.lt_of_lt_of_le hb' h.le)⟩
theorem rngE.to {F : Fo} {wz w : World} {v : Value} (h : (Kd.sat (rngE F wz)).R v w) : (Kd.row F).R v w := by
  obtain ⟨A, c, e, hr⟩ := h
  exact ⟨A, c, e, hr.args.mono fun b hb => hb.2.1⟩
theorem rngP.to {F : Fo} {wa wb w : World} {v : Value} (h : (Kd.sat (rngP F wa wb)).R v w) : (Kd.row F).R v w := by
  obtain ⟨A, c, e, hr⟩ := h
  exact ⟨A, c, e, hr.args.mono fun b hb => Nat.lt_of_lt_of_le hb.2.1 hr.le⟩
theorem rngE.fix {F : Fo} {wz w : World} {v : Value} (h : (Kd.sat (rngE F wz)).R v w) : (Kd.sat (rngP F wz w)).R v w := h

/-- A row that is appended to: its own block and all that it leads to lie from N on. -/
structure OwnS (N : Nat) (w : World) (A : Option Addr) (n c : Nat) (F : Fo) : Prop where
  own : ∃ vs, vs.length = n ∧ Vals (fun b => (N ≤ b ∧ b < w.heap.size) ∧ (Value.slice A n c).ownBlock ≠ some b) w vs F ∧ w.ownsRow N 24 4 (.slice A n c) n (tcells vs)
  lo : N ≤ w.heap.size
theorem OwnS.start {N : Nat} {w : World} (h : N ≤ w.heap.size) : OwnS N w none 0 0 .nil := ⟨⟨[], rfl, trivial, World.ownsRow_nil w _ _ _⟩, h⟩
theorem OwnS.len {N : Nat} {w : World} {A : Option Addr} {n c : Nat} {F : Fo} (h : OwnS N w A n c F) : Tm.len F = n := by
  obtain ⟨vs, h1, h2, _⟩ := h.own
  rw [← Vals.len vs F h2, h1]
theorem OwnS.lt {N : Nat} {w : World} {A : Option Addr} {n c : Nat} {F : Fo} (h : OwnS N w A n c F) {b : Nat} (hb : (Value.slice A n c).ownBlock = some b) : N ≤ b ∧ b < w.heap.size := by
  obtain ⟨vs, _, _, h3⟩ := h.own
  exact h3.lt b hb
theorem OwnS.only {N : Nat} {w w' : World} {A : Option Addr} {n c : Nat} {F : Fo} (h : OwnS N w A n c F) (hs : w.heap.size ≤ w'.heap.size) (hk : ∀ b, N ≤ b → b < w.heap.size → w'.heap[b]? = w.heap[b]?) : OwnS N w' A n c F := by
  obtain ⟨vs, h1, h2, h3⟩ := h.own
  exact ⟨⟨vs, h1, (Vals.keep (fun b hb' => hk b hb'.1.1 hb'.1.2) vs F h2).mono' fun b hb' => ⟨⟨hb'.1.1, Nat.lt_of_lt_of_le hb'.1.2 hs⟩, hb'.2⟩, ownsRow_same h3 fun g hg => hk g (h3.lt g hg).1 (h3.lt g hg).2⟩, Nat.le_trans h.lo hs⟩
theorem OwnS.args {N : Nat} {w : World} {A : Option Addr} {n c : Nat} {F : Fo} (h : OwnS N w A n c F) (hn : n ≤ 9223372036854775807) : ArgsB w w.heap.size A n F := by
  obtain ⟨vs, h1, h2, h3⟩ := h.own
  by_cases h0 : n = 0
  · subst h0
    obtain rfl := Tm.len_zero h.len
    exact ArgsIn.nil _ _ _
  · obtain ⟨g, cap, e, hg1, hg2⟩ := h3.form (by omega)
    injection e with e1 e2 e3
    subst e1
    have hc := h3.cells (g := g) rfl
    have := Vals.args (b := g) (o := 0) (S := fun b => b < w.heap.size) hg2 (h2.mono' fun b hb => hb.1.2) (by rw [h1]; exact hn) (fun j u hu => by
      have := hc j u hu
      rw [show (⟨g, 0, none⟩ : Addr).add j = ⟨g, 0 + j, none⟩ by unfold Addr.add; split <;> simp_all] at this
      exact this)
    rw [h1] at this
    exact this
theorem append_S {N : Nat} {w : World} {A0 : Option Addr} {n c0 : Nat} {F : Fo} (h : OwnS N w A0 n c0 F) {A : Option Addr} {m c : Nat} {G : Fo} (hA : ArgsIn (fun b => (N ≤ b ∧ b < w.heap.size) ∧ (Value.slice A0 n c0).ownBlock ≠ some b) w A m G) (h0 : 0 < m) (hb : n + m ≤ 100000) (ty : TypeId) :
    ∃ A' c' w', (Builtin.append_ #[22, 22] ty #[.slice A0 n c0, .slice A m c]).run Tryd.prog w = .ok (.slice A' (n + m) c') w' ∧ OwnS N w' A' (n + m) c' (Tm.app F G) ∧ Below N w w' := by
  obtain ⟨i0, hi0, hz0, hz1, hz2⟩ := term_parts
  obtain ⟨vs, h1, h2, h3⟩ := h.own
  obtain ⟨bk, of, rfl, hbk, hrow⟩ := hA.row (by omega)
  obtain ⟨us, hu, hcu⟩ := RowIn.vals G bk of hrow
  have hul : us.length = m := by rw [Vals.len us G hu, hA.len]
  obtain ⟨g, cap, w', hr, hown, hgrow, hat, hlt⟩ := run_append_lies (P := Tryd.prog) (w := w) 22 ty N 24 i0 (tv zp none 0 0) 4 56 Tryd.underlying22 hi0 hz0 hz1 hz2 rfl (by decide) (.slice A0 n c0) n (tcells vs) h3 ⟨bk, of, none⟩ m c (tcells us)
      (by rw [Vals.tcells_len us G hu, hul]) (fun j u hj => by
        rw [show (⟨bk, of, none⟩ : Addr).add j = ⟨bk, of + j, none⟩ by unfold Addr.add; split <;> simp_all]
        exact hcu j u hj) (Vals.one us G hu) (by omega) (Nat.le_trans hb (by decide)) (by omega) h.lo w.heap.size rfl
  have hkeep : ∀ b, (N ≤ b ∧ b < w.heap.size) ∧ (Value.slice A0 n c0).ownBlock ≠ some b → w'.heap[b]? = w.heap[b]? := fun b hb' => hgrow.block b hb'.1.2 fun e => hb'.2 e.symm
  have hne : ∀ b, (N ≤ b ∧ b < w.heap.size) ∧ (Value.slice A0 n c0).ownBlock ≠ some b → (N ≤ b ∧ b < w'.heap.size) ∧ (Value.slice (some ⟨g, 0, none⟩) (n + m) cap).ownBlock ≠ some b := by
    intro b hb'
    refine ⟨⟨hb'.1.1, Nat.lt_of_lt_of_le hb'.1.2 hgrow.size⟩, fun e => ?_⟩
    have e' : g = b := by simpa [Value.ownBlock] using e
    subst e'
    rcases hat with h' | h'
    · exact hb'.2 h'
    · omega
  refine ⟨some ⟨g, 0, none⟩, cap, w', hr, ⟨⟨vs ++ us, by rw [List.length_append, h1, hul], ?_, by rw [tcells_app]; exact hown⟩, Nat.le_trans h.lo hgrow.size⟩, ⟨hgrow.os, hgrow.tape, hgrow.output, hgrow.size, fun b hb' => hgrow.block b (Nat.lt_of_lt_of_le hb' h.lo) fun e => ?_⟩⟩
  · exact Vals.app vs us F G ((Vals.keep hkeep vs F h2).mono' hne) ((Vals.keep hkeep us G hu).mono' hne)
  · have := h3.lt b e.symm; omega
theorem wp_append_S {o : Oper} {a : Act} {Q : Exit → Act → World → Prop} {K : Act → World → Prop} {w : World} (s x : Operand) (ho : o.op = .call { callee := .builtin .append, args := #[s, x], argTypes := #[22, 22] })
    {N : Nat} {A0 : Option Addr} {n c0 : Nat} {F : Fo} (h : OwnS N w A0 n c0 F) (hs : a.eval s = .slice A0 n c0) {A : Option Addr} {m c : Nat} {G : Fo} (hx : a.eval x = .slice A m c)
    (hA : ArgsIn (fun b => (N ≤ b ∧ b < w.heap.size) ∧ (Value.slice A0 n c0).ownBlock ≠ some b) w A m G) (h0 : 0 < m) (hb : n + m ≤ 100000) (hk : ∀ A' c' w', OwnS N w' A' (n + m) c' (Tm.app F G) → Below N w w' → K (a.put o.dst (.slice A' (n + m) c')) w') : o.wp Tryd.prog a w K Q := by
  obtain ⟨A', c', w', hr, h1, h2⟩ := append_S h hA h0 hb o.type
  unfold Oper.wp
  simp [execOp, ho, resolve, invoke, builtin, hs, hx, Result.andThen]
  rw [hr]
  exact hk A' c' w' h1 h2
def wasP (F : Fo) (wm : World) : Pd where
  R := fun v w => ∃ A c, v = .slice A (Tm.len F) c ∧ OwnS wm.heap.size w A (Tm.len F) c F
  keep := by
    rintro v w w' ⟨A, c, e, h⟩ hb
    exact ⟨A, c, e, h.only hb.size fun b _ hb' => hb.block b hb'⟩
theorem wasP.to {F : Fo} {wm w : World} {v : Value} (hn : Tm.len F ≤ 50000) (h : (Kd.sat (wasP F wm)).R v w) : (Kd.row F).R v w := by
  obtain ⟨A, c, e, hr⟩ := h
  exact ⟨A, c, e, hr.args (by omega)⟩
/-- A row that is appended to, whose block is older than B. -/
def wasB (F : Fo) (wm : World) (B : Nat) : Pd where
  R := fun v w => ∃ A c, v = .slice A (Tm.len F) c ∧ OwnS wm.heap.size w A (Tm.len F) c F ∧ ∀ b, (Value.slice A (Tm.len F) c).ownBlock = some b → b < B
  keep := by
    rintro v w w' ⟨A, c, e, h, h2⟩ hb
    exact ⟨A, c, e, h.only hb.size fun b _ hb' => hb.block b hb', h2⟩
/-- A term, a row whose blocks lie from B on. -/
def newT (p : Pay) (l : Fo) (B : Nat) : Pd where
  R := fun v w => ∃ A c, v = tv p A (Tm.len l) c ∧ ArgsIn (fun b => B ≤ b ∧ b < w.heap.size) w A (Tm.len l) l
  keep := by
    rintro v w w' ⟨A, c, e, h⟩ hb
    exact ⟨A, c, e, (h.keep fun b hb' => hb.block b hb'.2).mono fun b hb' => ⟨hb'.1, Nat.lt_of_lt_of_le hb'.2 hb.size⟩⟩
def newRow (F : Fo) (B : Nat) : Pd where
  R := fun v w => ∃ A c, v = .slice A (Tm.len F) c ∧ ArgsIn (fun b => B ≤ b ∧ b < w.heap.size) w A (Tm.len F) F
  keep := by
    rintro v w w' ⟨A, c, e, h⟩ hb
    exact ⟨A, c, e, (h.keep fun b hb' => hb.block b hb'.2).mono fun b hb' => ⟨hb'.1, Nat.lt_of_lt_of_le hb'.2 hb.size⟩⟩

section
variable {ops : Array Oper} {Q : Exit → Act → World → Prop} {E : Nat → Kd} {D : Nat → Nat} {base : Nat → Option Kd} {N : Nat}
theorem Opd.rngE {i : Nat} {x : Operand} {F : Fo} {wz : World} (h : Opd ops E D base N i x (.sat (rngE F wz))) : Opd ops E D base N i x (.row F) := fun a w hc => rngE.to (h a w hc)
theorem Opd.rngP {i : Nat} {x : Operand} {F : Fo} {wa wb : World} (h : Opd ops E D base N i x (.sat (rngP F wa wb))) : Opd ops E D base N i x (.row F) := fun a w hc => rngP.to (h a w hc)
theorem Opd.was {i : Nat} {x : Operand} {F : Fo} {wm : World} (hn : Tm.len F ≤ 50000) (h : Opd ops E D base N i x (.sat (wasP F wm))) : Opd ops E D base N i x (.row F) := fun a w hc => wasP.to hn (h a w hc)
theorem MadeErrS.R {F : Fo} {n : Int} {w w' : World} {e : Ending} {wz : World} (h : MadeErrS F n w e w') (hz : wz.heap.size ≤ w.heap.size) : ∃ v, e = .returned v ∧ (Kd.sat (srtP F n wz)).R v w' ∧ Below w.heap.size w w' := by
  obtain ⟨A, c, rfl, h1, h2, h3⟩ := h
  have hb : ∀ b, Nw w.heap.size w' b → Bt wz.heap.size w'.heap.size w' b := fun b hb => ⟨Nat.le_trans hz hb.1, hb.2.1, hb.2.2⟩
  refine ⟨_, rfl, ⟨_, rfl, A, c, rfl, Nat.le_refl _, h1.mono hb, fun h0 => ?_⟩, h3⟩
  obtain ⟨g, e, hg, hr⟩ := h2 h0
  exact ⟨g, e, hb g hg, RowIn.mono (fun b hb' => ⟨hb b hb'.1, hb'.2⟩) _ _ _ hr⟩
theorem step_osortS {i : Nat} {x : Operand} {F : Fo} {wz : World} (hn : Tm.len F ≤ 50000) (tt : Nat) (hop : (ops[i]?).map (·.op) = some (.call { callee := .value (.func 16), args := #[x], argTypes := #[22] })) (hx : Opd ops E D base N i x (.row F)) (hT : Opd ops E D base N i (.tmp tt) (.sat (oldP .tabs wz))) (hE : E i = .sat (srtP (sortR F).1 (sortR F).2 wz)) : Step Tryd.prog ops Q E D base N i :=
  step_call hop (fun _ _ => by kernel_rfl) fun a w h => by
    obtain ⟨A, c, ex, ha⟩ := hx a w h
    have h0 := hT a w h
    have hT' : Tabs w := oldP.to h0
    have hb0 : Below wz.heap.size wz w := h0.2
    rw [show (#[x] : Array Operand).map a.eval = #[.slice A (Tm.len F) c] by rw [← ex]; simp, hE]
    exact (osortS_any F A (Tm.len F) c w.heap.size w ha (by omega) hT' (Nat.le_refl _)).mono fun e w' hm => hm.R hb0.size
theorem step_ostableS {i : Nat} {x : Operand} {F : Fo} {wz : World} (hn : Tm.len F ≤ 50000) (tt : Nat) (hop : (ops[i]?).map (·.op) = some (.call { callee := .value (.func 17), args := #[x], argTypes := #[22] })) (hx : Opd ops E D base N i x (.row F)) (hT : Opd ops E D base N i (.tmp tt) (.sat (oldP .tabs wz))) (hE : E i = .sat (srtP (stableR F).1 (stableR F).2 wz)) : Step Tryd.prog ops Q E D base N i :=
  step_call hop (fun _ _ => by kernel_rfl) fun a w h => by
    obtain ⟨A, c, ex, ha⟩ := hx a w h
    have h0 := hT a w h
    have hT' : Tabs w := oldP.to h0
    have hb0 : Below wz.heap.size wz w := h0.2
    rw [show (#[x] : Array Operand).map a.eval = #[.slice A (Tm.len F) c] by rw [← ex]; simp, hE]
    exact (ostableS_any F A (Tm.len F) c w.heap.size w ha (by omega) hT' (Nat.le_refl _)).mono fun e w' hm => hm.R hb0.size
theorem step_okeysS {i : Nat} {x : Operand} {F : Fo} {wz : World} (hn : Tm.len F ≤ 50000) (tt : Nat) (hop : (ops[i]?).map (·.op) = some (.call { callee := .value (.func 18), args := #[x], argTypes := #[22] })) (hx : Opd ops E D base N i x (.row F)) (hT : Opd ops E D base N i (.tmp tt) (.sat (oldP .tabs wz))) (hE : E i = .sat (srtP (keysR F).1 (keysR F).2 wz)) : Step Tryd.prog ops Q E D base N i :=
  step_call hop (fun _ _ => by kernel_rfl) fun a w h => by
    obtain ⟨A, c, ex, ha⟩ := hx a w h
    have h0 := hT a w h
    have hT' : Tabs w := oldP.to h0
    have hb0 : Below wz.heap.size wz w := h0.2
    rw [show (#[x] : Array Operand).map a.eval = #[.slice A (Tm.len F) c] by rw [← ex]; simp, hE]
    exact (okeysS_any F A (Tm.len F) c w.heap.size w ha (by omega) hT' (Nat.le_refl _)).mono fun e w' hm => hm.R hb0.size
theorem step_srt0 {i : Nat} {x : Operand} {F : Fo} {n : Int} {wz : World} (hop : (ops[i]?).map (·.op) = some (.extract x 0)) (hx : Opd ops E D base N i x (.sat (srtP F n wz))) (hE : E i = .sat (Go.Proofs.YtcjakmafojbhlaaDoor.rngE F wz)) : Step Tryd.prog ops Q E D base N i :=
  step_still hop hE fun a w h dst ty' pos after guard => by
    obtain ⟨u, e, hu⟩ := hx a w h
    refine ⟨u, ?_, hu⟩
    unfold execOp
    simp only [e]
    go_simp
theorem step_srt1 {i : Nat} {x : Operand} {F : Fo} {n : Int} {wz : World} (hop : (ops[i]?).map (·.op) = some (.extract x 1)) (hx : Opd ops E D base N i x (.sat (srtP F n wz))) (hE : E i = .val (.int .i64 n)) : Step Tryd.prog ops Q E D base N i :=
  step_still hop hE fun a w h dst ty' pos after guard => by
    obtain ⟨u, e, hu⟩ := hx a w h
    refine ⟨.int .i64 n, ?_, rfl⟩
    unfold execOp
    simp only [e]
    go_simp
theorem step_rcloneB {i tt : Nat} {x : Operand} {p : Pay} {l : Fo} {wB : World} (hv : Tm.validB p l = true) (hop : (ops[i]?).map (·.op) = some (.call { callee := .value (.func 24), args := #[x], argTypes := #[24] })) (hx : Opd ops E D base N i x (.term p l)) (hT : Opd ops E D base N i (.tmp tt) (.sat (oldP .any wB))) (hE : E i = .sat (newT p l wB.heap.size)) : Step Tryd.prog ops Q E D base N i :=
  step_call hop (fun _ _ => by kernel_rfl) fun a w h => by
    obtain ⟨A, c, ex, ha⟩ := hx a w h
    have hb0 : Below wB.heap.size wB w := (hT a w h).2
    have ec : Tm.cloneOf p l = (p, l) := by unfold Tm.cloneOf; rw [hv]; rfl
    have hc := rclone_any p l A c w.heap.size w ha (Nat.le_refl _)
    rw [ec] at hc
    rw [show (#[x] : Array Operand).map a.eval = #[tv p A (Tm.len l) c] by rw [← ex]; simp, hE]
    refine hc.mono ?_
    rintro e w' ⟨A1, c1, rfl, h1, h2⟩
    exact ⟨_, rfl, ⟨A1, c1, rfl, h1.mono fun b hb => ⟨Nat.le_trans hb0.size hb.1, hb.2⟩⟩, h2⟩
end
theorem stepT {L T : Fo} {k : Nat} {p : Pay} {l r : Fo} (h : L = Tm.app T (Tm.dropF L k)) (d : Tm.dropF L k = .node p l r) : L = Tm.app (Tm.app T (.node p l .nil)) (Tm.dropF L (k + 1)) := by
  rw [Tm.app_assoc, Tm.drop_succ d]
  show L = Tm.app T (.node p l r)
  rw [← d]
  exact h
theorem allV_sortR (F : Fo) : Tm.allV (sortR F).1 = true := by
  cases h : Tm.allV F
  · unfold sortR; rw [h]; rfl
  · unfold sortR
    rw [if_pos h]
    exact Tm.allV_iff.2 fun x hx => by
      rw [Tm.toL_ofL] at hx
      exact Tm.allV_iff.1 h x (Tm.sortL_mem.1 (Tm.uniq_mem hx))
theorem allV_stableR (F : Fo) : Tm.allV (stableR F).1 = true := by
  cases h : Tm.allV F
  · unfold stableR; rw [h]; rfl
  · unfold stableR
    rw [if_pos h]
    exact Tm.allV_iff.2 fun x hx => by
      rw [Tm.toL_ofL] at hx
      exact Tm.allV_iff.1 h x (Tm.sortL_mem.1 hx)
theorem allV_keysR (F : Fo) : Tm.allV (keysR F).1 = true := by
  cases h : Tm.allV F
  · unfold keysR; rw [h]; rfl
  · cases hp : Tm.allPairs F
    · unfold keysR; rw [h, hp]; rfl
    · unfold keysR
      rw [if_pos h, if_pos hp]
      exact Tm.allV_iff.2 fun x hx => by
        rw [Tm.toL_ofL] at hx
        exact Tm.allV_iff.1 h x (Tm.sortL_mem.1 hx)
/-- What stays when only blocks of X are written. -/
def Kd.Bears (X : Nat → Prop) (k : Kd) : Prop := ∀ v w w', k.R v w → Only X w w' → k.R v w'
theorem Bears.old {X : Nat → Prop} {k : Kd} {wz : World} (hX : ∀ b, X b → wz.heap.size ≤ b) : (Kd.sat (oldP k wz)).Bears X := fun v w w' h ho => ⟨h.1, h.2.trans (ho.below h.2.size hX)⟩
theorem Bears.val {X : Nat → Prop} {u : Value} : (Kd.val u).Bears X := fun v w w' h ho => h
theorem Bears.rng {X : Nat → Prop} {F : Fo} {wa wb : World} (hX : ∀ b, X b → b < wa.heap.size ∨ wb.heap.size ≤ b) : (Kd.sat (rngP F wa wb)).Bears X := by
  rintro v w w' ⟨A, c, e, h⟩ ho
  exact ⟨A, c, e, h.keep ho.size fun b h1 h2 => ho.block b (Nat.lt_of_lt_of_le h2 h.le) fun hx => by rcases hX b hx with h3 | h3 <;> omega⟩
theorem Bears.was {X : Nat → Prop} {F : Fo} {wm : World} (hX : ∀ b, X b → b < wm.heap.size) : (Kd.sat (wasP F wm)).Bears X := by
  rintro v w w' ⟨A, c, e, h⟩ ho
  exact ⟨A, c, e, h.only ho.size fun b h1 h2 => ho.block b h2 fun hx => by have := hX b hx; omega⟩
/-- The region that spoils a row. -/
theorem spoil_region {ops : Array Oper} {Q : Exit → Act → World → Prop} {k s d1 d2 : Nat} {env env' : Env} {F : Fo} {wz wa wb w : World} {a : Act} (hsz : ops.size = 2)
    (hop0 : (ops[0]?).map (fun o => (o.op, o.dst, o.guard)) = some (.move (.tmp s), some d1, none))
    (hop1 : (ops[1]?).map (fun o => (o.op, o.dst, o.guard)) = some (.call { callee := .value (.func 25), args := #[.tmp d1], argTypes := #[22] }, some d2, none))
    (h : Hold 110 env wz a w) (hs : look env s = some (.sat (rngP F wa wb))) (hn : Tm.len F ≤ 50000) (hd1 : d1 < 110) (hz : wz.heap.size ≤ wa.heap.size)
    (hb : ∀ t k, look env' t = some k → t ≠ d1 ∧ t ≠ d2 ∧ look env t = some k ∧ k.Bears (fun b => wa.heap.size ≤ b ∧ b < wb.heap.size))
    (hQ : ∀ a' w', Hold 110 env' wz a' w' → Q .normal a' w') : (Code.region k ops false).wp Tryd.prog Q a w := by
  refine region_seq (w0 := w) 2 hsz ?_
  rw [show List.range 2 = [0, 1] from rfl]
  obtain ⟨A, c, e, hr⟩ := h.get s hs
  refine ops_at hop0 fun ty pos after => ?_
  have hmv : (execOp a.eval ⟨some d1, .move (.tmp s), ty, pos, after, none⟩).run Tryd.prog w = .ok (.value (a.tmps.getD s undef)) w := rfl
  refine wp_run hmv ?_
  have hv : (a.put (some d1) (a.tmps.getD s undef)).eval (.tmp d1) = .slice A (Tm.len F) c := (put_self (by rw [h.size]; exact hd1)).trans e
  refine env_call (env := []) (w0 := w) (tys := #[22]) (i := 1) (d := d2) (f := 25) (xs := #[.tmp d1]) hop1 (fun _ _ => by kernel_rfl) (vs := #[.slice A (Tm.len F) c]) ?_ (spoil_any F A c _ _ w (by omega) hr) ?_
  · rw [← hv]; simp
  · rintro x_ w' ⟨he, ho⟩
    refine ⟨_, he, hQ _ _ ⟨put_size.trans (put_size.trans h.size), h.defers, h.world.trans (ho.below h.world.size fun b hb' => Nat.le_trans hz hb'.1), fun t k hk => ?_⟩⟩
    obtain ⟨n1, n2, n3, n4⟩ := hb t k hk
    rw [put_other n2, put_other n1]
    exact n4 _ _ _ (h.slots t k n3) ho
end Go.Proofs.YtcjakmafojbhlaaDoor
