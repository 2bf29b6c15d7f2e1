/-
  package term's rebuilt, at a structure and as a whole.
  A term that is stored into the cell of a result.
  The parts of a term by which package order sorts, and the closure that compares them; its equality.
  The closure that package order sorts by.
  package term's rebuilt for every valid term; its copied and Clone.
  A row of terms that a call makes by appending one term after another.
  slices.Clone and slices.SortStableFunc at terms, and package order's sorted.
  The reference's copied.
  Copies and makers of terms: Clone, valid, Var, Int, Atom, Struct, Indicator of the package and of the reference.
  Package order's copied: a new row of copies.
  Functions that ask of each element of a row: whether all are valid, or pairs.
  A row of terms of a call's own, made by appending rows.
  The library's CompactFunc at a sorted row of terms, in place.
  PLAIN MATHEMATICS: sorting by insertion, as the reference does.
-/
import Derived.Test.YtcjakmafojbhlaaDoorPartA
import Derived.Test.YtcjakmafojbhlaaDoorPartD
import Derived.Deep.AppendLies
import Derived.Deep.RegionHeld3
import Derived.Deep.RegionLaw
import Derived.Lib.SliceRun
import Derived.WalkKit
import Derived.Deep.LoopGhost
import Derived.Lib.Walk
import Derived.Deep.Upon
namespace Go.Proofs.YtcjakmafojbhlaaDoor
set_option linter.unusedVariables false
set_option linter.unusedSimpArgs false
open Go.RowKit

theorem run_make_terms (n : Nat) (hn : n ≤ 8) (w : World) : (Instr.makeSlice 22 (.int .i64 n) (.int .i64 n)).run Tryd.prog w = .ok (.slice (some ⟨w.heap.size, 0, none⟩) n n) (w.alloc (.cells (madeCells (tv zp none 0 0).cells (n * 4)) 24)) := by
  obtain ⟨i, hi, hz, h1, h2⟩ := info_parts term_info3
  have h := run_make (P := Tryd.prog) w 22 24 i (tv zp none 0 0) Tryd.underlying22 hi hz .i64 .i64 n n (by omega) (Int.le_refl _) (by rw [h2]; omega) (by omega)
  rw [h1] at h
  simpa using h

/-- Block g holds n terms, the first of which are vs; all its cells can be written. -/
structure Filling (w : World) (g n : Nat) (vs : List Value) : Prop where
  cells : ∀ j u, (tcells vs)[j]? = some u → w.cell? ⟨g, j, none⟩ = some u
  some_ : ∀ j, j < n * 4 → (w.cell? ⟨g, j, none⟩).isSome = true
  soft : ∀ j, j < n * 4 → w.frozen? ⟨g, j, none⟩ = false
theorem Filling.same {w w' : World} {g n : Nat} {vs : List Value} (h : Filling w g n vs) (hk : w'.heap[g]? = w.heap[g]?) : Filling w' g n vs :=
  ⟨fun j u hu => (cell_of_block (p := ⟨g, j, none⟩) hk).trans (h.cells j u hu), fun j hj => by rw [cell_of_block (p := ⟨g, j, none⟩) hk]; exact h.some_ j hj, fun j hj => (frozen_of_block (p := ⟨g, j, none⟩) hk).trans (h.soft j hj)⟩
theorem Filling.new (w : World) (n : Nat) (z : Array Value) : Filling (w.alloc (.cells (madeCells z (n * 4)) 24)) w.heap.size n [] := by
  have h := alloc_new w (.cells (madeCells z (n * 4)) 24)
  refine ⟨fun j u hu => by simp [tcells] at hu, fun j hj => ?_, fun j hj => ?_⟩
  · rw [cell_of_row _ _ _ _ _ _ h, Array.getElem?_eq_getElem (by rw [size_madeCells]; exact hj)]
    rfl
  · unfold World.frozen?; rw [h]; rfl
theorem Filling.four {w : World} {g n : Nat} {vs : List Value} (h : Filling w g n vs) {k : Nat} (hk : k < n) : Four w g (k * 4) := ⟨h.some_ _ (by omega), h.some_ _ (by omega), h.some_ _ (by omega), h.some_ _ (by omega)⟩
theorem Filling.set {w : World} {g n : Nat} {vs : List Value} (h : Filling w g n vs) {k : Nat} (hk : k < n) (hv : (tcells vs).length = k * 4) (p : Pay) (A : Option Addr) (m c : Nat) :
    Filling (set4 w g (k * 4) p A m c) g n (vs ++ [tv p A m c]) := by
  obtain ⟨h0, h1, h2, h3⟩ := set4_cells w g (k * 4) p A m c (h.four hk)
  have hin : ∀ j, j < n * 4 → ((set4 w g (k * 4) p A m c).cell? ⟨g, j, none⟩).isSome = true := by
    intro j hj
    by_cases hf : j < k * 4 ∨ k * 4 + 4 ≤ j
    · rw [set4_far w g (k * 4) p A m c j hf]; exact h.some_ j hj
    · obtain rfl | rfl | rfl | rfl : j = k * 4 ∨ j = k * 4 + 1 ∨ j = k * 4 + 2 ∨ j = k * 4 + 3 := by omega
      · rw [h0]; rfl
      · rw [h1]; rfl
      · rw [h2]; rfl
      · rw [h3]; rfl
  refine ⟨fun j u hu => ?_, hin, fun j hj => by rw [set4_frozen]; exact h.soft j hj⟩
  rw [tcells_snoc] at hu
  by_cases hj : j < k * 4
  · rw [List.getElem?_append_left (by omega)] at hu
    rw [set4_far w g (k * 4) p A m c j (.inl hj)]
    exact h.cells j u hu
  · rw [List.getElem?_append_right (by omega), hv] at hu
    obtain ⟨i, rfl⟩ : ∃ i, j = k * 4 + i := ⟨j - k * 4, by omega⟩
    rw [Nat.add_sub_cancel_left] at hu
    match i, hu with
    | 0, hu => cases hu; exact h0
    | 1, hu => cases hu; exact h1
    | 2, hu => cases hu; exact h2
    | 3, hu => cases hu; exact h3
    | _ + 4, hu => cases hu

theorem Vals.mono' {S S' : Nat → Prop} {w : World} {vs : List Value} {F : Fo} (h : Vals S w vs F) (hS : ∀ b, S b → S' b) : Vals S' w vs F := Vals.mono hS vs F h
/-- What the recursion hands on. -/
def Rebuilds {σ : Type} (f : σ → Int → σ × Pay × Fo) (g : Nat) (cap : Array Value) (B Bo Bx : Nat) (X : Nat → Prop) (Inv : σ → World → Prop) (m : Nat) : Prop :=
  ∀ (p : Pay) (l : Fo) (A : Option Addr) (c : Nat) (s : σ) (w : World), Tm.size l < m → ArgsB w B A (Tm.len l) l → Tm.goodB p l = true → Inv s w → Bx ≤ w.heap.size →
    Calls Tryd.prog 82 #[tv p A (Tm.len l) c, .func (.func g) #[] cap] w (RebDoes f Bo X Inv s p l w)

set_option maxHeartbeats 4000000 in
theorem rebuilt_struct {σ : Type} (f : σ → Int → σ × Pay × Fo) (g : Nat) (cap : Array Value) (B Bo Bx : Nat) (X : Nat → Prop) (Inv : σ → World → Prop) (O : OfSpec f g cap B Bo Bx X Inv) (m : Nat) (ih : Rebuilds f g cap B Bo Bx X Inv m)
    (nm : ByteArray) (l : Fo) (A : Option Addr) (c : Nat) (s : σ) (w : World) (hm : Tm.size l ≤ m) (hA : ArgsB w B A (Tm.len l) l) (hall : Tm.allB l = true) (hlen : Tm.len l ≤ 8) (hI : Inv s w) (hB : Bx ≤ w.heap.size) :
    Calls Tryd.prog 82 #[tv (3, 0, nm) A (Tm.len l) c, .func (.func g) #[] cap] w (RebDoes f Bo X Inv s (3, 0, nm) l w) := by
  have OO := Lib.hid O
  have HI := Lib.hid hI
  have IH := Lib.hid ih
  have HM := Lib.hid hm
  have HALL := Lib.hid hall
  obtain ⟨n, hn⟩ : ∃ n, n = Tm.len l := ⟨_, rfl⟩
  rw [← hn] at hA hlen ⊢
  have HA := Lib.hid hA
  have HN := Lib.hid hn
  have hmk := fun w => run_make_terms n hlen w
  have hlo := O.lo
  have hlo2 := O.lo2
  clear O hI ih hm hall hA hn
  unfold RebDoes Tm.rebT
  rw [if_neg (show ¬ (3 : Int) = 0 by decide)]
  go_enter Tryd.func82, Tryd.ntmps82
  go_wp2_with fail
  go_loopw [25] (fun u wr => ∃ (k : Nat) (sk : σ) (vs : List Value) (acc : Fo), k ≤ n ∧ u = .int .i64 k ∧ Tm.reb f s l = ((Tm.reb f sk (Tm.dropF l k)).1, Tm.app acc (Tm.reb f sk (Tm.dropF l k)).2) ∧ vs.length = k ∧
    Vals (fun b => (b < Bo ∨ w.heap.size + 2 < b) ∧ b < wr.heap.size) wr vs acc ∧ Filling wr (w.heap.size + 2) n vs ∧ Inv sk wr ∧ Only X w wr ∧ w.heap.size + 2 < wr.heap.size ∧ TermAt wr w.heap.size (3, 0, nm) A n c ∧ TermAt wr (w.heap.size + 1) zp none 0 0 ∧ SoftAt wr (w.heap.size + 1)) (fun u _ => n - (intOf u).toNat)
  case atStart =>
    have k0 : ∀ o1 o2 o3 : Obj, Below w.heap.size w (((w.alloc o1).alloc o2).alloc o3) := fun o1 o2 o3 => Only.below (X := fun _ => False) ((((Only.refl _ w).alloc _).alloc _).alloc _) (Nat.le_refl _) (fun _ h => h.elim)
    have k1 : ∀ o1 o2 o3 : Obj, (((w.alloc o1).alloc o2).alloc o3).heap[w.heap.size]? = (w.alloc o1).heap[w.heap.size]? := fun o1 o2 o3 => (Below.heap_alloc _ _ _ (by simp; omega)).trans (Below.heap_alloc _ _ _ (by simp))
    have k2 : ∀ o1 o2 o3 : Obj, (((w.alloc o1).alloc o2).alloc o3).heap[w.heap.size + 1]? = ((w.alloc o1).alloc o2).heap[w.heap.size + 1]? := fun o1 o2 o3 => Below.heap_alloc _ _ _ (by simp)
    have k3 : ∀ (o1 o2 : Obj) z, Filling (((w.alloc o1).alloc o2).alloc (.cells (madeCells z (n * 4)) 24)) (w.heap.size + 2) n [] := fun o1 o2 z => by
      have := Filling.new ((w.alloc o1).alloc o2) n z
      rw [World.size_alloc, World.size_alloc] at this
      exact this
    have k4 : ∀ o1 : Obj, TermAt ((w.alloc o1).alloc (.cells #[.int .i64 0, .int .i64 0, .string ⟨#[]⟩, .slice none 0 0] 24)) (w.heap.size + 1) zp none 0 0 := fun o1 => by
      have := TermAt.new (w.alloc o1) zp none 0 0 24
      rw [World.size_alloc] at this
      exact this
    have k5 : ∀ (o1 : Obj) cs, SoftAt ((w.alloc o1).alloc (.cells cs 24)) (w.heap.size + 1) := fun o1 cs => by
      have := SoftAt.new (w.alloc o1) cs 24
      rw [World.size_alloc] at this
      exact this
    refine ⟨0, s, [], .nil, Nat.zero_le _, rfl, by rw [Tm.drop_zero]; rfl, rfl, trivial, k3 _ _ _, OO.out.keeps s w _ HI.out (by simp; omega) (fun j hj => (k0 _ _ _).block j (by omega)), Only.of_below (k0 _ _ _), by simp, (TermAt.new w (3, 0, nm) A n c 24).same (k1 _ _ _), (k4 _).same (k2 _ _ _), (k5 _ _).same (k2 _ _ _)⟩
  case round =>
    obtain ⟨k, sk, vs, acc, hk, rfl, hreb, hvl, hvals, hfill, hinv, honly, hwr, hta, htr, hsr⟩ := hrel
    have HREB := Lib.hid hreb
    have HVL := Lib.hid hvl
    have HV := Lib.hid hvals
    have HF := Lib.hid hfill
    have HINV := Lib.hid hinv
    have HO := Lib.hid honly
    have HT := Lib.hid hta
    have HTR := Lib.hid htr
    have HSR := Lib.hid hsr
    clear hreb hvl hvals hfill hinv honly hta htr hsr
    by_cases hlt : k < n
    · obtain ⟨b, o, p1, l1, r1, A1, c1, rfl, hbB, hd, hnode⟩ := HA.out.at hlt
      have hbw : b < w.heap.size := by have : b < B := hbB; omega
      have hbx : ¬ X b := fun hx => by have : b < B := hbB; have := (OO.out.own b hx).1; omega
      have y0 := (HO.out.cell (p := ⟨b, o + k * 4, none⟩) hbw hbx).trans hnode.kind
      have y1 := (HO.out.cell (p := ⟨b, o + k * 4 + 1, none⟩) hbw hbx).trans hnode.num
      have y2 := (HO.out.cell (p := ⟨b, o + k * 4 + 2, none⟩) hbw hbx).trans hnode.name
      have y3 := (HO.out.cell (p := ⟨b, o + k * 4 + 3, none⟩) hbw hbx).trans hnode.args
      have HD := Lib.hid hd
      have HII := Lib.hid (hnode.inn.only HO.out (fun b' (hb' : b' < B) => ⟨by omega, fun hx => by have := (OO.out.own b' hx).1; omega⟩))
      clear hd hnode
      have hs1 : Tm.size l1 < m := by have e := HD.out; have := Tm.size_drop_le l k; rw [e] at this; simp only [Tm.size] at this; have := HM.out; omega
      have hg1 : Tm.goodB p1 l1 = true := by have e := Tm.allB_drop HALL.out k; rw [HD.out, Tm.allB_cons, Bool.and_eq_true] at e; exact e.1
      have C1 := Lib.hid fun (w2 : World) (h2 : ArgsB w2 B A1 (Tm.len l1) l1) (h3 : Inv sk w2) (h4 : Bx ≤ w2.heap.size) => IH.out p1 l1 A1 c1 sk w2 hs1 h2 hg1 h3 h4
      obtain ⟨t, ht⟩ : ∃ t, t = Tm.rebT f sk p1 l1 := ⟨_, rfl⟩
      unfold RebDoes at C1
      rw [← ht] at C1
      obtain ⟨s2, p2, l2⟩ := t
      have hstep : Tm.reb f s l = ((Tm.reb f s2 (Tm.dropF l (k + 1))).1, Tm.app (Tm.app acc (.node p2 l2 .nil)) (Tm.reb f s2 (Tm.dropF l (k + 1))).2) := by
        rw [HREB.out, Tm.drop_succ HD.out, HD.out, Tm.reb_cons, ← ht, Tm.app_assoc]; rfl
      have HSTEP := Lib.hid hstep
      clear hs1 hg1 ht hstep
      have hws := HO.out.size
      go_wp2_with fail
      refine (C1.out _ ?_ ?_ ?_).mono ?_
      · exact HII.out.below ((Below.refl wr.heap.size wr).alloc (Nat.le_refl _) _) (by omega)
      · exact OO.out.keeps sk wr _ HINV.out (by simp) (fun j hj => Below.heap_alloc _ _ _ (by omega))
      · simp; omega
      rintro e w3 ⟨A2, c2, rfl, ha2, hi2, ho2⟩
      have ho3 : Only X wr w3 := ((Only.refl X wr).alloc _).trans ho2
      have hsz2 := ho2.size
      simp at hsz2
      have hown : ∀ j, w.heap.size ≤ j → ¬ X j := fun j hj hx => by have := (OO.out.own j hx).2; omega
      have hf3 : Filling w3 (w.heap.size + 2) n vs := HF.out.same (ho3.block _ hwr (hown _ (by omega)))
      have h4 := hf3.four hlt
      obtain ⟨u0, q0⟩ := Option.isSome_iff_exists.1 h4.c0
      obtain ⟨u1, q1⟩ := Option.isSome_iff_exists.1 h4.c1
      obtain ⟨u2, q2⟩ := Option.isSome_iff_exists.1 h4.c2
      obtain ⟨u3, q3⟩ := Option.isSome_iff_exists.1 h4.c3
      have z0 := hf3.soft (k * 4) (by omega)
      have z1 := hf3.soft (k * 4 + 1) (by omega)
      have z2 := hf3.soft (k * 4 + 2) (by omega)
      have z3 := hf3.soft (k * 4 + 3) (by omega)
      have HF3 := Lib.hid hf3
      have HA2 := Lib.hid ha2
      have HI2 := Lib.hid hi2
      have HO3 := Lib.hid ho3
      have HOWN := Lib.hid hown
      have H4 := Lib.hid h4
      clear hf3 ha2 hi2 ho2 ho3 hown h4 y0 y1 y2 y3
      obtain ⟨m2, hm2⟩ : ∃ m2, m2 = Tm.len l2 := ⟨_, rfl⟩
      rw [← hm2]
      have HM2 := Lib.hid hm2
      clear hm2
      go_wp2_with fail
      have g2 := set4_size w3 (w.heap.size + 2) (k * 4) p2 A2 m2 c2
      have g3 := set4_block w3 (w.heap.size + 2) (k * 4) p2 A2 m2 c2
      have g4 : Only X w (set4 w3 (w.heap.size + 2) (k * 4) p2 A2 m2 c2) := set4_only _ _ _ _ _ _ (HO.out.trans HO3.out) (by omega)
      have g5 := HF3.out.set hlt (by rw [Vals.tcells_len vs acc HV.out, HVL.out]) p2 A2 m2 c2
      have g6 : Vals (fun b => (b < Bo ∨ w.heap.size + 2 < b) ∧ b < (set4 w3 (w.heap.size + 2) (k * 4) p2 A2 m2 c2).heap.size) (set4 w3 (w.heap.size + 2) (k * 4) p2 A2 m2 c2) (vs ++ [tv p2 A2 m2 c2]) (Tm.app acc (.node p2 l2 .nil)) := by
        rw [HM2.out]
        refine Vals.snoc ?_ vs acc ?_
        · refine (HA2.out.keep (w' := set4 w3 (w.heap.size + 2) (k * 4) p2 A2 (Tm.len l2) c2) fun b hb => set4_block _ _ _ _ _ _ _ _ ?_).mono fun b hb => ?_
          · have := hb.1; simp at this; omega
          · have := hb.2; have := hb.1; rw [set4_size]; simp at this; omega
        · refine (Vals.keep (w' := set4 w3 (w.heap.size + 2) (k * 4) p2 A2 (Tm.len l2) c2) (fun b hb => (set4_block _ _ _ _ _ _ _ _ ?_).trans (HO3.out.block b hb.2 ?_)) vs acc HV.out).mono' fun b hb => ?_
          · have := hb.1; omega
          · rcases hb.1 with h | h
            · intro hx; have := (OO.out.own b hx).1; omega
            · exact HOWN.out b (by omega)
          · have := hb.1; have := hb.2; have := HO3.out.size; rw [set4_size]; omega
      have g7 := OO.out.keeps s2 w3 (set4 w3 (w.heap.size + 2) (k * 4) p2 A2 m2 c2) HI2.out (by rw [g2]; exact Nat.le_refl _) (fun j hj => g3 j (by omega))
      have hk1 := HO3.out.size
      have e0 := (g3 w.heap.size (by omega)).trans (HO3.out.block _ (by omega) (HOWN.out _ (by omega)))
      have e1 := (g3 (w.heap.size + 1) (by omega)).trans (HO3.out.block _ (by omega) (HOWN.out _ (by omega)))
      exact ⟨⟨k + 1, s2, vs ++ [tv p2 A2 m2 c2], Tm.app acc (.node p2 l2 .nil), by omega, by go_num, HSTEP.out, by rw [List.length_append, HVL.out]; rfl, g6, g5, g7, g4, by rw [g2]; omega, HT.out.same e0, HTR.out.same e1, HSR.out.same e1⟩, by simp [intOf]; omega⟩
    · obtain rfl : k = n := by omega
      have t0 := HT.out.name
      have q0 := HTR.out.kind
      have q1 := HTR.out.num
      have q2 := HTR.out.name
      have q3 := HTR.out.args
      have z0 := HSR.out.s0
      have z1 := HSR.out.s1
      have z2 := HSR.out.s2
      have z3 := HSR.out.s3
      go_wp2_with fail
      have g1 := set4_term wr (w.heap.size + 1) (3, 0, nm) (some ⟨w.heap.size + 2, 0, none⟩) k k HTR.out.four
      have g2 := set4_size wr (w.heap.size + 1) 0 (3, 0, nm) (some ⟨w.heap.size + 2, 0, none⟩) k k
      have g3 := set4_block wr (w.heap.size + 1) 0 (3, 0, nm) (some ⟨w.heap.size + 2, 0, none⟩) k k
      have g4 : Only X w (set4 wr (w.heap.size + 1) 0 (3, 0, nm) (some ⟨w.heap.size + 2, 0, none⟩) k k) := set4_only _ _ _ _ _ _ HO.out (by omega)
      have hreb : Tm.reb f s l = (sk, acc) := by
        rw [HREB.out, show k = Tm.len l from HN.out, Tm.drop_end]
        show (sk, Tm.app acc .nil) = _
        rw [Tm.app_nil]
      have hal : Tm.len acc = k := by rw [← Vals.len vs acc HV.out, HVL.out]
      refine bodyPost_ret (term_result (q := 4) rfl _ _ (w.heap.size + 1) (3, 0, nm) (some ⟨w.heap.size + 2, 0, none⟩) k k rfl g1) rfl ?_
      rw [hreb]
      refine ⟨some ⟨w.heap.size + 2, 0, none⟩, ⟨k, by rw [hal]⟩, ?_, OO.out.keeps sk wr _ HINV.out (Nat.le_of_eq g2.symm) (fun j hj => g3 j (by omega)), g4⟩
      show ArgsIn _ (set4 wr (w.heap.size + 1) 0 (3, 0, nm) (some ⟨w.heap.size + 2, 0, none⟩) k k) _ (Tm.len acc) acc
      have hv := Vals.keep (w' := set4 wr (w.heap.size + 1) 0 (3, 0, nm) (some ⟨w.heap.size + 2, 0, none⟩) k k) (fun b hb => g3 b (by have := hb.1; omega)) vs acc HV.out
      have hv2 : Vals (fun b => (b < Bo ∨ w.heap.size ≤ b) ∧ b < (set4 wr (w.heap.size + 1) 0 (3, 0, nm) (some ⟨w.heap.size + 2, 0, none⟩) k k).heap.size) _ vs acc := hv.mono' fun b hb => by have := hb.1; have := hb.2; rw [g2]; omega
      have hva := Vals.args (b := w.heap.size + 2) (o := 0) (by rw [g2]; omega) hv2 (by rw [HVL.out]; omega) (fun j u hu => by rw [Nat.zero_add]; exact ((HF.out.same (g3 _ (by omega))).cells j u hu))
      rw [HVL.out] at hva
      rw [hal]
      exact hva
end Go.Proofs.YtcjakmafojbhlaaDoor
namespace Go.Proofs.YtcjakmafojbhlaaDoor
set_option linter.unusedVariables false
set_option linter.unusedSimpArgs false
open Go.RowKit

/-- A result's cell that holds the zero Term and can be written. -/
structure ResAt (w : World) (r : Nat) : Prop where
  t : TermAt w r zp none 0 0
  s : SoftAt w r
theorem ResAt.new (w : World) (t : TypeId) (r : Nat) (h : w.heap.size = r) : ResAt (w.alloc (.cells #[.int .i64 0, .int .i64 0, .string ⟨#[]⟩, .slice none 0 0] t)) r := by
  subst h
  exact ⟨TermAt.new w zp none 0 0 t, SoftAt.new w _ t⟩
theorem ResAt.same {w w' : World} {r : Nat} (h : ResAt w r) (hk : w'.heap[r]? = w.heap[r]?) : ResAt w' r := ⟨h.t.same hk, h.s.same hk⟩
theorem ResAt.below {w w' : World} {r : Nat} (h : ResAt w r) {B : Nat} (hb : Below B w w') (hr : r < B) : ResAt w' r := h.same (hb.block r hr)

structure Stored (w1 w2 : World) (r : Nat) (p : Pay) (A : Option Addr) (n c : Nat) : Prop where
  term : TermAt w2 r p A n c
  soft : SoftAt w2 r
  size : w2.heap.size = w1.heap.size
  block : ∀ k, k ≠ r → w2.heap[k]? = w1.heap[k]?
  below : ∀ (B : Nat) (w : World), Below B w w1 → B ≤ r → Below B w w2
theorem stored (w1 : World) (r : Nat) (p p0 : Pay) (A A0 : Option Addr) (n c n0 c0 : Nat) (h : TermAt w1 r p0 A0 n0 c0) (hs : SoftAt w1 r) : Stored w1 (set4 w1 r 0 p A n c) r p A n c where
  term := set4_term w1 r p A n c h.four
  soft := ⟨by rw [set4_frozen]; exact hs.s0, by rw [set4_frozen]; exact hs.s1, by rw [set4_frozen]; exact hs.s2, by rw [set4_frozen]; exact hs.s3⟩
  size := set4_size w1 r 0 p A n c
  block := set4_block w1 r 0 p A n c
  below := fun B w hb hr => ⟨hb.os, hb.tape, hb.output, by rw [set4_size]; exact hb.size, fun k hk => (set4_block w1 r 0 p A n c k (by omega)).trans (hb.block k hk)⟩
theorem Stored.fresh {w1 w2 : World} {r : Nat} {p : Pay} {A : Option Addr} {n c : Nat} (h : Stored w1 w2 r p A n c) {N N' : Nat} {A' : Option Addr} {n' : Nat} {F : Fo} (ha : ArgsIn (fun b => N ≤ b ∧ b < w1.heap.size) w1 A' n' F) (hr : r < N) (hN : N' ≤ N) : ArgsIn (fun b => N' ≤ b ∧ b < w2.heap.size) w2 A' n' F :=
  (ha.keep fun b hb => h.block b (by omega)).mono fun b hb => ⟨by omega, by rw [h.size]; exact hb.2⟩
theorem Stored.args {w1 w2 : World} {r : Nat} {p : Pay} {A : Option Addr} {n c : Nat} (h : Stored w1 w2 r p A n c) {S : Nat → Prop} {A' : Option Addr} {n' : Nat} {F : Fo} (ha : ArgsIn S w1 A' n' F) (hS : ∀ b, S b → b ≠ r ∧ b < w1.heap.size) : ArgsB w2 w2.heap.size A' n' F :=
  (ha.keep fun b hb => h.block b (hS b hb).1).mono fun b hb => (by have := (hS b hb).2; show b < w2.heap.size; rw [h.size]; exact this)

/-- A term that a function makes: it lies in what the call made; nothing that was there has turned. -/
def Makes (p : Pay) (l : Fo) (w : World) (e : Ending) (w' : World) : Prop :=
  ∃ A c, e = .returned (tv p A (Tm.len l) c) ∧ ArgsIn (fun b => w.heap.size ≤ b ∧ b < w'.heap.size) w' A (Tm.len l) l ∧ Below w.heap.size w w'
end Go.Proofs.YtcjakmafojbhlaaDoor
namespace Go.Proofs.YtcjakmafojbhlaaDoor
set_option linter.unusedVariables false
set_option linter.unusedSimpArgs false
open Go.RowKit

theorem term_new2 (w : World) (o : Obj) (p : Pay) (A : Option Addr) (n c : Nat) : TermAt ((w.alloc o).alloc (.cells #[.int .i64 p.1, .int .i64 p.2.1, .string p.2.2, .slice A n c] 24)) (w.heap.size + 1) p A n c := by
  have := TermAt.new (w.alloc o) p A n c 24
  rwa [World.size_alloc] at this
set_option maxHeartbeats 1000000 in
theorem whole_any (p : Pay) (A : Option Addr) (n c : Nat) (w : World) : Calls Tryd.prog 42 #[tv p A n c] w fun e w' => e = .returned (tv p A n c) ∧ Below w.heap.size w w' := by
  go_enter Tryd.func42, Tryd.ntmps42
  go_wp2_with fail
  refine bodyPost_ret (term_result (q := 2) rfl _ _ (w.heap.size + 1) p A n c rfl (term_new2 _ _ _ _ _ _)) rfl ?_
  exact ⟨rfl, two_boxes w _ _⟩

set_option maxHeartbeats 1000000 in
theorem key_any (p : Pay) (p1 : Pay) (l1 r1 : Fo) (A : Option Addr) (c B : Nat) (w : World) (hA : ArgsB w B A (Tm.len (.node p1 l1 r1)) (.node p1 l1 r1)) (hB : B ≤ w.heap.size) :
    Calls Tryd.prog 46 #[tv p A (Tm.len (.node p1 l1 r1)) c] w fun e w' => (∃ A1 c1, e = .returned (tv p1 A1 (Tm.len l1) c1) ∧ ArgsB w' B A1 (Tm.len l1) l1) ∧ Below w.heap.size w w' := by
  have hk : 0 < Tm.len (.node p1 l1 r1) := by show 0 < Tm.len r1 + 1; omega
  obtain ⟨b, o, p2, l2, r2, A1, c1, rfl, hb, hd, hn⟩ := hA.at hk
  cases hd
  rw [Nat.zero_mul, Nat.add_zero] at hn
  obtain ⟨n, hnn⟩ : ∃ n, n = Tm.len (.node p1 l1 r1) := ⟨_, rfl⟩
  rw [← hnn] at hk ⊢
  have hbw : b < w.heap.size := Nat.lt_of_lt_of_le hb hB
  have HI := Lib.hid (hn.inn)
  have y0 := hn.kind
  have y1 := hn.num
  have y2 := hn.name
  have y3 := hn.args
  have hk2 : (0 : Int) < (n : Int) := by omega
  clear hn hA hnn
  obtain ⟨n1, hn1⟩ : ∃ n1, n1 = Tm.len l1 := ⟨_, rfl⟩
  rw [← hn1] at y3 HI ⊢
  clear hn1
  go_enter Tryd.func46, Tryd.ntmps46
  go_wp2_with fail
  refine bodyPost_ret (term_result (q := 2) rfl _ _ (w.heap.size + 1) p1 A1 n1 c1 rfl (term_new2 _ _ _ _ _ _)) rfl ?_
  exact ⟨⟨A1, c1, rfl, HI.out.below (two_boxes w _ _) hB⟩, two_boxes w _ _⟩
end Go.Proofs.YtcjakmafojbhlaaDoor
namespace Go.Proofs.YtcjakmafojbhlaaDoor
set_option linter.unusedVariables false
set_option linter.unusedSimpArgs false
open Go.RowKit
theorem Tabs.only {X : Nat → Prop} {w w' : World} (h : Tabs w) (ho : Only X w w') (hx : ¬ X 0) : Tabs w' := by
  unfold Tabs Lib.TabIs World.var? at *
  rw [lPlaces] at h ⊢
  simp only [Option.bind_some] at h ⊢
  have hlt : 0 < w.heap.size := by
    rcases Nat.lt_or_ge 0 w.heap.size with h' | h'
    · exact h'
    · rw [Array.getElem?_eq_none h'] at h; cases h
  rw [ho.block _ hlt hx]
  exact h
theorem Tabs.lt {w : World} (h : Tabs w) : 0 < w.heap.size := by
  unfold Tabs Lib.TabIs World.var? at h
  rw [lPlaces] at h
  simp only [Option.bind_some] at h
  rcases Nat.lt_or_ge 0 w.heap.size with h' | h'
  · exact h'
  · rw [Array.getElem?_eq_none h'] at h; cases h
/-- The function that gives the part. -/
def partId (b : Bool) : Nat := if b then 46 else 42
abbrev partFn (b : Bool) : Value := .func (.func (partId b)) #[] #[]
theorem enters_part (b : Bool) : ∀ (args : Array Value) (w : World), (callFunc (partId b) args).run Tryd.prog w = .ok (.enter (partId b) args) w := fun args w => by cases b <;> kernel_rfl
theorem part_any (b : Bool) (x : Tm.Tn) (A : Option Addr) (c B : Nat) (w : World) (hx : b = true → x.2 ≠ .nil) (hA : ArgsB w B A (Tm.len x.2) x.2) (hB : B ≤ w.heap.size) :
    Calls Tryd.prog (partId b) #[tv x.1 A (Tm.len x.2) c] w fun e w' => (∃ A1 c1, e = .returned (tv (Tm.part b x).1 A1 (Tm.len (Tm.part b x).2) c1) ∧ ArgsB w' B A1 (Tm.len (Tm.part b x).2) (Tm.part b x).2) ∧ Below w.heap.size w w' := by
  cases b with
  | false => exact (whole_any x.1 A (Tm.len x.2) c w).mono fun e w' ⟨he, hb⟩ => ⟨⟨A, c, he, hA.below hb hB⟩, hb⟩
  | true =>
    obtain ⟨p, l⟩ := x
    cases l with
    | nil => exact absurd rfl (hx rfl)
    | node p1 l1 r1 => exact key_any p p1 l1 r1 A c B w hA hB
theorem part_good (b : Bool) (x : Tm.Tn) (h : OkT b x) : Tm.goodB (Tm.part b x).1 (Tm.part b x).2 = true := by
  cases b with
  | false => exact h.1
  | true =>
    obtain ⟨p, l⟩ := x
    cases l with
    | nil => exact absurd rfl (h.2 rfl)
    | node p1 l1 r1 =>
      have := h.1
      unfold Tm.goodB at this
      rw [Bool.and_eq_true] at this
      exact (Tm.allB_node this.2).1
/-- A variable that holds a function. -/
def cellP (pc : Nat) (v : Value) : Pd := ⟨fun u w => u = .pointer (some ⟨pc, 0, none⟩) ∧ pc < w.heap.size ∧ w.cell? ⟨pc, 0, none⟩ = some v, fun _ _ _ h hb => ⟨h.1, Nat.lt_of_lt_of_le h.2.1 hb.size, (cell_of_block (p := ⟨pc, 0, none⟩) (hb.block _ h.2.1)).trans h.2.2⟩⟩
section
variable {ops : Array Oper} {Q : Exit → Act → World → Prop} {E : Nat → Kd} {D : Nat → Nat} {base : Nat → Option Kd} {N : Nat}
theorem step_load_func {i : Nat} {x : Operand} {pc : Nat} {f : Nat} (hop : (ops[i]?).map (·.op) = some (.load 34 x)) (hx : Opd ops E D base N i x (.sat (cellP pc (.func (.func f) #[] #[])))) (hE : E i = .val (.func (.func f) #[] #[])) : Step Tryd.prog ops Q E D base N i :=
  step_still hop hE fun a w h dst ty' pos after guard => by
    obtain ⟨e, hb, hc⟩ := hx a w h
    refine ⟨.func (.func f) #[] #[], ?_, rfl⟩
    unfold execOp
    simp only [e]
    go_simp
theorem step_part {b : Bool} {i : Nat} {t : Tmp} {x : Operand} {p : Pay} {l : Fo} (hx0 : b = true → l ≠ .nil) (hop : (ops[i]?).map (·.op) = some (.call { callee := .value (.tmp t), args := #[x], argTypes := #[24] })) (ht : Opd ops E D base N i (.tmp t) (.val (partFn b))) (hx : Opd ops E D base N i x (.term p l)) (hE : E i = .term (Tm.part b (p, l)).1 (Tm.part b (p, l)).2) : Step Tryd.prog ops Q E D base N i :=
  step_callv hop ht (enters_part b) fun a w h => by
    obtain ⟨A, c, ex, ha⟩ := hx a w h
    rw [show (#[x] : Array Operand).map a.eval ++ #[] = #[tv p A (Tm.len l) c] by rw [← ex]; simp, hE]
    exact (part_any b (p, l) A c w.heap.size w hx0 ha (Nat.le_refl _)).mono fun e w' ⟨⟨A1, c1, he, ha1⟩, hb⟩ => ⟨_, he, ⟨A1, c1, rfl, ha1.up hb.size⟩, hb⟩
end
noncomputable def oz0Ops : Array Oper := ((Tryd.f67.body).bind (findReg 0)).getD #[]
noncomputable def oz1Ops : Array Oper := ((Tryd.f67.body).bind (findReg 1)).getD #[]
theorem oz_body : Tryd.f67.body = some (.seq (.region 0 oz0Ops false) (.seq (.region 1 oz1Ops true) .ret)) := by kernel_rfl
theorem oz0_region {Q : Exit → Act → World → Prop} (b : Bool) (pc : Nat) (p : Pay) (l : Fo) (q : Pay) (m : Fo) (k1 : OkT b (p, l)) (k2 : OkT b (q, m)) {w0 : World} {a : Act} {w : World} (h : Hold 13 [(0, .term p l), (1, .term q m), (2, .sat (cellP pc (partFn b))), (999, .tabs)] w0 a w)
    (hQ : ∀ a' w', Hold 13 [(2, .sat (cellP pc (partFn b))), (3, .ptrT p l), (4, .ptrT q m), (999, .tabs)] w0 a' w' → Q .normal a' w') : (Code.region 0 oz0Ops false).wp Tryd.prog Q a w := by
  refine region_seq (w0 := w) 3 (by kernel_rfl) ?_
  rw [show List.range 3 = [0, 1, 2] from rfl]
  refine env_one (i := 0) (d := 3) (k := .ptrT p l) (step_box (by kernel_rfl) (Opd.of_base 0 rfl) rfl) (by kernel_rfl) (by decide) h ?_
  clear h
  intro a w h
  refine env_one (i := 1) (d := 4) (k := .ptrT q m) (step_box (by kernel_rfl) (Opd.of_base 1 rfl) rfl) (by kernel_rfl) (by decide) h ?_
  clear h
  intro a w h
  refine env_one (i := 2) (d := 5) (k := .val (.int .i64 0)) (step_assign (by kernel_rfl) (Opd.const _) rfl) (by kernel_rfl) (by decide) h ?_
  clear h
  intro a w h
  exact hQ a w (h.keep [2, 3, 4, 999])
def oz1Es (b : Bool) (pc : Nat) (p : Pay) (l : Fo) (q : Pay) (m : Fo) : List Kd := [
  .val (partFn b),
  .term p l,
  .term ((Tm.part b (p, l)).1) ((Tm.part b (p, l)).2),
  .val (partFn b),
  .term q m,
  .term ((Tm.part b (q, m)).1) ((Tm.part b (q, m)).2),
  .val (.int .i64 (Tm.cmpT ((Tm.part b (p, l)).1) ((Tm.part b (p, l)).2) ((Tm.part b (q, m)).1) ((Tm.part b (q, m)).2))),
  .val (.int .i64 (Tm.cmpT ((Tm.part b (p, l)).1) ((Tm.part b (p, l)).2) ((Tm.part b (q, m)).1) ((Tm.part b (q, m)).2)))]
def oz1Ds : List Nat := [6, 7, 8, 9, 10, 11, 12, 5]
def oz1Env (b : Bool) (pc : Nat) (p : Pay) (l : Fo) (q : Pay) (m : Fo) : Env := [(2, .sat (cellP pc (partFn b))), (3, .ptrT p l), (4, .ptrT q m), (999, .tabs)]
theorem oz1_0 {Q : Exit → Act → World → Prop} (b : Bool) (pc : Nat) (p : Pay) (l : Fo) (q : Pay) (m : Fo) (k1 : OkT b (p, l)) (k2 : OkT b (q, m)) : RStep oz1Ops Q (fun i => ((oz1Es b pc p l q m)[i]?).getD .any) (fun i => (oz1Ds[i]?).getD (1000 + i)) (look (oz1Env b pc p l q m)) 13 0 := fun _ => step_load_func (by kernel_rfl) (Opd.of_base 2 rfl) rfl
theorem oz1_1 {Q : Exit → Act → World → Prop} (b : Bool) (pc : Nat) (p : Pay) (l : Fo) (q : Pay) (m : Fo) (k1 : OkT b (p, l)) (k2 : OkT b (q, m)) : RStep oz1Ops Q (fun i => ((oz1Es b pc p l q m)[i]?).getD .any) (fun i => (oz1Ds[i]?).getD (1000 + i)) (look (oz1Env b pc p l q m)) 13 1 := fun _ => step_load_term (by kernel_rfl) (Opd.of_base 3 rfl) rfl
theorem oz1_2 {Q : Exit → Act → World → Prop} (b : Bool) (pc : Nat) (p : Pay) (l : Fo) (q : Pay) (m : Fo) (k1 : OkT b (p, l)) (k2 : OkT b (q, m)) : RStep oz1Ops Q (fun i => ((oz1Es b pc p l q m)[i]?).getD .any) (fun i => (oz1Ds[i]?).getD (1000 + i)) (look (oz1Env b pc p l q m)) 13 2 := fun _ => step_part k1.2 (by kernel_rfl) (Opd.dep 0 rfl rfl (by kernel_rfl)) (Opd.dep 1 rfl rfl (by kernel_rfl)) rfl
theorem oz1_3 {Q : Exit → Act → World → Prop} (b : Bool) (pc : Nat) (p : Pay) (l : Fo) (q : Pay) (m : Fo) (k1 : OkT b (p, l)) (k2 : OkT b (q, m)) : RStep oz1Ops Q (fun i => ((oz1Es b pc p l q m)[i]?).getD .any) (fun i => (oz1Ds[i]?).getD (1000 + i)) (look (oz1Env b pc p l q m)) 13 3 := fun _ => step_load_func (by kernel_rfl) (Opd.of_base 2 rfl) rfl
theorem oz1_4 {Q : Exit → Act → World → Prop} (b : Bool) (pc : Nat) (p : Pay) (l : Fo) (q : Pay) (m : Fo) (k1 : OkT b (p, l)) (k2 : OkT b (q, m)) : RStep oz1Ops Q (fun i => ((oz1Es b pc p l q m)[i]?).getD .any) (fun i => (oz1Ds[i]?).getD (1000 + i)) (look (oz1Env b pc p l q m)) 13 4 := fun _ => step_load_term (by kernel_rfl) (Opd.of_base 4 rfl) rfl
theorem oz1_5 {Q : Exit → Act → World → Prop} (b : Bool) (pc : Nat) (p : Pay) (l : Fo) (q : Pay) (m : Fo) (k1 : OkT b (p, l)) (k2 : OkT b (q, m)) : RStep oz1Ops Q (fun i => ((oz1Es b pc p l q m)[i]?).getD .any) (fun i => (oz1Ds[i]?).getD (1000 + i)) (look (oz1Env b pc p l q m)) 13 5 := fun _ => step_part k2.2 (by kernel_rfl) (Opd.dep 3 rfl rfl (by kernel_rfl)) (Opd.dep 4 rfl rfl (by kernel_rfl)) rfl
theorem oz1_6 {Q : Exit → Act → World → Prop} (b : Bool) (pc : Nat) (p : Pay) (l : Fo) (q : Pay) (m : Fo) (k1 : OkT b (p, l)) (k2 : OkT b (q, m)) : RStep oz1Ops Q (fun i => ((oz1Es b pc p l q m)[i]?).getD .any) (fun i => (oz1Ds[i]?).getD (1000 + i)) (look (oz1Env b pc p l q m)) 13 6 := fun _ => step_ocompare (part_good b (p, l) k1) (part_good b (q, m) k2) 999 (by kernel_rfl) (Opd.dep 2 rfl rfl (by kernel_rfl)) (Opd.dep 5 rfl rfl (by kernel_rfl)) (Opd.of_base 999 rfl) rfl
theorem oz1_7 {Q : Exit → Act → World → Prop} (b : Bool) (pc : Nat) (p : Pay) (l : Fo) (q : Pay) (m : Fo) (k1 : OkT b (p, l)) (k2 : OkT b (q, m)) : RStep oz1Ops Q (fun i => ((oz1Es b pc p l q m)[i]?).getD .any) (fun i => (oz1Ds[i]?).getD (1000 + i)) (look (oz1Env b pc p l q m)) 13 7 := fun _ => step_assign (by kernel_rfl) (Opd.dep 6 rfl rfl (by kernel_rfl)) rfl
theorem oz1_region {Q : Exit → Act → World → Prop} (b : Bool) (pc : Nat) (p : Pay) (l : Fo) (q : Pay) (m : Fo) (k1 : OkT b (p, l)) (k2 : OkT b (q, m)) {w0 : World} {a : Act} {w : World} (h : Hold 13 [(2, .sat (cellP pc (partFn b))), (3, .ptrT p l), (4, .ptrT q m), (999, .tabs)] w0 a w)
    (hQ : ∀ a' w', Hold 13 [(5, .val (.int .i64 (Tm.cmpT ((Tm.part b (p, l)).1) ((Tm.part b (p, l)).2) ((Tm.part b (q, m)).1) ((Tm.part b (q, m)).2))))] w0 a' w' → Q .normal a' w') : (Code.region 1 oz1Ops true).wp Tryd.prog Q a w := by
  have hall : ∀ i, i < 0 → RStep oz1Ops Q (fun i => ((oz1Es b pc p l q m)[i]?).getD .any) (fun i => (oz1Ds[i]?).getD (1000 + i)) (look (oz1Env b pc p l q m)) 13 i := fun i hi => absurd hi (by omega)
  have hall := below_succ hall (oz1_0 b pc p l q m k1 k2)
  have hall := below_succ hall (oz1_1 b pc p l q m k1 k2)
  have hall := below_succ hall (oz1_2 b pc p l q m k1 k2)
  have hall := below_succ hall (oz1_3 b pc p l q m k1 k2)
  have hall := below_succ hall (oz1_4 b pc p l q m k1 k2)
  have hall := below_succ hall (oz1_5 b pc p l q m k1 k2)
  have hall := below_succ hall (oz1_6 b pc p l q m k1 k2)
  have hall := below_succ hall (oz1_7 b pc p l q m k1 k2)
  refine env_any (env := oz1Env b pc p l q m) (N := 13) (w0 := w0) oz1Ds (oz1Es b pc p l q m) (by kernel_rfl) (by kernel_rfl) (of_decide_eq_true (by kernel_rfl)) (fun i_ hi_ => hall i_ (by rw [show (oz1Es b pc p l q m).length = 8 by kernel_rfl] at hi_; exact hi_)) h fun a' w' h => ?_
  exact hQ a' w' (h.keep [5])
theorem sorted1_any (b : Bool) (pc : Nat) (p : Pay) (l : Fo) (q : Pay) (m : Fo) (A A' : Option Addr) (c c' : Nat) (w : World) (k1 : OkT b (p, l)) (k2 : OkT b (q, m)) (hA : ArgsB w w.heap.size A (Tm.len l) l) (hA' : ArgsB w w.heap.size A' (Tm.len m) m) (hc : pc < w.heap.size ∧ w.cell? ⟨pc, 0, none⟩ = some (partFn b)) (hT : Tabs w) :
    Calls Tryd.prog 67 #[tv p A (Tm.len l) c, tv q A' (Tm.len m) c', .pointer (some ⟨pc, 0, none⟩)] w fun e w' => e = .returned (.int .i64 (Tm.cmpK b (p, l) (q, m))) ∧ Below w.heap.size w w' := by
  refine calls_of_wp Tryd.func67 oz_body ?_
  obtain ⟨v0, hv0⟩ : ∃ v : Value, v = tv p A (Tm.len l) c := ⟨_, rfl⟩
  obtain ⟨v1, hv1⟩ : ∃ v : Value, v = tv q A' (Tm.len m) c' := ⟨_, rfl⟩
  obtain ⟨v2, hv2⟩ : ∃ v : Value, v = .pointer (some ⟨pc, 0, none⟩) := ⟨_, rfl⟩
  rw [← hv0, ← hv1, ← hv2]
  have hk0 : (Kd.term p l).R v0 w := ⟨A, c, hv0, hA⟩
  have hk1 : (Kd.term q m).R v1 w := ⟨A', c', hv1, hA'⟩
  have hk2 : (Kd.sat (cellP pc (partFn b))).R v2 w := ⟨hv2, hc⟩
  have hsN : (#[v0, v1, v2] ++ Array.replicate (Tryd.f67.ntmps - #[v0, v1, v2].size) undef : Array Value).size = 13 := by kernel_rfl
  have gs0 : (#[v0, v1, v2] ++ Array.replicate (Tryd.f67.ntmps - #[v0, v1, v2].size) undef : Array Value).getD 0 undef = v0 := by kernel_rfl
  have gs1 : (#[v0, v1, v2] ++ Array.replicate (Tryd.f67.ntmps - #[v0, v1, v2].size) undef : Array Value).getD 1 undef = v1 := by kernel_rfl
  have gs2 : (#[v0, v1, v2] ++ Array.replicate (Tryd.f67.ntmps - #[v0, v1, v2].size) undef : Array Value).getD 2 undef = v2 := by kernel_rfl
  generalize (#[v0, v1, v2] ++ Array.replicate (Tryd.f67.ntmps - #[v0, v1, v2].size) undef : Array Value) = tm at hsN gs0 gs1 gs2 ⊢
  refine wp_seq ?_
  refine oz0_region b pc p l q m k1 k2 (w0 := w) ⟨hsN, rfl, Below.refl _ _, (slots_cons 0 (by rw [gs0]; exact hk0) (slots_cons 1 (by rw [gs1]; exact hk1) (slots_cons 2 (by rw [gs2]; exact hk2) (slots_cons 999 (k0 := .tabs) hT slots_nil))))⟩ ?_
  intro a w1 h
  show Code.wp _ _ _ a w1
  refine wp_seq ?_
  refine oz1_region b pc p l q m k1 k2 h ?_
  intro a w1 h
  refine wp_ret ?_
  (try simp only [then_ret, block_ret])
  refine law_out rfl (h.get 5 rfl) h.defers ⟨rfl, h.world⟩

theorem cmpC_of {W : World} {blk pc : Nat} {b : Bool} (hc : pc < W.heap.size) (hv : W.cell? ⟨pc, 0, none⟩ = some (partFn b)) (hne : pc ≠ blk) (hT : Tabs W) (hg : 0 ≠ blk) : CmpC W blk pc b := by
  intro x y A A' c c' w ho k1 k2 hA hA'
  exact sorted1_any b pc x.1 x.2 y.1 y.2 A A' c c' w k1 k2 hA hA' ⟨Nat.lt_of_lt_of_le hc ho.size, (ho.cell (p := ⟨pc, 0, none⟩) hc hne).trans hv⟩ (hT.only ho hg)
end Go.Proofs.YtcjakmafojbhlaaDoor
namespace Go.Proofs.YtcjakmafojbhlaaDoor
set_option linter.unusedVariables false
set_option linter.unusedSimpArgs false
open Go.RowKit

/-! ### what a valid node says -/
theorem nodeB_var {v : Int} {s : ByteArray} {n : Nat} (h : Tm.nodeB (0, v, s) n = true) : 0 ≤ v ∧ v ≤ 1099511627776 ∧ s = ByteArray.empty ∧ n = 0 := by
  simp [Tm.nodeB] at h
  exact ⟨h.1.1.1, h.1.1.2, h.1.2, h.2⟩
theorem nodeB_struct {v : Int} {s : ByteArray} {n : Nat} (h : Tm.nodeB (3, v, s) n = true) : v = 0 ∧ s.size ≤ 100 ∧ 1 ≤ n ∧ n ≤ 8 := by
  simp [Tm.nodeB] at h
  exact ⟨h.1.1.1, h.1.1.2, h.1.2, h.2⟩
theorem nodeB_leaf {k v : Int} {s : ByteArray} {n : Nat} (h : Tm.nodeB (k, v, s) n = true) (h3 : ¬ k = 3) : n = 0 := by
  unfold Tm.nodeB at h
  simp only [] at h
  split at h
  · simp at h; exact h.2
  split at h
  · simp at h; exact h.2
  split at h
  · simp at h; exact h.2
  simp_all

theorem rebuilt_up {σ : Type} (f : σ → Int → σ × Pay × Fo) (g : Nat) (cap : Array Value) (B Bo Bx : Nat) (X : Nat → Prop) (Inv : σ → World → Prop) (O : OfSpec f g cap B Bo Bx X Inv) (m : Nat) : Rebuilds f g cap B Bo Bx X Inv m := by
  induction m with
  | zero => intro p l A c s w hm; omega
  | succ m ih =>
    intro p l A c s w hm hA hg hI hB
    obtain ⟨k, v, nm⟩ := p
    unfold Tm.goodB at hg
    rw [Bool.and_eq_true] at hg
    by_cases h0 : k = 0
    · subst h0
      have h := nodeB_var hg.1
      exact rebuilt_var f g cap B Bo Bx X Inv O v nm (Tm.len l) c A s w l h.1 h.2.1 hI hB
    by_cases h3 : k = 3
    · subst h3
      have h := nodeB_struct hg.1
      obtain ⟨rfl, h⟩ := h
      exact rebuilt_struct f g cap B Bo Bx X Inv O m ih nm l A c s w (by omega) hA hg.2 h.2.2 hI hB
    · have hn := nodeB_leaf hg.1 h3
      obtain rfl := Tm.len_zero hn
      exact rebuilt_leaf f g cap B Bo Bx X Inv O k v nm c A s w h0 h3 hI hB

/-! ### the copy -/
/-- Each variable stands for itself. -/
def keepF : Unit → Int → Unit × Pay × Fo := fun _ v => ((), (0, v, ByteArray.empty), .nil)
theorem reb_keep : ∀ F : Fo, Tm.allB F = true → (Tm.reb keepF () F).2 = F
  | .nil, _ => rfl
  | .node p l r, h => by
    simp only [Tm.allB, Bool.and_eq_true] at h
    rw [Tm.reb_cons]
    unfold Tm.rebT
    obtain ⟨k, v, s⟩ := p
    by_cases h0 : k = 0
    · subst h0
      have hh := nodeB_var h.1.1
      obtain ⟨_, _, rfl, h4⟩ := hh
      obtain rfl := Tm.len_zero h4
      rw [if_pos rfl]
      show Fo.node (0, v, ByteArray.empty) .nil (Tm.reb keepF () r).2 = _
      rw [reb_keep r h.2]
    · rw [if_neg h0]
      show Fo.node (k, v, s) (Tm.reb keepF () l).2 (Tm.reb keepF () r).2 = _
      rw [reb_keep l h.1.2, reb_keep r h.2]
theorem rebT_keep (p : Pay) (l : Fo) (h : Tm.goodB p l = true) : (Tm.rebT keepF () p l).2 = (p, l) := by
  unfold Tm.goodB at h
  rw [Bool.and_eq_true] at h
  unfold Tm.rebT
  obtain ⟨k, v, s⟩ := p
  by_cases h0 : k = 0
  · subst h0
    have hh := nodeB_var h.1
    obtain ⟨_, _, rfl, h4⟩ := hh
    obtain rfl := Tm.len_zero h4
    rw [if_pos rfl]; rfl
  · rw [if_neg h0]
    show ((k, v, s), (Tm.reb keepF () l).2) = _
    rw [reb_keep l h.2]

theorem copied1_any (v : Int) (w : World) : Calls Tryd.prog 83 #[.int .i64 v] w fun e w' => e = .returned (tv (0, v, ByteArray.empty) none 0 0) ∧ Below w.heap.size w w' := by
  go_enter Tryd.func83, Tryd.ntmps83
  go_wp2_with fail
  have g1 : TermAt (w.alloc (.cells #[.int .i64 0, .int .i64 v, .string ⟨#[]⟩, .slice none 0 0] 24)) w.heap.size (0, v, ByteArray.empty) none 0 0 := TermAt.new w (0, v, ByteArray.empty) none 0 0 24
  refine bodyPost_ret (term_result (q := 2) rfl _ _ w.heap.size (0, v, ByteArray.empty) none 0 0 rfl g1) rfl ?_
  exact ⟨rfl, (Below.refl _ _).alloc (Nat.le_refl _) _⟩
theorem enters_copied1 : ∀ (args : Array Value) (w : World), (callFunc 83 args).run Tryd.prog w = .ok (.enter 83 args) w := fun args w => by kernel_rfl
theorem copiedSpec (B : Nat) : OfSpec keepF 83 #[] B 0 B (fun _ => False) (fun _ _ => True) where
  enters := enters_copied1
  lo := Nat.le_refl _
  lo2 := Nat.zero_le _
  own := fun k h => h.elim
  keeps := fun _ _ _ _ _ _ => trivial
  gives := fun s v w _ _ _ _ => (copied1_any v w).mono fun e w' ⟨he, hb⟩ => ⟨none, 0, he, ArgsIn.nil _ _ _, trivial, Only.of_below hb⟩

set_option maxHeartbeats 1000000 in
theorem copied_any (p : Pay) (l : Fo) (A : Option Addr) (c B : Nat) (w : World) (hA : ArgsB w B A (Tm.len l) l) (hg : Tm.goodB p l = true) (hB : B ≤ w.heap.size) :
    Calls Tryd.prog 78 #[tv p A (Tm.len l) c] w (Makes p l w) := by
  unfold Makes
  have C1 := Lib.hid fun (w2 : World) (h2 : ArgsB w2 B A (Tm.len l) l) (h4 : B ≤ w2.heap.size) => rebuilt_up keepF 83 #[] B 0 B (fun _ => False) (fun _ _ => True) (copiedSpec B) (Tm.size l + 1) p l A c () w2 (by omega) h2 hg trivial h4
  unfold RebDoes at C1
  rw [rebT_keep p l hg] at C1
  obtain ⟨n, hn⟩ : ∃ n, n = Tm.len l := ⟨_, rfl⟩
  rw [← hn] at hA C1 ⊢
  have HA := Lib.hid hA
  clear hA hg hn
  go_enter Tryd.func78, Tryd.ntmps78
  go_wp2_with fail
  refine (C1.out _ ?_ ?_).mono ?_
  · exact HA.out.below (two_boxes w _ _) hB
  · simp; omega
  rintro e w1 ⟨A1, c1, rfl, ha1, -, ho1⟩
  have hb1 : Below (w.heap.size + 2) _ w1 := ho1.below (by simp) (fun k h => h.elim)
  have hsz := hb1.size
  simp at hsz
  have hr : ResAt w1 (w.heap.size + 1) := (ResAt.new (w.alloc _) 24 _ (by simp)).below hb1 (by omega)
  have hw1 : w.heap.size + 1 < w1.heap.size := by omega
  have r0 := hr.t.kind
  have r1 := hr.t.num
  have r2 := hr.t.name
  have r3 := hr.t.args
  have q0 := hr.s.s0
  have q1 := hr.s.s1
  have q2 := hr.s.s2
  have q3 := hr.s.s3
  have HA1 := Lib.hid ha1
  have HB1 := Lib.hid ((two_boxes w _ _).trans (hb1.mono (by omega)) : Below w.heap.size w w1)
  have HR := Lib.hid hr
  clear ha1 ho1 hb1 hr
  go_wp2_with fail
  have st := stored w1 (w.heap.size + 1) p zp A1 none n c1 0 0 HR.out.t HR.out.s
  show bodyPost _ _ _ _ _ (set4 w1 (w.heap.size + 1) 0 p A1 n c1)
  generalize set4 w1 (w.heap.size + 1) 0 p A1 n c1 = w2 at st ⊢
  refine bodyPost_ret (term_result (q := 2) rfl _ _ (w.heap.size + 1) p A1 n c1 rfl st.term) rfl ?_
  exact ⟨A1, c1, rfl, st.fresh (N := w.heap.size + 2) (HA1.out.mono (fun b hb => by have h1 := hb.1; have h2 := hb.2; simp only [World.size_alloc] at h1; omega)) (by omega) (by omega), st.below _ _ HB1.out (by omega)⟩
end Go.Proofs.YtcjakmafojbhlaaDoor
namespace Go.Proofs.YtcjakmafojbhlaaDoor
set_option linter.unusedVariables false
set_option linter.unusedSimpArgs false
open Go.RowKit

/-- The slice value (Ac, k, cc) is a row of the call's own, of the k terms acc, as the values vs; the block of the variable that bears it is H. -/
structure RowSt (H : Nat) (w : World) (vs : List Value) (acc : Fo) (Ac : Option Addr) (k cc : Nat) : Prop where
  len : vs.length = k
  vals : Vals (fun b => H < b ∧ b < w.heap.size ∧ (Value.slice Ac k cc).ownBlock ≠ some b) w vs acc
  own : w.ownsRow (H + 1) 24 4 (.slice Ac k cc) k (tcells vs)
  size : H < w.heap.size

theorem RowSt.start (H : Nat) (w : World) (h : H < w.heap.size) : RowSt H w [] .nil none 0 0 := ⟨rfl, trivial, World.ownsRow_nil w _ _ _, h⟩
theorem ownsRow_same {w w' : World} {base : Nat} {e : TypeId} {size : Nat} {v : Value} {n : Nat} {xs : List Value} (h : w.ownsRow base e size v n xs) (hk : ∀ g, v.ownBlock = some g → w'.heap[g]? = w.heap[g]?) : w'.ownsRow base e size v n xs := by
  refine ⟨h.1, ?_⟩
  rcases h.2 with hn | ⟨g, cap, cur, rfl, hb, hgg, rest⟩
  · exact .inl hn
  · exact .inr ⟨g, cap, cur, rfl, hb, (hk g rfl).trans hgg, rest⟩
theorem RowSt.keep {H : Nat} {w w' : World} {vs : List Value} {acc : Fo} {Ac : Option Addr} {k cc : Nat} (h : RowSt H w vs acc Ac k cc) (hs : w.heap.size ≤ w'.heap.size) (hk : ∀ b, b < w.heap.size → H < b → w'.heap[b]? = w.heap[b]?) : RowSt H w' vs acc Ac k cc where
  len := h.len
  vals := (Vals.keep (fun b hb => hk b hb.2.1 hb.1) vs acc h.vals).mono' fun b hb => ⟨hb.1, Nat.lt_of_lt_of_le hb.2.1 hs, hb.2.2⟩
  own := ownsRow_same h.own fun g hg => by have := h.own.lt g hg; exact hk g this.2 (by omega)
  size := Nat.lt_of_lt_of_le h.size hs
theorem RowSt.below {H : Nat} {w w' : World} {vs : List Value} {acc : Fo} {Ac : Option Addr} {k cc : Nat} (h : RowSt H w vs acc Ac k cc) (hb : Below w.heap.size w w') : RowSt H w' vs acc Ac k cc := h.keep hb.size fun b hlt _ => hb.block b hlt
theorem RowSt.push {H N : Nat} {w w' : World} {vs : List Value} {acc : Fo} {Ac : Option Addr} {k cc g cap : Nat} {p : Pay} {l : Fo} {A : Option Addr} {n c : Nat} (h : RowSt H w vs acc Ac k cc) (hn : n = Tm.len l)
    (hl : ∀ b, (Value.slice Ac k cc).ownBlock = some b → b < N) (hN : H < N) (ha : ArgsIn (fun b => N ≤ b ∧ b < w.heap.size) w A n l)
    (hown : w'.ownsRow (H + 1) 24 4 (.slice (some ⟨g, 0, none⟩) (k + 1) cap) (k + 1) (tcells vs ++ [.int .i64 p.1, .int .i64 p.2.1, .string p.2.2, .slice A n c]))
    (hgrow : w.grownBy w' (Value.slice Ac k cc).ownBlock) (hat : (Value.slice Ac k cc).ownBlock = some g ∨ g = w.heap.size) : RowSt H w' (vs ++ [tv p A n c]) (Tm.app acc (.node p l .nil)) (some ⟨g, 0, none⟩) (k + 1) cap := by
  subst hn
  refine ⟨by rw [List.length_append, h.len]; rfl, ?_, by rw [tcells_snoc]; exact hown, Nat.lt_of_lt_of_le h.size hgrow.size⟩
  have hne : ∀ b, b < w.heap.size → (Value.slice Ac k cc).ownBlock ≠ some b → (Value.slice (some ⟨g, 0, none⟩) (k + 1) cap).ownBlock ≠ some b := by
    intro b hb hx
    show some g ≠ some b
    intro e
    cases e
    rcases hat with h1 | h1
    · exact hx h1
    · omega
  refine Vals.snoc ?_ vs acc ?_
  · refine (ha.keep fun b hb => hgrow.block b hb.2 (fun e => ?_)).mono fun b hb => ⟨by omega, Nat.lt_of_lt_of_le hb.2 hgrow.size, hne b hb.2 (fun e => ?_)⟩
    · have := hl b e.symm; omega
    · have := hl b e; omega
  · exact (Vals.keep (fun b hb => hgrow.block b hb.2.1 (fun e => hb.2.2 e.symm)) vs acc h.vals).mono' fun b hb => ⟨hb.1, Nat.lt_of_lt_of_le hb.2.1 hgrow.size, hne b hb.2.1 hb.2.2⟩
theorem RowSt.args {H : Nat} {w : World} {vs : List Value} {acc : Fo} {Ac : Option Addr} {k cc : Nat} (h : RowSt H w vs acc Ac k cc) (hk : k ≤ 9223372036854775807) : ArgsIn (fun b => H < b ∧ b < w.heap.size) w Ac k acc := by
  have hlen : Tm.len acc = k := by rw [← Vals.len vs acc h.vals, h.len]
  by_cases h0 : k = 0
  · subst h0
    obtain rfl := Tm.len_zero hlen
    exact ArgsIn.nil _ _ _
  · have hv := h.vals.mono' (S' := fun b => H < b ∧ b < w.heap.size) fun b hb => ⟨hb.1, hb.2.1⟩
    obtain ⟨g, cap, e, hg1, hg2⟩ := h.own.form (by omega)
    injection e with e1 e2 e3
    subst e1
    have hc := h.own.cells (g := g) rfl
    have := Vals.args (b := g) (o := 0) ⟨by omega, hg2⟩ hv (by rw [h.len]; exact hk) (fun j u hu => by
      have := hc j u hu
      have hadd : (⟨g, 0, none⟩ : Addr).add j = ⟨g, j, none⟩ := by unfold Addr.add; split <;> simp_all
      rw [hadd] at this
      rw [Nat.zero_add]; exact this)
    rw [h.len] at this
    exact this
theorem TermAt.setArgs {w : World} {b : Nat} {p : Pay} {A : Option Addr} {n c : Nat} (h : TermAt w b p A n c) (A' : Option Addr) (n' c' : Nat) : TermAt (w.setCell ⟨b, 3, none⟩ (.slice A' n' c')) b p A' n' c' :=
  ⟨(cell_set (by decide)).trans h.kind, (cell_set (by decide)).trans h.num, (cell_set (by decide)).trans h.name, cell_put (by rw [h.args]; rfl)⟩
theorem SoftAt.setAny {w : World} {b : Nat} (h : SoftAt w b) (x : Addr) (u : Value) : SoftAt (w.setCell x u) b :=
  ⟨by rw [World.frozen?_setCell]; exact h.s0, by rw [World.frozen?_setCell]; exact h.s1, by rw [World.frozen?_setCell]; exact h.s2, by rw [World.frozen?_setCell]; exact h.s3⟩
theorem setCell_block (w : World) (b i : Nat) (u : Value) (k : Nat) (h : k ≠ b) : (w.setCell ⟨b, i, none⟩ u).heap[k]? = w.heap[k]? := Below.heap_setCell w ⟨b, i, none⟩ u k h
theorem setCell_size (w : World) (x : Addr) (u : Value) : (w.setCell x u).heap.size = w.heap.size := by simp [World.setCell]
theorem term_parts : ∃ i, Tryd.prog.info? 24 = some i ∧ i.zero = some (tv zp none 0 0) ∧ i.size = 4 ∧ i.bytes = 56 := info_parts term_info3
/-- Four cells that lie in a new block, as an append reads them. -/
theorem news_four (w : World) (p : Pay) (A : Option Addr) (n c : Nat) (t : TypeId) : ∀ j u, ([.int .i64 p.1, .int .i64 p.2.1, .string p.2.2, .slice A n c] : List Value)[j]? = some u → (w.alloc (.cells #[.int .i64 p.1, .int .i64 p.2.1, .string p.2.2, .slice A n c] t)).cell? ((⟨w.heap.size, 0, none⟩ : Addr).add j) = some u :=
  World.news_of_block (alloc_new w _)
theorem one_four (p : Pay) (A : Option Addr) (n c : Nat) : ∀ u ∈ ([.int .i64 p.1, .int .i64 p.2.1, .string p.2.2, .slice A n c] : List Value), u.oneCell' = true := by
  intro u hu
  simp at hu
  rcases hu with rfl | rfl | rfl | rfl <;> rfl
end Go.Proofs.YtcjakmafojbhlaaDoor
namespace Go.Proofs.YtcjakmafojbhlaaDoor
set_option linter.unusedVariables false
set_option linter.unusedSimpArgs false
open Go.RowKit
open Go.Sort (PermIn SortedIn)

set_option maxHeartbeats 1000000 in
/-- A copy of a row: nothing else is written. -/
theorem sclone_some (ad : Addr) (n c : Nat) (news : List Value) (w : World) (hl : news.length = n * 4) (hn : n ≤ 100000) (hc : ∀ j u, news[j]? = some u → w.cell? (ad.add j) = some u) (h1 : ∀ u ∈ news, u.oneCell' = true) :
    Calls Tryd.prog 65 #[.slice (some ad) n c] w fun e w' => ∃ v', e = .returned v' ∧ w'.ownsRow w.heap.size 24 4 v' n news ∧ Below w.heap.size w w' := by
  obtain ⟨i0, hi0, hz0, hz1, hz2⟩ := term_parts
  have q22 : ∀ (w : World) (a : Option Addr) (n c n' c' : Nat), (binOp .eql 22 (.slice a n c) (.slice none n' c')).run Tryd.prog w = .ok (.bool a.isNone) w := fun w a n c n' c' => Lib.run_eql_slice_nil w _ _ a n c n' c' Tryd.underlying22
  have A := Lib.hid hc
  clear hc
  go_enter Tryd.func65, Tryd.ntmps65
  go_wp2_with (at_builtin; refine wpList_append_own _ rfl _ _ 22 rfl w.heap.size 24 i0 (tv zp none 0 0) 4 56 Tryd.underlying22 hi0 hz0 hz1 hz2 rfl (by decide) _ _ _ rfl (World.ownsRow_made w #[] 0 (Nat.le_refl _) (Nat.zero_le _) (by simp)) ad n c news rfl ?qc1 ?qc2 ?qc3 ?qc4 ?qc5 ?qc6 ?_)
  case qc1 => exact hl
  case qc2 =>
    intro j u hj
    exact Lib.cell?_alloc_some _ (A.out j u hj)
  case qc3 => exact h1
  case qc4 => exact Nat.le_trans (by omega : 0 + n ≤ 100000) (by decide)
  case qc5 => omega
  case qc6 => simp
  intro v' w1 hown hgrow hnil
  go_wp2
  go_ret
  refine ⟨v', rfl, by simpa using hown, ?_⟩
  exact ((Below.refl _ w).alloc (Nat.le_refl _) _).grown hgrow (by simp) (by intro k hk; simp [Value.ownBlock] at hk; omega)
set_option maxHeartbeats 1000000 in
theorem sclone_none (n c : Nat) (w : World) : Calls Tryd.prog 65 #[.slice none n c] w fun e w' => e = .returned (.slice none 0 0) ∧ w' = w := by
  have q22 : ∀ (w : World) (a : Option Addr) (n c n' c' : Nat), (binOp .eql 22 (.slice a n c) (.slice none n' c')).run Tryd.prog w = .ok (.bool a.isNone) w := fun w a n c n' c' => Lib.run_eql_slice_nil w _ _ a n c n' c' Tryd.underlying22
  go_enter Tryd.func65, Tryd.ntmps65
  go_wp2
  go_ret
  exact ⟨rfl, rfl⟩
set_option maxHeartbeats 1000000 in
theorem insertion_zero (A : Option Addr) (c : Nat) (v : Value) (w : World) : Calls Tryd.prog 80 #[.slice A 0 c, .int .i64 0, .int .i64 0, v] w fun e w' => e = .returned (.tuple #[]) ∧ w' = w := by
  go_enter Tryd.func80, Tryd.ntmps80
  go_wp2
  go_loopw [8] (fun u wr => u = .int .i64 1 ∧ wr = w) (fun _ _ => 0)
  case atStart => exact ⟨rfl, rfl⟩
  case round =>
    obtain ⟨rfl, rfl⟩ := hrel
    go_wp2
    go_end0
    exact ⟨rfl, rfl⟩
set_option maxHeartbeats 1000000 in
theorem stable_zero (A : Option Addr) (c : Nat) (v : Value) (w : World) : Calls Tryd.prog 77 #[.slice A 0 c, .int .i64 0, v] w fun e w' => e = .returned (.tuple #[]) ∧ w' = w := by
  have INS := Lib.hid (insertion_zero A c v)
  go_enter Tryd.func77, Tryd.ntmps77
  go_wp2_with fail
  go_loopw [7, 8] (fun u v wr => u = .int .i64 0 ∧ v = .int .i64 20 ∧ wr = w) (fun _ _ _ => 0)
  case atStart => exact ⟨rfl, rfl, rfl⟩
  case round =>
    obtain ⟨rfl, rfl, rfl⟩ := hrel
    go_wp2_with fail
    refine (INS.out _).mono ?_
    rintro e w1 ⟨rfl, rfl⟩
    go_wp2_with fail
    go_loopw [6] (fun u wr => u = .int .i64 20 ∧ wr = w1) (fun _ _ => 0)
    case atStart => exact ⟨rfl, rfl⟩
    case round =>
      obtain ⟨rfl, rfl⟩ := hrel
      go_wp2
      go_end0
      exact ⟨rfl, rfl⟩
set_option maxHeartbeats 1000000 in
theorem sortStable_of (A : Option Addr) (n c : Nat) (v : Value) (w : World) (R : Ending → World → Prop) (h : Calls Tryd.prog 77 #[.slice A n c, .int .i64 n, v] w R) (hR : ∀ e w', R e w' → e = .returned (.tuple #[])) :
    Calls Tryd.prog 66 #[.slice A n c, v] w R := by
  have H := Lib.hid h
  have HR := Lib.hid hR
  clear h hR
  go_enter Tryd.func66, Tryd.ntmps66
  go_wp2_with fail
  refine H.out.mono ?_
  intro e w1 hr
  obtain rfl := HR.out _ _ hr
  go_wp2_with fail
  go_end0
  exact hr

/-- A row, as values. -/
theorem RowIn.vals {S : Nat → Prop} {w : World} : ∀ (F : Fo) (b o : Nat), RowIn S w F b o → ∃ vs, Vals S w vs F ∧ ∀ j u, (tcells vs)[j]? = some u → w.cell? ⟨b, o + j, none⟩ = some u
  | .nil, b, o, _ => ⟨[], trivial, fun j u h => by simp [tcells] at h⟩
  | .node p l r, b, o, ⟨h0, h1, h2, ⟨A, c, h3, hle, h4⟩, h5⟩ => by
    obtain ⟨vs, hv, hc⟩ := RowIn.vals r b (o + 4) h5
    refine ⟨tv p A (Tm.len l) c :: vs, ?_, fun j u hu => ?_⟩
    · exact ⟨⟨A, c, rfl, rfl, hle, h4⟩, hv⟩
    · have e : tcells (tv p A (Tm.len l) c :: vs) = .int .i64 p.1 :: .int .i64 p.2.1 :: .string p.2.2 :: .slice A (Tm.len l) c :: tcells vs := by simp [tcells, Value.cells]
      rw [e] at hu
      match j, hu with
      | 0, hu => cases hu; exact h0
      | 1, hu => cases hu; exact h1
      | 2, hu => cases hu; exact h2
      | 3, hu => cases hu; exact h3
      | j + 4, hu =>
        have := hc j u hu
        rwa [show o + (j + 4) = o + 4 + j by omega]
/-- The terms of a row, with their places. -/
def tagged (F : Fo) : Array Tg := (Tm.toL F).zipIdx.toArray
theorem tagged_size (F : Fo) : (tagged F).size = Tm.len F := by simp [tagged, Tm.len_toL]
theorem tagged_at {F : Fo} {k : Nat} (hk : k < Tm.len F) : ∃ r, Tm.dropF F k = .node (tagged F)[k]!.1.1 (tagged F)[k]!.1.2 r ∧ (tagged F)[k]!.2 = k := by
  obtain ⟨p, l, r, h⟩ := Tm.drop_at hk
  have h2 := Tm.toL_at h
  have h3 : (tagged F)[k]! = ((p, l), k) := by
    have h4 : (tagged F)[k]? = some ((p, l), k) := by simp [tagged, h2]
    have h5 : k < (tagged F).size := by rw [tagged_size]; exact hk
    rw [Array.getElem?_eq_getElem h5] at h4
    rw [getElem!_pos (tagged F) k h5]
    exact Option.some.inj h4
  exact ⟨r, by rw [h, h3], by rw [h3]⟩
theorem tagged_rise (F : Fo) : Rise 0 (Tm.len F) (tagged F) := fun i j _ h2 h3 => by
  obtain ⟨_, _, e1⟩ := tagged_at (F := F) (k := i) (by omega)
  obtain ⟨_, _, e2⟩ := tagged_at (F := F) (k := j) h3
  rw [e1, e2]; exact h2
theorem tagged_fit {b : Bool} {F : Fo} (h : ∀ x ∈ Tm.toL F, OkT b x) : Fit b (tagged F) := fun k hk => by
  rw [tagged_size] at hk
  obtain ⟨r, e, _⟩ := tagged_at hk
  exact h _ (List.mem_of_getElem? (Tm.toL_at e))
/-- A row of the call's own can be sorted in place. -/
theorem St.of_own {w : World} {g cap n base : Nat} {vs : List Value} {F : Fo} {B : Nat} (ho : w.ownsRow base 24 4 (.slice (some ⟨g, 0, none⟩) n cap) n (tcells vs)) (hv : Vals (fun b => b < B) w vs F) (hB : B ≤ base) : St w g (tagged F) w := by
  have hlt := ho.lt g rfl
  have hB' : ∀ b, b < B → b < w.heap.size ∧ b ≠ g := fun b hb => ⟨by omega, by omega⟩
  refine ⟨Only.refl _ _, hlt.2, fun k hk => ?_, fun o => ?_⟩
  · rw [tagged_size] at hk
    obtain ⟨r, e, _⟩ := tagged_at hk
    have hrow : RowIn (fun b => b < w.heap.size ∧ b ≠ g) w F g 0 := Vals.row g vs F 0 (hv.mono' hB') Tm.len_le_size fun j u hu => by
      have := ho.cells (g := g) rfl j u hu
      rw [show (⟨g, 0, none⟩ : Addr).add j = ⟨g, 0 + j, none⟩ by unfold Addr.add; split <;> simp_all] at this
      exact this
    obtain ⟨A, c, hn⟩ := RowIn.at F g 0 k _ _ _ hrow e
    rw [Nat.zero_add] at hn
    exact ⟨A, c, hn⟩
  · rcases ho.2 with h | ⟨g', cap', cur, e, _, hg, _⟩
    · cases h.1
    · cases e
      unfold World.frozen?
      rw [hg]; rfl
/-- What the sort leaves is a stable sort. -/
theorem isSort_of {b : Bool} {F : Fo} {d : Array Tg} (p : PermIn 0 (Tm.len F) (tagged F) d) (s : SortedIn (ltB b) 0 (Tm.len F) d) : Tm.IsSort b (Tm.toL F) (d.toList.map (·.1)) := by
  have hs : d.size = Tm.len F := by rw [p.1, tagged_size]
  have hp : d.toList.Perm (Tm.toL F).zipIdx := by
    have h := p.2.2
    rw [← hs, Array.extract_size, show d.size = (tagged F).size by rw [hs, tagged_size], Array.extract_size] at h
    simpa [tagged] using h
  refine ⟨d.toList, hp, ?_, rfl⟩
  have hnd : (d.toList.map (·.2)).Nodup := by
    rw [(hp.map (·.2)).nodup_iff, List.zipIdx_map_snd]
    exact List.nodup_range'
  rw [List.pairwise_iff_getElem]
  intro i j hi hj hij
  have hi' : i < d.size := by simpa using hi
  have hj' : j < d.size := by simpa using hj
  have h := s i j (Nat.zero_le _) hij (by omega)
  have e1 : d[i]! = d[i] := by simp [hi']
  have e2 : d[j]! = d[j] := by simp [hj']
  rw [e1, e2] at h
  have hne : d[i].2 ≠ d[j].2 := by
    intro e
    have hq := List.pairwise_iff_getElem.1 hnd i j (by simpa using hi') (by simpa using hj') hij
    simp at hq
    exact hq e
  have h1 : ¬ Tm.Bef b d[j] d[i] := by simpa [ltB] using h
  have h2 := Tm.cmpK_neg b d[i].1 d[j].1
  show Tm.Bef b d.toList[i] d.toList[j]
  rw [Array.getElem_toList, Array.getElem_toList]
  unfold Tm.Bef at *
  omega
/-- A row of terms in its own block, as a sort leaves it. -/
def RowOf (w : World) (d : Array Tg) (v : Value) (w' : World) : Prop :=
  (d.size = 0 ∧ ∃ A c, v = .slice A 0 c) ∨ (0 < d.size ∧ ∃ (W : World) (blk c : Nat), v = .slice (some ⟨blk, 0, none⟩) d.size c ∧ d.size ≤ c ∧ c ≤ maxLen ∧ w.heap.size ≤ blk ∧ St W blk d w' ∧ Below w.heap.size w W)
/-- What package order's sorted returns. -/
def SortedRow (b : Bool) (F : Fo) (w : World) (e : Ending) (w' : World) : Prop :=
  ∃ (d : Array Tg) (v : Value), e = .returned v ∧ Tm.IsSort b (Tm.toL F) (d.toList.map (·.1)) ∧ Fit b d ∧ RowOf w d v w' ∧ Below w.heap.size w w'
theorem isSort_nil (b : Bool) : Tm.IsSort b [] [] := ⟨[], by simp, List.Pairwise.nil, rfl⟩
set_option maxHeartbeats 2000000 in
theorem sorted_any (b : Bool) (F : Fo) (A : Option Addr) (n c B : Nat) (w : World) (hA : ArgsB w B A n F) (hn : n ≤ 100000) (hF : ∀ x ∈ Tm.toL F, OkT b x) (hT : Tabs w) (hB : B ≤ w.heap.size) :
    Calls Tryd.prog 41 #[.slice A n c, partFn b] w (SortedRow b F w) := by
  have hTl := hT.lt
  have HF := Lib.hid hF
  have HT := Lib.hid hT
  clear hF hT
  by_cases h0 : n = 0
  · subst h0
    obtain rfl := Tm.len_zero hA.len
    cases A with
    | none =>
      have C1 := Lib.hid fun (w : World) => sclone_none 0 c w
      have C2 := Lib.hid fun (v : Value) (w : World) => sortStable_of none 0 0 v w _ (stable_zero none 0 v w) (fun _ _ h => h.1)
      go_enter Tryd.func41, Tryd.ntmps41
      go_wp2_with fail
      refine (C1.out _).mono ?_
      rintro e w1 ⟨rfl, rfl⟩
      go_wp2_with fail
      refine (C2.out _ _).mono ?_
      rintro e w1 ⟨rfl, rfl⟩
      go_wp2_with fail
      go_ret
      exact ⟨#[], _, rfl, isSort_nil b, fun k hk => absurd hk (by simp), .inl ⟨rfl, _, _, rfl⟩, (Below.refl _ w).alloc (Nat.le_refl _) _⟩
    | some ad =>
      have C1 := Lib.hid fun (w1 : World) => sclone_some ad 0 c [] w1 rfl (by omega) (fun j u hu => by simp at hu) (by simp)
      have C2 := Lib.hid fun (A : Option Addr) (c : Nat) (v : Value) (w : World) => sortStable_of A 0 c v w _ (stable_zero A c v w) (fun _ _ h => h.1)
      clear hA
      go_enter Tryd.func41, Tryd.ntmps41
      go_wp2_with fail
      refine (C1.out _).mono ?_
      rintro e w1 ⟨v', rfl, hown, hb1⟩
      have hb2 : Below w.heap.size w w1 := ((Below.refl _ w).alloc (Nat.le_refl _) _).trans (hb1.mono (by simp))
      obtain ⟨A1, c1, rfl⟩ : ∃ A1 c1, v' = .slice A1 0 c1 := by
        rcases hown.2 with h | ⟨g, cap, cur, h, _⟩
        · exact ⟨_, _, h.1⟩
        · exact ⟨_, _, h⟩
      clear hown hb1
      go_wp2_with fail
      refine (C2.out _ _ _ _).mono ?_
      rintro e w2 ⟨rfl, rfl⟩
      go_wp2_with fail
      go_ret
      exact ⟨#[], _, rfl, isSort_nil b, fun k hk => absurd hk (by simp), .inl ⟨rfl, _, _, rfl⟩, hb2⟩
  · obtain ⟨bk, of, rfl, hbk, hrow⟩ := hA.row (by omega)
    obtain ⟨vs, hv, hc⟩ := RowIn.vals F bk of hrow
    have hlen := hA.len
    have hvl : vs.length = n := by rw [Vals.len vs F hv, hlen]
    have hbw : bk < w.heap.size := Nat.lt_of_lt_of_le hbk hB
    have C1 := Lib.hid fun (w1 : World) (hb : Below w.heap.size w w1) => sclone_some ⟨bk, of, none⟩ n c (tcells vs) w1 (by rw [Vals.tcells_len vs F hv, hvl]) hn (fun j u hu => (show w1.cell? ((⟨bk, of, none⟩ : Addr).add j) = _ by rw [show (⟨bk, of, none⟩ : Addr).add j = ⟨bk, of + j, none⟩ by unfold Addr.add; split <;> simp_all]; exact (hb.cell (p := ⟨bk, of + j, none⟩) hbw).trans (hc j u hu))) (Vals.one vs F hv)
    have HV := Lib.hid hv
    have HL := Lib.hid hlen
    clear hv hc hrow hA hlen hvl
    go_enter Tryd.func41, Tryd.ntmps41
    go_wp2_with fail
    refine (C1.out _ ((Below.refl _ w).alloc (Nat.le_refl _) _)).mono ?_
    rintro e w1 ⟨v', rfl, hown, hb1⟩
    have hsz1 := hb1.size
    simp only [World.size_alloc] at hsz1 hown
    have hb2 : Below w.heap.size w w1 := ((Below.refl _ w).alloc (Nat.le_refl _) _).trans (hb1.mono (by simp))
    have hcell : w1.cell? ⟨w.heap.size, 0, none⟩ = some (partFn b) := (hb1.cell (p := ⟨w.heap.size, 0, none⟩) (by simp)).trans (CellIs.new w (partFn b) 34).cell
    rcases hown.2 with h | ⟨g, cap, cur, rfl, hg, hgg, hcap, hcap2, _⟩
    · omega
    have hst : St w1 g (tagged F) w1 := St.of_own hown (Vals.keep (w' := w1) (fun k hk => hb2.block k (Nat.lt_of_lt_of_le hk hB)) vs F HV.out) (by omega)
    have hT1 : Tabs w1 := HT.out.only (Only.of_below (X := fun _ => False) hb2) id
    have hC := cmpC_of (W := w1) (blk := g) (pc := w.heap.size) (b := b) (by omega) hcell (by omega) hT1 (by omega)
    have C2 := Lib.hid (sortStable_of (some ⟨g, 0, none⟩) n cap (sortFn w.heap.size) w1 _ (stable_any w1 g w.heap.size cap n b (tagged F) w1 hC (by rw [tagged_size, HL.out]) hn (tagged_fit HF.out) (by have := tagged_rise F; rwa [HL.out] at this) hst) (fun e w' h => h.1))
    have HB2 := Lib.hid hb2
    clear hown hst hT1 hC hb1 hcell hgg hb2
    go_wp2_with fail
    refine C2.out.mono ?_
    rintro e w2 ⟨rfl, d, hst, hp, hs⟩
    go_wp2_with fail
    go_ret
    have hds : d.size = n := by rw [hp.1, tagged_size, HL.out]
    refine ⟨d, .slice (some ⟨g, 0, none⟩) n cap, rfl, isSort_of (by rw [HL.out]; exact hp) (by rw [HL.out]; exact hs), (tagged_fit HF.out).perm hp (by rw [tagged_size, HL.out]; exact Nat.le_refl _), .inr ⟨by omega, w1, g, cap, by rw [hds], by omega, hcap2, by omega, hst, HB2.out⟩, ?_⟩
    exact HB2.out.trans (hst.only.below (by have := HB2.out.size; omega) (fun k hk => by omega))
end Go.Proofs.YtcjakmafojbhlaaDoor
namespace Go.Proofs.YtcjakmafojbhlaaDoor
set_option linter.unusedVariables false
set_option linter.unusedSimpArgs false
open Go.RowKit

/-- What the recursion hands on. -/
def RCopies (m : Nat) : Prop := ∀ (p : Pay) (l : Fo) (A : Option Addr) (c B : Nat) (w : World), Tm.size l < m → m ≤ 3000 → Tm.goodB p l = true → ArgsB w B A (Tm.len l) l → B ≤ w.heap.size →
    Calls Tryd.prog 50 #[tv p A (Tm.len l) c] w fun e w' =>
      ∃ A' c', e = .returned (tv (Tm.rebT keepF () p l).2.1 A' (Tm.len (Tm.rebT keepF () p l).2.2) c') ∧ ArgsIn (fun b => w.heap.size ≤ b ∧ b < w'.heap.size) w' A' (Tm.len (Tm.rebT keepF () p l).2.2) (Tm.rebT keepF () p l).2.2 ∧ Below w.heap.size w w'

set_option maxHeartbeats 4000000 in
theorem rcopied_struct  (m : Nat) (ih : RCopies m) (p : Pay) (l : Fo) (A : Option Addr) (c B : Nat) (w : World) (hk : ¬ p.1 = 0) (hm : Tm.size l ≤ m) (hm3 : m ≤ 3000) (hall : Tm.allB l = true) (hA : ArgsB w B A (Tm.len l) l) (hBw : B ≤ w.heap.size) :
    Calls Tryd.prog 50 #[tv p A (Tm.len l) c] w fun e w' =>
      ∃ A' c', e = .returned (tv p A' (Tm.len (Tm.reb keepF () l).2) c') ∧ ArgsIn (fun b => w.heap.size ≤ b ∧ b < w'.heap.size) w' A' (Tm.len (Tm.reb keepF () l).2) (Tm.reb keepF () l).2 ∧ Below w.heap.size w w' := by
  obtain ⟨n, hn⟩ : ∃ n, n = Tm.len l := ⟨_, rfl⟩
  have hlr : Tm.len (Tm.reb keepF () l).2 = n := by rw [Tm.reb_len, hn]
  rw [hlr]
  rw [← hn] at hA ⊢
  have hnn : n ≤ 9223372036854775807 := hA.hi
  have hn3 : n ≤ 3000 := by have := Tm.len_le_size l; omega
  have HN := Lib.hid hn
  have HA := Lib.hid hA
  have HM := Lib.hid hm
  have IH := Lib.hid ih
  have HALL := Lib.hid hall
  have hkb : (p.1 == 0) = false := by simpa using hk
  obtain ⟨i0, hi0, hz0, hz1, hz2⟩ := term_parts
  clear hn hA ih hm hall hlr
  go_enter Tryd.func50, Tryd.ntmps50
  go_wp2_with fail
  go_loopw [4] (fun u wr => ∃ (k : Nat) (vs : List Value) (acc : Fo) (Ac : Option Addr) (cc : Nat), k ≤ n ∧ u = .int .i64 k ∧ (Tm.reb keepF () l).2 = Tm.app acc (Tm.reb keepF () (Tm.dropF l k)).2 ∧ RowSt (w.heap.size + 2) wr vs acc Ac k cc ∧
    TermAt wr w.heap.size p A n c ∧ ResAt wr (w.heap.size + 1) ∧ TermAt wr (w.heap.size + 2) p Ac k cc ∧ SoftAt wr (w.heap.size + 2) ∧ Below w.heap.size w wr) (fun u _ => n - (intOf u).toNat)
  case atStart =>
    have k0 : ∀ o1 o2 o3 : Obj, Below w.heap.size w (((w.alloc o1).alloc o2).alloc o3) := fun o1 o2 o3 => Only.below (X := fun _ => False) ((((Only.refl _ w).alloc _).alloc _).alloc _) (Nat.le_refl _) (fun _ h => h.elim)
    have k1 : ∀ o1 o2 o3 : Obj, (((w.alloc o1).alloc o2).alloc o3).heap[w.heap.size]? = (w.alloc o1).heap[w.heap.size]? := fun o1 o2 o3 => (Below.heap_alloc _ _ _ (by simp; omega)).trans (Below.heap_alloc _ _ _ (by simp))
    have k2 : ∀ o1 o2 o3 : Obj, (((w.alloc o1).alloc o2).alloc o3).heap[w.heap.size + 1]? = ((w.alloc o1).alloc o2).heap[w.heap.size + 1]? := fun o1 o2 o3 => Below.heap_alloc _ _ _ (by simp)
    have k3 : ∀ (o1 o2 : Obj), TermAt (((w.alloc o1).alloc o2).alloc (.cells #[.int .i64 p.1, .int .i64 p.2.1, .string p.2.2, .slice none 0 0] 24)) (w.heap.size + 2) p none 0 0 := fun o1 o2 => by
      have := TermAt.new ((w.alloc o1).alloc o2) p none 0 0 24
      rw [World.size_alloc, World.size_alloc] at this
      exact this
    have k4 : ∀ (o1 o2 : Obj) cs, SoftAt (((w.alloc o1).alloc o2).alloc (.cells cs 24)) (w.heap.size + 2) := fun o1 o2 cs => by
      have := SoftAt.new ((w.alloc o1).alloc o2) cs 24
      rw [World.size_alloc, World.size_alloc] at this
      exact this
    exact ⟨0, [], .nil, none, 0, Nat.zero_le _, rfl, by rw [Tm.drop_zero]; rfl, RowSt.start _ _ (by simp), (TermAt.new w p A n c 24).same (k1 _ _ _), (ResAt.new (w.alloc _) 24 _ (by simp)).same (k2 _ _ _), k3 _ _, k4 _ _ _, k0 _ _ _⟩
  case round =>
    obtain ⟨k, vs, acc, Ac, cc, hk, rfl, hacc, hrow, hta, hres, htc, hsc, hbl⟩ := hrel
    have x3 := hta.args
    have c3 := htc.args
    have f3 := hsc.s3
    have hwr : w.heap.size + 2 < wr.heap.size := hrow.size
    have HACC := Lib.hid hacc
    have HROW := Lib.hid hrow
    have HT := Lib.hid hta
    have HR := Lib.hid hres
    have HTC := Lib.hid htc
    have HSC := Lib.hid hsc
    have HB := Lib.hid hbl
    clear hacc hrow hta hres htc hsc hbl
    by_cases hlt : k < n
    · obtain ⟨b, o, p1, l1, r1, A1, c1, rfl, hbB, hd, hnode⟩ := HA.out.at hlt
      have hbw : b < w.heap.size := Nat.lt_of_lt_of_le hbB hBw
      have y0 := (HB.out.cell (p := ⟨b, o + k * 4, none⟩) hbw).trans hnode.kind
      have y1 := (HB.out.cell (p := ⟨b, o + k * 4 + 1, none⟩) hbw).trans hnode.num
      have y2 := (HB.out.cell (p := ⟨b, o + k * 4 + 2, none⟩) hbw).trans hnode.name
      have y3 := (HB.out.cell (p := ⟨b, o + k * 4 + 3, none⟩) hbw).trans hnode.args
      have HD := Lib.hid hd
      have HI := Lib.hid (hnode.inn.below HB.out hBw)
      have hs1 : Tm.size l1 < m := by have e := HD.out; have := Tm.size_drop_le l k; rw [e] at this; simp only [Tm.size] at this; have := HM.out; omega
      have hg1 : Tm.goodB p1 l1 = true := by have e := Tm.allB_drop HALL.out k; rw [HD.out, Tm.allB_cons, Bool.and_eq_true] at e; exact e.1
      have hsz := HB.out.size
      have hne : ¬ w.heap.size + 1 + 1 = b := by omega
      have hne' : ¬ w.heap.size + 1 + 1 = w.heap.size := by omega
      have C1 := Lib.hid fun (w2 : World) (h2 : ArgsB w2 B A1 (Tm.len l1) l1) (h3 : B ≤ w2.heap.size) => IH.out p1 l1 A1 c1 B w2 hs1 (by omega) hg1 h2 h3
      obtain ⟨t, ht⟩ : ∃ t, t = Tm.rebT keepF () p1 l1 := ⟨_, rfl⟩
      rw [← ht] at C1
      obtain ⟨s2, p2, l2⟩ := t
      obtain ⟨n1, hn1⟩ : ∃ n1, n1 = Tm.len l1 := ⟨_, rfl⟩
      rw [← hn1] at C1 HI y3
      obtain ⟨n2, hn2⟩ : ∃ n2, n2 = Tm.len l2 := ⟨_, rfl⟩
      rw [← hn2] at C1
      have hstep : (Tm.reb keepF () l).2 = Tm.app (Tm.app acc (.node p2 l2 .nil)) (Tm.reb keepF () (Tm.dropF l (k + 1))).2 := by
        rw [HACC.out, Tm.drop_succ HD.out, HD.out, Tm.reb_cons, ← ht, Tm.app_assoc]; rfl
      have HN2 := Lib.hid hn2
      have HSTEP := Lib.hid hstep
      clear hs1 hg1 hn1 hn2 hd hnode ht hstep
      go_wp2_with fail
      go_region_law
        (first
          | (refine step_append_lies _ rfl (.tmp 20) (.tmp 27) 22 rfl (w.heap.size + 2 + 1) 24 i0 (tv zp none 0 0) 4 56 Tryd.underlying22 hi0 hz0 hz1 hz2 rfl (by decide) (.slice Ac k cc) k (tcells vs) (by simp [Act.eval, Act.put]) HRA.out.own ⟨w1.heap.size, 0, none⟩ 1 1 [.int .i64 p2.1, .int .i64 p2.2.1, .string p2.2.2, .slice A2 n2 c2] (by simp [Act.eval, Act.put]) rfl (news_four w1 p2 A2 n2 c2 _) (one_four p2 A2 n2 c2) (by decide) (by simp [maxLen]; omega) (by omega) (by simp; omega) _ rfl ?_
             intro g cap w2 hown2 hgrow hat hlt2
             have hb6 : Below (w.heap.size + 2 + 1) wr w2 := ((HB2.out.mono (by omega)).alloc (by omega) _).grown hgrow (by simp; omega) (fun j e => (HRA.out.own.lt j e).1)
             have v3 := (hb6.cell (p := ⟨w.heap.size + 1 + 1, 3, none⟩) (by show w.heap.size + 1 + 1 < _; omega)).trans c3
             have v4 := (hb6.cell (p := ⟨w.heap.size, 3, none⟩) (by show w.heap.size < _; omega)).trans x3
             have v5 := (hb6.cell (p := ⟨b, o + k * 4, none⟩) (by show b < _; omega)).trans y0
             have v6 := (hb6.cell (p := ⟨b, o + k * 4 + 1, none⟩) (by show b < _; omega)).trans y1
             have v7 := (hb6.cell (p := ⟨b, o + k * 4 + 2, none⟩) (by show b < _; omega)).trans y2
             have v8 := (hb6.cell (p := ⟨b, o + k * 4 + 3, none⟩) (by show b < _; omega)).trans y3
             have v9 : w2.frozen? ⟨w.heap.size + 1 + 1, 3, none⟩ = false := (HSC.out.same (hb6.block (w.heap.size + 2) (by omega))).s3
             have HO2 := Lib.hid hown2
             have HG := Lib.hid hgrow
             have HAT := Lib.hid hat
             have HB6 := Lib.hid hb6
             clear hown2 hgrow hat hb6)
          | (go_simp
             go_at_call 50
             refine (C1.out _ (by exact HI.out.keep (fun _ _ => rfl)) (by show B ≤ wr.heap.size; omega)).mono ?_
             rintro e w1 ⟨A2, c2, rfl, ha2, hb2⟩
             have hb3 : Below wr.heap.size wr w1 := (Below.refl wr.heap.size wr).drew.trans hb2
             have HA2 := Lib.hid ha2
             have HB2 := Lib.hid hb3
             have v3 := (hb3.cell (p := ⟨w.heap.size + 1 + 1, 3, none⟩) hwr).trans c3
             have v4 := (hb3.cell (p := ⟨w.heap.size, 3, none⟩) (by show w.heap.size < _; omega)).trans x3
             have v5 := (hb3.cell (p := ⟨b, o + k * 4, none⟩) (by show b < _; omega)).trans y0
             have v6 := (hb3.cell (p := ⟨b, o + k * 4 + 1, none⟩) (by show b < _; omega)).trans y1
             have v7 := (hb3.cell (p := ⟨b, o + k * 4 + 2, none⟩) (by show b < _; omega)).trans y2
             have v8 := (hb3.cell (p := ⟨b, o + k * 4 + 3, none⟩) (by show b < _; omega)).trans y3
             have hw1 := hb3.size
             have hlw1 : w.heap.size + 1 + 1 < w1.heap.size := by omega
             have HRA := Lib.hid ((HROW.out.below hb3).below ((Below.refl w1.heap.size w1).alloc (Nat.le_refl _) (.cells #[.int .i64 p2.1, .int .i64 p2.2.1, .string p2.2.2, .slice A2 n2 c2] 24)))
             clear ha2 hb2 hb3))
      all_goals go_wp2_with fail
      all_goals
        have hwrs := HB2.out.size
        have hpush := RowSt.push (N := wr.heap.size) HRA.out HN2.out (fun b' hb' => (HROW.out.own.lt b' hb').2) hwr ((HA2.out.keep (fun b' hb' => Below.heap_alloc w1 _ b' hb'.2)).mono (fun b' hb' => ⟨hb'.1, by rw [World.size_alloc]; exact Nat.lt_succ_of_lt hb'.2⟩)) HO2.out HG.out HAT.out
        have hk1 := setCell_block w2 (w.heap.size + 2) 3 (.slice (some ⟨g, 0, none⟩) (k + 1) cap)
        have hk2 := setCell_size w2 ⟨w.heap.size + 2, 3, none⟩ (.slice (some ⟨g, 0, none⟩) (k + 1) cap)
        have e0 := (hk1 w.heap.size (by omega)).trans (HB6.out.block w.heap.size (by omega))
        have e1 := (hk1 (w.heap.size + 1) (by omega)).trans (HB6.out.block (w.heap.size + 1) (by omega))
        have htc2 := (HTC.out.same (HB6.out.block (w.heap.size + 2) (by omega))).setArgs (some ⟨g, 0, none⟩) (k + 1) cap
        have hsc2 := (HSC.out.same (HB6.out.block (w.heap.size + 2) (by omega))).setAny ⟨w.heap.size + 2, 3, none⟩ (.slice (some ⟨g, 0, none⟩) (k + 1) cap)
        have hbw2 : Below w.heap.size w (w2.setCell ⟨w.heap.size + 2, 3, none⟩ (.slice (some ⟨g, 0, none⟩) (k + 1) cap)) := (HB.out.trans (HB6.out.mono (by omega))).setCell (p := ⟨w.heap.size + 2, 3, none⟩) (by show w.heap.size ≤ w.heap.size + 2; omega) _
        exact ⟨⟨k + 1, vs ++ [tv p2 A2 n2 c2], Tm.app acc (.node p2 l2 .nil), some ⟨g, 0, none⟩, cap, by omega, by go_num, HSTEP.out, hpush.keep (Nat.le_of_eq hk2.symm) (fun b' _ hb' => hk1 b' (by omega)), HT.out.same e0, HR.out.same e1, htc2, hsc2, hbw2⟩, by simp [intOf]; omega⟩
    · obtain rfl : k = n := by omega
      have z0 := HTC.out.kind
      have z1 := HTC.out.num
      have z2 := HTC.out.name
      have r0 := HR.out.t.kind
      have r1 := HR.out.t.num
      have r2 := HR.out.t.name
      have r3 := HR.out.t.args
      have q0 := HR.out.s.s0
      have q1 := HR.out.s.s1
      have q2 := HR.out.s.s2
      have q3 := HR.out.s.s3
      have hle : w.heap.size + 1 < wr.heap.size := by omega
      go_wp2_with fail
      have st := stored wr (w.heap.size + 1) p zp Ac none k cc 0 0 HR.out.t HR.out.s
      have harg := (HROW.out.args (by omega)).keep (w' := set4 wr (w.heap.size + 1) 0 p Ac k cc) (fun b' hb' => st.block b' (by omega))
      have hreb : (Tm.reb keepF () l).2 = acc := by rw [HACC.out, show k = Tm.len l from HN.out, Tm.drop_end]; exact Tm.app_nil acc
      show bodyPost _ _ _ _ _ (set4 wr (w.heap.size + 1) 0 p Ac k cc)
      generalize set4 wr (w.heap.size + 1) 0 p Ac k cc = w2 at st harg ⊢
      refine bodyPost_ret (term_result (q := 2) rfl _ _ (w.heap.size + 1) p Ac k cc rfl st.term) rfl ?_
      rw [hreb]
      exact ⟨Ac, ⟨cc, rfl⟩, harg.mono (fun b' hb' => ⟨by omega, by rw [st.size]; exact hb'.2⟩), st.below _ _ HB.out (by omega)⟩

set_option maxHeartbeats 1000000 in
theorem rcopied_var  (v : Int) (c : Nat) (A : Option Addr) (w : World) :
    Calls Tryd.prog 50 #[tv (0, v, ByteArray.empty) A 0 c] w fun e w' => e = .returned (tv (0, v, ByteArray.empty) none 0 0) ∧ Below w.heap.size w w' := by
  go_enter Tryd.func50, Tryd.ntmps50
  go_wp2_with fail
  refine wp_loop_rounds 1 ?_
  rw [rounds_succ]
  go_wp2_with fail
  have k0 : ∀ o1 o2 o3 : Obj, Below w.heap.size w (((w.alloc o1).alloc o2).alloc o3) := fun o1 o2 o3 => Only.below (X := fun _ => False) ((((Only.refl _ w).alloc _).alloc _).alloc _) (Nat.le_refl _) (fun _ h => h.elim)
  have k1 : ∀ o1 o3 : Obj, TermAt (((w.alloc o1).alloc (.cells #[.int .i64 (0, v, ByteArray.empty).1, .int .i64 (0, v, ByteArray.empty).2.1, .string (0, v, ByteArray.empty).2.2, .slice none 0 0] 24)).alloc o3) (w.heap.size + 1) (0, v, ByteArray.empty) none 0 0 := fun o1 o3 => by
    have := TermAt.new (w.alloc o1) (0, v, ByteArray.empty) none 0 0 24
    rw [World.size_alloc] at this
    exact this.same (Below.heap_alloc _ _ _ (by simp))
  refine bodyPost_ret (term_result (q := 2) rfl _ _ (w.heap.size + 1) (0, v, ByteArray.empty) none 0 0 rfl (k1 _ _)) rfl ?_
  exact ⟨rfl, k0 _ _ _⟩

theorem rcopied_up (m : Nat) : RCopies m := by
  induction m with
  | zero => intro p l A c B w hm; omega
  | succ m ih =>
    intro p l A c B w hm hm3 hg hA hBw
    have hg' := hg
    unfold Tm.goodB at hg'
    rw [Bool.and_eq_true] at hg'
    by_cases h0 : p.1 = 0
    · obtain ⟨k, v, nm⟩ := p
      have h0' : k = 0 := h0
      subst h0'
      obtain ⟨_, _, rfl, h4⟩ := nodeB_var hg'.1
      obtain rfl := Tm.len_zero h4
      exact (rcopied_var v c A w).mono fun e w' ⟨he, hb⟩ => ⟨none, 0, he, ArgsIn.nil _ _ _, hb⟩
    · have := rcopied_struct m ih p l A c B w h0 (by omega) (by omega) hg'.2 hA hBw
      unfold Tm.rebT
      rw [if_neg h0]
      exact this

/-- The reference's copied, of a valid term: a copy in new memory. -/
theorem rcopied_any (p : Pay) (l : Fo) (A : Option Addr) (c B : Nat) (w : World) (hv : Tm.validB p l = true) (hA : ArgsB w B A (Tm.len l) l) (hBw : B ≤ w.heap.size) :
    Calls Tryd.prog 50 #[tv p A (Tm.len l) c] w fun e w' => ∃ A' c', e = .returned (tv p A' (Tm.len l) c') ∧ ArgsIn (fun b => w.heap.size ≤ b ∧ b < w'.heap.size) w' A' (Tm.len l) l ∧ Below w.heap.size w w' := by
  unfold Tm.validB at hv
  rw [Bool.and_eq_true, decide_eq_true_eq] at hv
  have h := rcopied_up (Tm.size l + 1) p l A c B w (by omega) (by omega) hv.2 hA hBw
  rw [rebT_keep p l hv.2] at h
  exact h
end Go.Proofs.YtcjakmafojbhlaaDoor
namespace Go.Proofs.YtcjakmafojbhlaaDoor
set_option linter.unusedVariables false
set_option linter.unusedSimpArgs false
open Go.RowKit

namespace Tm
/-- A valid term, or the zero Term. -/
def cloneOf (p : Pay) (l : Fo) : Pay × Fo := if validB p l then (p, l) else (zp, .nil)
end Tm

set_option maxHeartbeats 1000000 in
theorem clone_any (p : Pay) (l : Fo) (A : Option Addr) (c B : Nat) (w : World) (hA : ArgsB w B A (Tm.len l) l) (hB : B ≤ w.heap.size) :
    Calls Tryd.prog 68 #[tv p A (Tm.len l) c] w (Makes (Tm.cloneOf p l).1 (Tm.cloneOf p l).2 w) := by
  have V1 := Lib.hid fun (w1 : World) (h1 : ArgsB w1 B A (Tm.len l) l) (h2 : B ≤ w1.heap.size) => valid_any p l A c B w1 h1 h2
  have BX := Lib.hid (two_boxes w)
  cases hv : Tm.validB p l
  · rw [hv] at V1
    have eo : Tm.cloneOf p l = (zp, .nil) := by unfold Tm.cloneOf; rw [hv]; exact if_neg (by decide)
    rw [eo]
    clear eo
    obtain ⟨n, hn⟩ : ∃ n, n = Tm.len l := ⟨_, rfl⟩
    rw [← hn] at hA V1 ⊢
    have HA := Lib.hid hA
    clear hv hA hn
    go_enter Tryd.func68, Tryd.ntmps68
    go_wp2_with fail
    refine (V1.out _ ?_ ?_).mono ?_
    · exact HA.out.below (BX.out _ _) hB
    · simp; omega
    rintro e w1 ⟨rfl, hb1⟩
    have hsz := hb1.size
    simp at hsz
    have hr : ResAt w1 (w.heap.size + 1) := (ResAt.new (w.alloc _) 24 _ (by simp)).below hb1 (by simp)
    have hw1 : w.heap.size + 1 < w1.heap.size := by omega
    have r0 := hr.t.kind
    have r1 := hr.t.num
    have r2 := hr.t.name
    have r3 := hr.t.args
    have q0 := hr.s.s0
    have q1 := hr.s.s1
    have q2 := hr.s.s2
    have q3 := hr.s.s3
    have HB1 := Lib.hid ((BX.out _ _).trans (hb1.mono (by simp; omega)) : Below w.heap.size w w1)
    have HR := Lib.hid hr
    clear hb1 hr
    go_wp2_with fail
    have st := stored w1 (w.heap.size + 1) zp zp none none 0 0 0 0 HR.out.t HR.out.s
    show bodyPost _ _ _ _ _ (set4 w1 (w.heap.size + 1) 0 zp none 0 0)
    generalize set4 w1 (w.heap.size + 1) 0 zp none 0 0 = w2 at st ⊢
    refine bodyPost_ret (term_result (q := 2) rfl _ _ (w.heap.size + 1) zp none 0 0 rfl st.term) rfl ?_
    exact ⟨none, 0, rfl, ArgsIn.nil _ _ _, st.below _ _ HB1.out (by omega)⟩
  have hg : Tm.goodB p l = true := by unfold Tm.validB at hv; rw [Bool.and_eq_true] at hv; exact hv.2
  have C2 := Lib.hid fun (w1 : World) (h1 : ArgsB w1 B A (Tm.len l) l) (h2 : B ≤ w1.heap.size) => copied_any p l A c B w1 h1 hg h2
  rw [hv] at V1
  have eo : Tm.cloneOf p l = (p, l) := by unfold Tm.cloneOf; rw [hv]; exact if_pos rfl
  rw [eo]
  try unfold Makes at C2
  unfold Makes
  simp only []
  clear eo
  obtain ⟨n, hn⟩ : ∃ n, n = Tm.len l := ⟨_, rfl⟩
  rw [← hn] at hA V1 C2 ⊢
  have HA := Lib.hid hA
  clear hv hA hn hg
  go_enter Tryd.func68, Tryd.ntmps68
  go_wp2_with fail
  refine (V1.out _ ?_ ?_).mono ?_
  · exact HA.out.below (BX.out _ _) hB
  · simp; omega
  rintro e w0 ⟨rfl, hb0⟩
  have hsz0 := hb0.size
  simp at hsz0
  have hta : TermAt w0 w.heap.size p A n c := ((TermAt.new w p A n c 24).below (B := w.heap.size + 1) ((Below.refl _ _).alloc (by simp) _) (by omega)).below hb0 (by simp; omega)
  have hres : ResAt w0 (w.heap.size + 1) := (ResAt.new (w.alloc _) 24 _ (by simp)).below hb0 (by simp)
  have y0 := hta.kind
  have y1 := hta.num
  have y2 := hta.name
  have y3 := hta.args
  have hw0 : w.heap.size + 1 < w0.heap.size := by omega
  have HB0 := Lib.hid ((BX.out _ _).trans (hb0.mono (by simp; omega)) : Below w.heap.size w w0)
  have HR0 := Lib.hid hres
  clear hb0 hta hres
  go_wp2_with fail
  refine (C2.out _ ?_ ?_).mono ?_
  · exact HA.out.below HB0.out hB
  · omega
  rintro e w1 ⟨A1, c1, rfl, ha1, hb1⟩
  have hsz := hb1.size
  try simp at hsz
  have hr : ResAt w1 (w.heap.size + 1) := (HR0.out).below hb1 (by first | omega | (simp; done) | (simp; omega))
  have hw1 : w.heap.size + 1 < w1.heap.size := by omega
  have r0 := hr.t.kind
  have r1 := hr.t.num
  have r2 := hr.t.name
  have r3 := hr.t.args
  have q0 := hr.s.s0
  have q1 := hr.s.s1
  have q2 := hr.s.s2
  have q3 := hr.s.s3
  have HA1 := Lib.hid ha1
  have HB1 := Lib.hid ((HB0.out).trans (hb1.mono (by first | omega | (simp; done) | (simp; omega))) : Below w.heap.size w w1)
  have HR := Lib.hid hr
  clear ha1 hb1 hr
  go_wp2_with fail
  have st := stored w1 (w.heap.size + 1) p zp A1 none (n) c1 0 0 HR.out.t HR.out.s
  show bodyPost _ _ _ _ _ (set4 w1 (w.heap.size + 1) 0 p A1 (n) c1)
  generalize set4 w1 (w.heap.size + 1) 0 p A1 (n) c1 = w2 at st ⊢
  refine bodyPost_ret (term_result (q := 2) rfl _ _ (w.heap.size + 1) p A1 (n) c1 rfl st.term) rfl ?_
  exact ⟨A1, c1, rfl, st.fresh (N := w0.heap.size) (HA1.out.mono (fun b hb => by have h1 := hb.1; have h2 := hb.2; (try simp only [World.size_alloc] at h1); omega)) (by omega) (by omega), st.below _ _ HB1.out (by omega)⟩

set_option maxHeartbeats 1000000 in
theorem rclone_any (p : Pay) (l : Fo) (A : Option Addr) (c B : Nat) (w : World) (hA : ArgsB w B A (Tm.len l) l) (hB : B ≤ w.heap.size) :
    Calls Tryd.prog 24 #[tv p A (Tm.len l) c] w (Makes (Tm.cloneOf p l).1 (Tm.cloneOf p l).2 w) := by
  have V1 := Lib.hid fun (w1 : World) (h1 : ArgsB w1 B A (Tm.len l) l) (h2 : B ≤ w1.heap.size) => rvalid_any p l A c B w1 h1 h2
  have BX := Lib.hid (two_boxes w)
  cases hv : Tm.validB p l
  · rw [hv] at V1
    have eo : Tm.cloneOf p l = (zp, .nil) := by unfold Tm.cloneOf; rw [hv]; exact if_neg (by decide)
    rw [eo]
    clear eo
    obtain ⟨n, hn⟩ : ∃ n, n = Tm.len l := ⟨_, rfl⟩
    rw [← hn] at hA V1 ⊢
    have HA := Lib.hid hA
    clear hv hA hn
    go_enter Tryd.func24, Tryd.ntmps24
    go_wp2_with fail
    refine (V1.out _ ?_ ?_).mono ?_
    · exact HA.out.below (BX.out _ _) hB
    · simp; omega
    rintro e w1 ⟨rfl, hb1⟩
    have hsz := hb1.size
    simp at hsz
    have hr : ResAt w1 (w.heap.size + 1) := (ResAt.new (w.alloc _) 24 _ (by simp)).below hb1 (by simp)
    have hw1 : w.heap.size + 1 < w1.heap.size := by omega
    have r0 := hr.t.kind
    have r1 := hr.t.num
    have r2 := hr.t.name
    have r3 := hr.t.args
    have q0 := hr.s.s0
    have q1 := hr.s.s1
    have q2 := hr.s.s2
    have q3 := hr.s.s3
    have HB1 := Lib.hid ((BX.out _ _).trans (hb1.mono (by simp; omega)) : Below w.heap.size w w1)
    have HR := Lib.hid hr
    clear hb1 hr
    go_wp2_with fail
    have st := stored w1 (w.heap.size + 1) zp zp none none 0 0 0 0 HR.out.t HR.out.s
    show bodyPost _ _ _ _ _ (set4 w1 (w.heap.size + 1) 0 zp none 0 0)
    generalize set4 w1 (w.heap.size + 1) 0 zp none 0 0 = w2 at st ⊢
    refine bodyPost_ret (term_result (q := 2) rfl _ _ (w.heap.size + 1) zp none 0 0 rfl st.term) rfl ?_
    exact ⟨none, 0, rfl, ArgsIn.nil _ _ _, st.below _ _ HB1.out (by omega)⟩
  have hg : Tm.goodB p l = true := by unfold Tm.validB at hv; rw [Bool.and_eq_true] at hv; exact hv.2
  have C2 := Lib.hid fun (w1 : World) (h1 : ArgsB w1 B A (Tm.len l) l) (h2 : B ≤ w1.heap.size) => rcopied_any p l A c B w1 hv h1 h2
  rw [hv] at V1
  have eo : Tm.cloneOf p l = (p, l) := by unfold Tm.cloneOf; rw [hv]; exact if_pos rfl
  rw [eo]
  try unfold Makes at C2
  unfold Makes
  simp only []
  clear eo
  obtain ⟨n, hn⟩ : ∃ n, n = Tm.len l := ⟨_, rfl⟩
  rw [← hn] at hA V1 C2 ⊢
  have HA := Lib.hid hA
  clear hv hA hn hg
  go_enter Tryd.func24, Tryd.ntmps24
  go_wp2_with fail
  refine (V1.out _ ?_ ?_).mono ?_
  · exact HA.out.below (BX.out _ _) hB
  · simp; omega
  rintro e w0 ⟨rfl, hb0⟩
  have hsz0 := hb0.size
  simp at hsz0
  have hta : TermAt w0 w.heap.size p A n c := ((TermAt.new w p A n c 24).below (B := w.heap.size + 1) ((Below.refl _ _).alloc (by simp) _) (by omega)).below hb0 (by simp; omega)
  have hres : ResAt w0 (w.heap.size + 1) := (ResAt.new (w.alloc _) 24 _ (by simp)).below hb0 (by simp)
  have y0 := hta.kind
  have y1 := hta.num
  have y2 := hta.name
  have y3 := hta.args
  have hw0 : w.heap.size + 1 < w0.heap.size := by omega
  have HB0 := Lib.hid ((BX.out _ _).trans (hb0.mono (by simp; omega)) : Below w.heap.size w w0)
  have HR0 := Lib.hid hres
  clear hb0 hta hres
  go_wp2_with fail
  refine (C2.out _ ?_ ?_).mono ?_
  · exact HA.out.below HB0.out hB
  · omega
  rintro e w1 ⟨A1, c1, rfl, ha1, hb1⟩
  have hsz := hb1.size
  try simp at hsz
  have hr : ResAt w1 (w.heap.size + 1) := (HR0.out).below hb1 (by first | omega | (simp; done) | (simp; omega))
  have hw1 : w.heap.size + 1 < w1.heap.size := by omega
  have r0 := hr.t.kind
  have r1 := hr.t.num
  have r2 := hr.t.name
  have r3 := hr.t.args
  have q0 := hr.s.s0
  have q1 := hr.s.s1
  have q2 := hr.s.s2
  have q3 := hr.s.s3
  have HA1 := Lib.hid ha1
  have HB1 := Lib.hid ((HB0.out).trans (hb1.mono (by first | omega | (simp; done) | (simp; omega))) : Below w.heap.size w w1)
  have HR := Lib.hid hr
  clear ha1 hb1 hr
  go_wp2_with fail
  have st := stored w1 (w.heap.size + 1) p zp A1 none (n) c1 0 0 HR.out.t HR.out.s
  show bodyPost _ _ _ _ _ (set4 w1 (w.heap.size + 1) 0 p A1 (n) c1)
  generalize set4 w1 (w.heap.size + 1) 0 p A1 (n) c1 = w2 at st ⊢
  refine bodyPost_ret (term_result (q := 2) rfl _ _ (w.heap.size + 1) p A1 (n) c1 rfl st.term) rfl ?_
  exact ⟨A1, c1, rfl, st.fresh (N := w0.heap.size) (HA1.out.mono (fun b hb => by have h1 := hb.1; have h2 := hb.2; (try simp only [World.size_alloc] at h1); omega)) (by omega) (by omega), st.below _ _ HB1.out (by omega)⟩

end Go.Proofs.YtcjakmafojbhlaaDoor
namespace Go.Proofs.YtcjakmafojbhlaaDoor
set_option linter.unusedVariables false
set_option linter.unusedSimpArgs false
open Go.RowKit

/-- A new row of the terms F. -/
def MadeRow (F : Fo) (w : World) (e : Ending) (w' : World) : Prop :=
  ∃ A c, e = .returned (.slice A (Tm.len F) c) ∧ ArgsIn (fun b => w.heap.size ≤ b ∧ b < w'.heap.size) w' A (Tm.len F) F ∧ (0 < Tm.len F → ∃ g, A = some ⟨g, 0, none⟩ ∧ w.heap.size ≤ g ∧ St w' g (tagged F) w') ∧ Below w.heap.size w w'
theorem run_make_row (n : Nat) (hn : n ≤ 100000) (w : World) : (Instr.makeSlice 22 (.int .i64 n) (.int .i64 n)).run Tryd.prog w = .ok (.slice (some ⟨w.heap.size, 0, none⟩) n n) (w.alloc (.cells (madeCells (tv zp none 0 0).cells (n * 4)) 24)) := by
  obtain ⟨i, hi, hz, h1, h2⟩ := info_parts term_info3
  have h := run_make (P := Tryd.prog) w 22 24 i (tv zp none 0 0) Tryd.underlying22 hi hz .i64 .i64 n n (by omega) (Int.le_refl _) (by rw [h2]; omega) (by omega)
  rw [h1] at h
  simpa using h
theorem St.of_fill {w : World} {g n : Nat} {vs : List Value} {F : Fo} (hlt : g < w.heap.size) (hf : Filling w g n vs) (hn : n = Tm.len F) (hv : Vals (fun b => b < w.heap.size ∧ b ≠ g) w vs F) (hs : ∀ o, w.frozen? ⟨g, o, none⟩ = false) : St w g (tagged F) w := by
  refine ⟨Only.refl _ _, hlt, fun k hk => ?_, hs⟩
  rw [tagged_size] at hk
  obtain ⟨r, e, _⟩ := tagged_at hk
  have hrow : RowIn (fun b => b < w.heap.size ∧ b ≠ g) w F g 0 := Vals.row g vs F 0 hv Tm.len_le_size fun j u hu => by rw [Nat.zero_add]; exact hf.cells j u hu
  obtain ⟨A, c, hn⟩ := RowIn.at F g 0 k _ _ _ hrow e
  rw [Nat.zero_add] at hn
  exact ⟨A, c, hn⟩
def SoftB (w : World) (g : Nat) : Prop := ∀ o, w.frozen? ⟨g, o, none⟩ = false
theorem SoftB.same {w w' : World} {g : Nat} (h : SoftB w g) (hk : w'.heap[g]? = w.heap[g]?) : SoftB w' g := fun o => (frozen_of_block (p := ⟨g, o, none⟩) hk).trans (h o)
theorem SoftB.new (w : World) (cs : Array Value) (t : TypeId) : SoftB (w.alloc (.cells cs t)) w.heap.size := fun o => by unfold World.frozen?; rw [alloc_new]; rfl
theorem SoftB.set4 {w : World} {g b o : Nat} {p : Pay} {A : Option Addr} {m c : Nat} (h : SoftB w g) : SoftB (set4 w b o p A m c) g := fun x => by rw [set4_frozen]; exact h x

set_option maxHeartbeats 4000000 in
theorem copies_any (F : Fo) (A : Option Addr) (n c B : Nat) (w : World) (hA : ArgsB w B A n F) (hn : n ≤ 100000) (hg : ∀ x ∈ Tm.toL F, Tm.validB x.1 x.2 = true) (hB : B ≤ w.heap.size) :
    Calls Tryd.prog 44 #[.slice A n c] w (MadeRow F w) := by
  unfold MadeRow
  have hlen := hA.len
  rw [hlen]
  have HG := Lib.hid hg
  have HA := Lib.hid hA
  have HN := Lib.hid hlen
  have hmk := fun w => run_make_row n hn w
  have hn2 : n ≤ 9223372036854775807 := by omega
  clear hA hg hlen
  go_enter Tryd.func44, Tryd.ntmps44
  go_wp2_with fail
  go_loopw [11] (fun u wr => ∃ (k : Nat) (vs : List Value) (acc : Fo), k ≤ n ∧ u = .int .i64 k ∧ F = Tm.app acc (Tm.dropF F k) ∧ vs.length = k ∧
    Vals (fun b => w.heap.size < b ∧ b < wr.heap.size) wr vs acc ∧ Filling wr w.heap.size n vs ∧ SoftB wr w.heap.size ∧ w.heap.size < wr.heap.size ∧ Below w.heap.size w wr) (fun u _ => n - (intOf u).toNat)
  case atStart => exact ⟨0, [], .nil, Nat.zero_le _, rfl, by rw [Tm.drop_zero]; rfl, rfl, trivial, Filling.new w n _, SoftB.new _ _ _, by simp, (Below.refl _ w).alloc (Nat.le_refl _) _⟩
  case round =>
    obtain ⟨k, vs, acc, hk, rfl, hacc, hvl, hvals, hfill, hsoft, hwr, hbl⟩ := hrel
    have HACC := Lib.hid hacc
    have HVL := Lib.hid hvl
    have HV := Lib.hid hvals
    have HF := Lib.hid hfill
    have HS := Lib.hid hsoft
    have HB := Lib.hid hbl
    clear hacc hvl hvals hfill hbl hsoft
    by_cases hlt : k < n
    · obtain ⟨b, o, p1, l1, r1, A1, c1, rfl, hbB, hd, hnode⟩ := HA.out.at hlt
      have hbw : b < w.heap.size := Nat.lt_of_lt_of_le hbB hB
      have y0 := (HB.out.cell (p := ⟨b, o + k * 4, none⟩) hbw).trans hnode.kind
      have y1 := (HB.out.cell (p := ⟨b, o + k * 4 + 1, none⟩) hbw).trans hnode.num
      have y2 := (HB.out.cell (p := ⟨b, o + k * 4 + 2, none⟩) hbw).trans hnode.name
      have y3 := (HB.out.cell (p := ⟨b, o + k * 4 + 3, none⟩) hbw).trans hnode.args
      have HD := Lib.hid hd
      have HII := Lib.hid (hnode.inn.below HB.out hB)
      have hv1 : Tm.validB p1 l1 = true := HG.out _ (List.mem_of_getElem? (Tm.toL_at hd))
      have ec : Tm.cloneOf p1 l1 = (p1, l1) := by unfold Tm.cloneOf; rw [hv1]; rfl
      have C1 := Lib.hid fun (w2 : World) (h2 : ArgsB w2 B A1 (Tm.len l1) l1) (h4 : B ≤ w2.heap.size) => clone_any p1 l1 A1 c1 B w2 h2 h4
      rw [ec] at C1
      unfold Makes at C1
      obtain ⟨m1, hm1⟩ : ∃ m1, m1 = Tm.len l1 := ⟨_, rfl⟩
      rw [← hm1] at C1 HII y3
      have HM1 := Lib.hid hm1
      clear hd hnode hv1 ec hm1
      have hws := HB.out.size
      go_wp2_with fail
      refine (C1.out _ ?_ ?_).mono ?_
      · exact HII.out.below ((Below.refl wr.heap.size wr).alloc (Nat.le_refl _) _) (by omega)
      · simp; omega
      rintro e w3 ⟨A2, c2, rfl, ha2, hb2⟩
      have hb3 : Below wr.heap.size wr w3 := ((Below.refl wr.heap.size wr).alloc (Nat.le_refl _) _).trans (hb2.mono (by simp))
      have hsz3 := hb3.size
      have hf3 : Filling w3 w.heap.size n vs := HF.out.same (hb3.block _ hwr)
      have h4 := hf3.four hlt
      obtain ⟨u0, q0⟩ := Option.isSome_iff_exists.1 h4.c0
      obtain ⟨u1, q1⟩ := Option.isSome_iff_exists.1 h4.c1
      obtain ⟨u2, q2⟩ := Option.isSome_iff_exists.1 h4.c2
      obtain ⟨u3, q3⟩ := Option.isSome_iff_exists.1 h4.c3
      have z0 := hf3.soft (k * 4) (by omega)
      have z1 := hf3.soft (k * 4 + 1) (by omega)
      have z2 := hf3.soft (k * 4 + 2) (by omega)
      have z3 := hf3.soft (k * 4 + 3) (by omega)
      have HF3 := Lib.hid hf3
      have HA2 := Lib.hid ha2
      have HB3 := Lib.hid hb3
      have HS3 := Lib.hid (HS.out.same (hb3.block _ hwr))
      clear hf3 ha2 hb2 hb3 h4 y0 y1 y2 y3
      go_wp2_with fail
      have g3 := set4_block w3 w.heap.size (k * 4) p1 A2 m1 c2
      have g5 := HF3.out.set hlt (by rw [Vals.tcells_len vs acc HV.out, HVL.out]) p1 A2 m1 c2
      have g6 : Vals (fun b => w.heap.size < b ∧ b < (set4 w3 w.heap.size (k * 4) p1 A2 m1 c2).heap.size) (set4 w3 w.heap.size (k * 4) p1 A2 m1 c2) (vs ++ [tv p1 A2 m1 c2]) (Tm.app acc (.node p1 l1 .nil)) := by
        have e := HM1.out
        subst e
        refine Vals.snoc ?_ vs acc ?_
        · refine (HA2.out.keep (w' := set4 w3 w.heap.size (k * 4) p1 A2 (Tm.len l1) c2) fun b hb => g3 b ?_).mono fun b hb => ?_
          · have := hb.1; simp at this; omega
          · have := hb.2; have := hb.1; rw [set4_size]; simp at this; omega
        · refine (Vals.keep (w' := set4 w3 w.heap.size (k * 4) p1 A2 (Tm.len l1) c2) (fun b hb => (g3 b (by omega)).trans (HB3.out.block b hb.2)) vs acc HV.out).mono' fun b hb => ?_
          rw [set4_size]; omega
      have hst : F = Tm.app (Tm.app acc (.node p1 l1 .nil)) (Tm.dropF F (k + 1)) := by
        rw [Tm.app_assoc, Tm.drop_succ HD.out]
        show F = Tm.app acc (.node p1 l1 r1)
        rw [← HD.out]; exact HACC.out
      have g8 : Below w.heap.size w (set4 w3 w.heap.size (k * 4) p1 A2 m1 c2) := ⟨(HB.out.trans (HB3.out.mono (by omega))).os, (HB.out.trans (HB3.out.mono (by omega))).tape, (HB.out.trans (HB3.out.mono (by omega))).output, by rw [set4_size]; omega, fun b hb => (g3 b (by omega)).trans ((HB.out.trans (HB3.out.mono (by omega))).block b hb)⟩
      exact ⟨⟨k + 1, vs ++ [tv p1 A2 m1 c2], Tm.app acc (.node p1 l1 .nil), by omega, by go_num, hst, by rw [List.length_append, HVL.out]; rfl, g6, g5, HS3.out.set4, by rw [set4_size]; omega, g8⟩, by simp [intOf]; omega⟩
    · obtain rfl : k = n := by omega
      have hacc : F = acc := by
        have := HACC.out
        rwa [show Tm.dropF F k = .nil by rw [← HN.out, Tm.drop_end], Tm.app_nil] at this
      obtain rfl := hacc
      go_wp2_with fail
      go_ret
      have hv2 : Vals (fun b => b < wr.heap.size ∧ b ≠ w.heap.size) wr vs F := HV.out.mono' fun b hb => by omega
      have hv3 : Vals (fun b => w.heap.size ≤ b ∧ b < wr.heap.size) wr vs F := HV.out.mono' fun b hb => by omega
      refine ⟨some ⟨w.heap.size, 0, none⟩, k, rfl, ?_, fun _ => ⟨_, rfl, Nat.le_refl _, St.of_fill hwr HF.out HN.out.symm hv2 HS.out⟩, HB.out⟩
      have hva := Vals.args (b := w.heap.size) (o := 0) ⟨Nat.le_refl _, hwr⟩ hv3 (by rw [HVL.out]; omega) (fun j u hu => by rw [Nat.zero_add]; exact HF.out.cells j u hu)
      rw [HVL.out] at hva
      exact hva
end Go.Proofs.YtcjakmafojbhlaaDoor
namespace Go.Proofs.YtcjakmafojbhlaaDoor
set_option linter.unusedVariables false
set_option linter.unusedSimpArgs false
open Go.RowKit

theorem all_next {α : Type} {L : List α} {f : α → Bool} {k : Nat} {x : α} (h : L[k]? = some x) (ha : (L.take k).all f = true) (hx : f x = true) : (L.take (k + 1)).all f = true := by
  rw [List.take_add_one, h, List.all_append, ha]; simp [hx]
theorem all_not {α : Type} {L : List α} {f : α → Bool} {k : Nat} {x : α} (h : L[k]? = some x) (hx : f x = false) : L.all f = false := by
  rw [List.all_eq_false]
  exact ⟨x, List.mem_of_getElem? h, by rw [hx]; decide⟩
theorem all_full {α : Type} {L : List α} {f : α → Bool} (ha : (L.take L.length).all f = true) : L.all f = true := by rwa [List.take_length] at ha
/-- Whether all terms of a row are valid. -/
def Tm.allV (F : Fo) : Bool := (Tm.toL F).all fun x => Tm.validB x.1 x.2
theorem Tm.allV_iff {F : Fo} : Tm.allV F = true ↔ ∀ x ∈ Tm.toL F, Tm.validB x.1 x.2 = true := List.all_eq_true
def isPair (x : Tm.Tn) : Bool := decide (x.1.1 = 3) && (decide (x.1.2.2 = ⟨#[45]⟩) && decide (Tm.len x.2 = 2))
def Tm.allPairs (F : Fo) : Bool := (Tm.toL F).all isPair

set_option maxHeartbeats 2000000 in
theorem areValid_any (F : Fo) (A : Option Addr) (n c B : Nat) (w : World) (hA : ArgsB w B A n F) (hn : n ≤ 4611686018427387904) (hB : B ≤ w.heap.size) :
    Calls Tryd.prog 39 #[.slice A n c] w fun e w' => e = .returned (.bool (Tm.allV F)) ∧ Below w.heap.size w w' := by
  have HA := Lib.hid hA
  have hn2 : n ≤ 9223372036854775807 := by omega
  clear hA
  go_enter Tryd.func39, Tryd.ntmps39
  go_wp2_with fail
  go_loopw [7] (fun u wr => ∃ k : Nat, k ≤ n ∧ u = .int .i64 k ∧ Hid (((Tm.toL F).take k).all (fun x => Tm.validB x.1 x.2) = true) ∧ Below w.heap.size w wr) (fun u _ => n - (intOf u).toNat)
  case atStart => exact ⟨0, Nat.zero_le _, rfl, by simp [Hid], Below.refl _ _⟩
  case round =>
    obtain ⟨k, hk, rfl, HP, hbl⟩ := hrel
    have HBL := Lib.hid hbl
    clear hbl
    by_cases hlt : k < n
    · obtain ⟨b, o, p1, l1, r1, A1, c1, rfl, hbB, hd, hnode⟩ := HA.out.at hlt
      have hbw : b < w.heap.size := Nat.lt_of_lt_of_le hbB hB
      have y0 := (HBL.out.cell (p := ⟨b, o + k * 4, none⟩) hbw).trans hnode.kind
      have y1 := (HBL.out.cell (p := ⟨b, o + k * 4 + 1, none⟩) hbw).trans hnode.num
      have y2 := (HBL.out.cell (p := ⟨b, o + k * 4 + 2, none⟩) hbw).trans hnode.name
      have y3 := (HBL.out.cell (p := ⟨b, o + k * 4 + 3, none⟩) hbw).trans hnode.args
      have HII := Lib.hid (hnode.inn.below HBL.out hB)
      have hat := Tm.toL_at hd
      have HAT := Lib.hid hat
      have C1 := Lib.hid fun (w2 : World) (h2 : ArgsB w2 B A1 (Tm.len l1) l1) (h4 : B ≤ w2.heap.size) => valid_any p1 l1 A1 c1 B w2 h2 h4
      obtain ⟨v, hv⟩ : ∃ v, v = Tm.validB p1 l1 := ⟨_, rfl⟩
      rw [← hv] at C1
      obtain ⟨m1, hm1⟩ : ∃ m1, m1 = Tm.len l1 := ⟨_, rfl⟩
      rw [← hm1] at C1 HII y3
      have HV := Lib.hid hv
      clear hd hnode hm1 hv hat
      have hws := HBL.out.size
      have hbr : b < wr.heap.size := by omega
      cases v
      · go_wp2_with fail
        refine (C1.out _ ?_ ?_).mono ?_
        · exact HII.out.below ((Below.refl wr.heap.size wr).alloc (Nat.le_refl _) _) (by omega)
        · simp; omega
        rintro e w3 ⟨rfl, hb2⟩
        go_wp2_with fail
        go_ret
        refine ⟨?_, HBL.out.trans ((((Below.refl wr.heap.size wr).alloc (Nat.le_refl _) _).trans (hb2.mono (by simp))).mono (by omega))⟩
        rw [Tm.allV, all_not HAT.out HV.out.symm]
        rfl
      · go_wp2_with fail
        refine (C1.out _ ?_ ?_).mono ?_
        · exact HII.out.below ((Below.refl wr.heap.size wr).alloc (Nat.le_refl _) _) (by omega)
        · simp; omega
        rintro e w3 ⟨rfl, hb2⟩
        go_wp2_with fail
        exact ⟨⟨k + 1, by omega, by go_num, all_next HAT.out HP.out HV.out.symm, HBL.out.trans ((((Below.refl wr.heap.size wr).alloc (Nat.le_refl _) _).trans (hb2.mono (by simp))).mono (by omega))⟩, by simp [intOf]; omega⟩
    · obtain rfl : k = n := by omega
      go_wp2_with fail
      go_ret
      refine ⟨?_, HBL.out⟩
      have := HP.out
      rw [← HA.out.len, ← Tm.len_toL] at this
      rw [Tm.allV, all_full this]
      rfl

set_option maxHeartbeats 2000000 in
theorem lvalid_any (F : Fo) (A : Option Addr) (n c B : Nat) (w : World) (hA : ArgsB w B A n F) (hn : n ≤ 4611686018427387904) (hB : B ≤ w.heap.size) :
    Calls Tryd.prog 23 #[.slice A n c] w fun e w' => e = .returned (.bool (Tm.allV F)) ∧ Below w.heap.size w w' := by
  have HA := Lib.hid hA
  have hn2 : n ≤ 9223372036854775807 := by omega
  clear hA
  go_enter Tryd.func23, Tryd.ntmps23
  go_wp2_with fail
  go_loopw [3] (fun u wr => ∃ k : Nat, k ≤ n ∧ u = .int .i64 k ∧ Hid (((Tm.toL F).take k).all (fun x => Tm.validB x.1 x.2) = true) ∧ Below w.heap.size w wr) (fun u _ => n - (intOf u).toNat)
  case atStart => exact ⟨0, Nat.zero_le _, rfl, by simp [Hid], Below.refl _ _⟩
  case round =>
    obtain ⟨k, hk, rfl, HP, hbl⟩ := hrel
    have HBL := Lib.hid hbl
    clear hbl
    by_cases hlt : k < n
    · obtain ⟨b, o, p1, l1, r1, A1, c1, rfl, hbB, hd, hnode⟩ := HA.out.at hlt
      have hbw : b < w.heap.size := Nat.lt_of_lt_of_le hbB hB
      have y0 := (HBL.out.cell (p := ⟨b, o + k * 4, none⟩) hbw).trans hnode.kind
      have y1 := (HBL.out.cell (p := ⟨b, o + k * 4 + 1, none⟩) hbw).trans hnode.num
      have y2 := (HBL.out.cell (p := ⟨b, o + k * 4 + 2, none⟩) hbw).trans hnode.name
      have y3 := (HBL.out.cell (p := ⟨b, o + k * 4 + 3, none⟩) hbw).trans hnode.args
      have HII := Lib.hid (hnode.inn.below HBL.out hB)
      have hat := Tm.toL_at hd
      have HAT := Lib.hid hat
      have C1 := Lib.hid fun (w2 : World) (h2 : ArgsB w2 B A1 (Tm.len l1) l1) (h4 : B ≤ w2.heap.size) => rvalid_any p1 l1 A1 c1 B w2 h2 h4
      obtain ⟨v, hv⟩ : ∃ v, v = Tm.validB p1 l1 := ⟨_, rfl⟩
      rw [← hv] at C1
      obtain ⟨m1, hm1⟩ : ∃ m1, m1 = Tm.len l1 := ⟨_, rfl⟩
      rw [← hm1] at C1 HII y3
      have HV := Lib.hid hv
      clear hd hnode hm1 hv hat
      have hws := HBL.out.size
      have hbr : b < wr.heap.size := by omega
      cases v
      · go_wp2_with fail
        refine (C1.out _ ?_ ?_).mono ?_
        · exact HII.out
        · omega
        rintro e w3 ⟨rfl, hb2⟩
        go_wp2_with fail
        go_ret
        refine ⟨?_, HBL.out.trans (((Below.refl wr.heap.size wr).trans (hb2.mono (by simp))).mono (by omega))⟩
        rw [Tm.allV, all_not HAT.out HV.out.symm]
        rfl
      · go_wp2_with fail
        refine (C1.out _ ?_ ?_).mono ?_
        · exact HII.out
        · omega
        rintro e w3 ⟨rfl, hb2⟩
        go_wp2_with fail
        exact ⟨⟨k + 1, by omega, by go_num, all_next HAT.out HP.out HV.out.symm, HBL.out.trans (((Below.refl wr.heap.size wr).trans (hb2.mono (by simp))).mono (by omega))⟩, by simp [intOf]; omega⟩
    · obtain rfl : k = n := by omega
      go_wp2_with fail
      go_ret
      refine ⟨?_, HBL.out⟩
      have := HP.out
      rw [← HA.out.len, ← Tm.len_toL] at this
      rw [Tm.allV, all_full this]
      rfl

set_option maxHeartbeats 2000000 in
theorem rvalids_any (F : Fo) (A : Option Addr) (n c B : Nat) (w : World) (hA : ArgsB w B A n F) (hn : n ≤ 4611686018427387904) (hB : B ≤ w.heap.size) :
    Calls Tryd.prog 47 #[.slice A n c] w fun e w' => e = .returned (.bool (Tm.allV F)) ∧ Below w.heap.size w w' := by
  have HA := Lib.hid hA
  have hn2 : n ≤ 9223372036854775807 := by omega
  clear hA
  go_enter Tryd.func47, Tryd.ntmps47
  go_wp2_with fail
  go_loopw [3] (fun u wr => ∃ k : Nat, k ≤ n ∧ u = .int .i64 k ∧ Hid (((Tm.toL F).take k).all (fun x => Tm.validB x.1 x.2) = true) ∧ Below w.heap.size w wr) (fun u _ => n - (intOf u).toNat)
  case atStart => exact ⟨0, Nat.zero_le _, rfl, by simp [Hid], Below.refl _ _⟩
  case round =>
    obtain ⟨k, hk, rfl, HP, hbl⟩ := hrel
    have HBL := Lib.hid hbl
    clear hbl
    by_cases hlt : k < n
    · obtain ⟨b, o, p1, l1, r1, A1, c1, rfl, hbB, hd, hnode⟩ := HA.out.at hlt
      have hbw : b < w.heap.size := Nat.lt_of_lt_of_le hbB hB
      have y0 := (HBL.out.cell (p := ⟨b, o + k * 4, none⟩) hbw).trans hnode.kind
      have y1 := (HBL.out.cell (p := ⟨b, o + k * 4 + 1, none⟩) hbw).trans hnode.num
      have y2 := (HBL.out.cell (p := ⟨b, o + k * 4 + 2, none⟩) hbw).trans hnode.name
      have y3 := (HBL.out.cell (p := ⟨b, o + k * 4 + 3, none⟩) hbw).trans hnode.args
      have HII := Lib.hid (hnode.inn.below HBL.out hB)
      have hat := Tm.toL_at hd
      have HAT := Lib.hid hat
      have C1 := Lib.hid fun (w2 : World) (h2 : ArgsB w2 B A1 (Tm.len l1) l1) (h4 : B ≤ w2.heap.size) => rvalid_any p1 l1 A1 c1 B w2 h2 h4
      obtain ⟨v, hv⟩ : ∃ v, v = Tm.validB p1 l1 := ⟨_, rfl⟩
      rw [← hv] at C1
      obtain ⟨m1, hm1⟩ : ∃ m1, m1 = Tm.len l1 := ⟨_, rfl⟩
      rw [← hm1] at C1 HII y3
      have HV := Lib.hid hv
      clear hd hnode hm1 hv hat
      have hws := HBL.out.size
      have hbr : b < wr.heap.size := by omega
      cases v
      · go_wp2_with fail
        refine (C1.out _ ?_ ?_).mono ?_
        · exact HII.out
        · omega
        rintro e w3 ⟨rfl, hb2⟩
        go_wp2_with fail
        go_ret
        refine ⟨?_, HBL.out.trans (((Below.refl wr.heap.size wr).trans (hb2.mono (by simp))).mono (by omega))⟩
        rw [Tm.allV, all_not HAT.out HV.out.symm]
        rfl
      · go_wp2_with fail
        refine (C1.out _ ?_ ?_).mono ?_
        · exact HII.out
        · omega
        rintro e w3 ⟨rfl, hb2⟩
        go_wp2_with fail
        exact ⟨⟨k + 1, by omega, by go_num, all_next HAT.out HP.out HV.out.symm, HBL.out.trans (((Below.refl wr.heap.size wr).trans (hb2.mono (by simp))).mono (by omega))⟩, by simp [intOf]; omega⟩
    · obtain rfl : k = n := by omega
      go_wp2_with fail
      go_ret
      refine ⟨?_, HBL.out⟩
      have := HP.out
      rw [← HA.out.len, ← Tm.len_toL] at this
      rw [Tm.allV, all_full this]
      rfl

set_option maxHeartbeats 2000000 in
theorem arePairs_any (F : Fo) (A : Option Addr) (n c B : Nat) (w : World) (hA : ArgsB w B A n F) (hn : n ≤ 4611686018427387904) (hB : B ≤ w.heap.size) :
    Calls Tryd.prog 45 #[.slice A n c] w fun e w' => e = .returned (.bool (Tm.allPairs F)) ∧ Below w.heap.size w w' := by
  have HA := Lib.hid hA
  have hn2 : n ≤ 9223372036854775807 := by omega
  clear hA
  go_enter Tryd.func45, Tryd.ntmps45
  go_wp2_with fail
  go_loopw [7] (fun u wr => ∃ k : Nat, k ≤ n ∧ u = .int .i64 k ∧ Hid (((Tm.toL F).take k).all isPair = true) ∧ Below w.heap.size w wr) (fun u _ => n - (intOf u).toNat)
  case atStart => exact ⟨0, Nat.zero_le _, rfl, by simp [Hid], Below.refl _ _⟩
  case round =>
    obtain ⟨k, hk, rfl, HP, hbl⟩ := hrel
    have HBL := Lib.hid hbl
    clear hbl
    by_cases hlt : k < n
    · obtain ⟨b, o, p1, l1, r1, A1, c1, rfl, hbB, hd, hnode⟩ := HA.out.at hlt
      have hbw : b < w.heap.size := Nat.lt_of_lt_of_le hbB hB
      have y0 := (HBL.out.cell (p := ⟨b, o + k * 4, none⟩) hbw).trans hnode.kind
      have y1 := (HBL.out.cell (p := ⟨b, o + k * 4 + 1, none⟩) hbw).trans hnode.num
      have y2 := (HBL.out.cell (p := ⟨b, o + k * 4 + 2, none⟩) hbw).trans hnode.name
      have y3 := (HBL.out.cell (p := ⟨b, o + k * 4 + 3, none⟩) hbw).trans hnode.args
      have hat := Tm.toL_at hd
      have HAT := Lib.hid hat
      obtain ⟨m1, hm1⟩ : ∃ m1, m1 = Tm.len l1 := ⟨_, rfl⟩
      rw [← hm1] at y3
      have HM := Lib.hid hm1.symm
      clear hd hnode hm1 hat
      have hws := HBL.out.size
      have hbr : b < wr.heap.size := by omega
      by_cases h3 : p1.1 = 3
      · have q3 : (p1.1 != 3) = false := by simpa using h3
        by_cases hs : p1.2.2 = ⟨#[45]⟩
        · have qs : (p1.2.2.toList == [45]) = true := by rw [hs, Lib.toList_data]; rfl
          by_cases h2 : m1 = 2
          · have q2 : ((m1 : Int) != 2) = false := by simp; omega
            have hp : isPair (p1, l1) = true := by unfold isPair; simp [h3, hs, HM.out, h2]
            have HPP := Lib.hid hp
            clear hp h2 h3
            go_wp2_with fail
            exact ⟨⟨k + 1, by omega, by go_num, all_next HAT.out HP.out HPP.out, HBL.out.trans (((Below.refl wr.heap.size wr).alloc (Nat.le_refl _) _).mono (by omega))⟩, by simp [intOf]; omega⟩
          · have q2 : ((m1 : Int) != 2) = true := by simp; omega
            have hp : isPair (p1, l1) = false := by unfold isPair; simp [HM.out, h2]
            have HPP := Lib.hid hp
            clear hp h2 h3
            go_wp2_with fail
            go_ret
            refine ⟨?_, HBL.out.trans (((Below.refl wr.heap.size wr).alloc (Nat.le_refl _) _).mono (by omega))⟩
            rw [Tm.allPairs, all_not HAT.out HPP.out]
            rfl
        · have qs : (p1.2.2.toList == [45]) = false := by
            rw [Lib.toList_data, beq_eq_false_iff_ne]
            intro e
            exact hs (ByteArray.ext (Array.toList_inj.1 e))
          have hp : isPair (p1, l1) = false := by unfold isPair; simp [hs]
          have HPP := Lib.hid hp
          clear hp hs h3
          go_wp2_with fail
          go_ret
          refine ⟨?_, HBL.out.trans (((Below.refl wr.heap.size wr).alloc (Nat.le_refl _) _).mono (by omega))⟩
          rw [Tm.allPairs, all_not HAT.out HPP.out]
          rfl
      · have q3 : (p1.1 != 3) = true := by simpa using h3
        have hp : isPair (p1, l1) = false := by unfold isPair; simp [h3]
        have HPP := Lib.hid hp
        clear hp h3
        go_wp2_with fail
        go_ret
        refine ⟨?_, HBL.out.trans (((Below.refl wr.heap.size wr).alloc (Nat.le_refl _) _).mono (by omega))⟩
        rw [Tm.allPairs, all_not HAT.out HPP.out]
        rfl
    · obtain rfl : k = n := by omega
      go_wp2_with fail
      go_ret
      refine ⟨?_, HBL.out⟩
      have := HP.out
      rw [← HA.out.len, ← Tm.len_toL] at this
      rw [Tm.allPairs, all_full this]
      rfl

set_option maxHeartbeats 2000000 in
theorem rpair_any (p : Pay) (A : Option Addr) (l : Fo) (c : Nat) (w : World) :
    Calls Tryd.prog 49 #[tv p A (Tm.len l) c] w fun e w' => e = .returned (.bool (isPair (p, l))) ∧ Below w.heap.size w w' := by
  have hb : ∀ o : Obj, Below w.heap.size w (w.alloc o) := fun o => (Below.refl _ w).alloc (Nat.le_refl _) _
  obtain ⟨m1, hm1⟩ : ∃ m1, m1 = Tm.len l := ⟨_, rfl⟩
  obtain ⟨v, hv⟩ : ∃ v, v = isPair (p, l) := ⟨_, rfl⟩
  rw [← hv, ← hm1]
  unfold isPair at hv
  rw [← hm1] at hv
  have HV := Lib.hid hv
  clear hm1 hv
  by_cases h3 : p.1 = 3
  · have q3 : (p.1 == 3) = true := by simpa using h3
    by_cases hs : p.2.2 = ⟨#[45]⟩
    · have qs : (p.2.2.toList == [45]) = true := by rw [hs, Lib.toList_data]; rfl
      by_cases h2 : m1 = 2
      · have q2 : ((m1 : Int) == 2) = true := by simp; omega
        obtain rfl : v = true := by rw [HV.out]; simp [h3, hs, h2]
        clear h2 h3
        go_enter Tryd.func49, Tryd.ntmps49
        go_wp2_with fail
        go_ret
        exact ⟨rfl, hb _⟩
      · have q2 : ((m1 : Int) == 2) = false := by simp; omega
        obtain rfl : v = false := by rw [HV.out]; simp [h2]
        clear h2 h3
        go_enter Tryd.func49, Tryd.ntmps49
        go_wp2_with fail
        go_ret
        exact ⟨rfl, hb _⟩
    · have qs : (p.2.2.toList == [45]) = false := by
        rw [Lib.toList_data, beq_eq_false_iff_ne]
        intro e
        exact hs (ByteArray.ext (Array.toList_inj.1 e))
      obtain rfl : v = false := by rw [HV.out]; simp [hs]
      clear h3 hs
      go_enter Tryd.func49, Tryd.ntmps49
      go_wp2_with fail
      go_ret
      exact ⟨rfl, hb _⟩
  · have q3 : (p.1 == 3) = false := by simpa using h3
    obtain rfl : v = false := by rw [HV.out]; simp [h3]
    clear h3
    go_enter Tryd.func49, Tryd.ntmps49
    go_wp2_with fail
    go_ret
    exact ⟨rfl, hb _⟩
end Go.Proofs.YtcjakmafojbhlaaDoor
namespace Go.Proofs.YtcjakmafojbhlaaDoor
set_option linter.unusedVariables false
set_option linter.unusedSimpArgs false
open Go.RowKit

/-- The slice value (A, n, c) is nil or a row in a block of its own, from N on; it holds the terms F, whose arguments lie elsewhere. -/
structure OwnR (N : Nat) (w : World) (A : Option Addr) (n c : Nat) (F : Fo) : Prop where
  own : ∃ vs, vs.length = n ∧ Vals (fun b => b < w.heap.size ∧ (Value.slice A n c).ownBlock ≠ some b) w vs F ∧ w.ownsRow N 24 4 (.slice A n c) n (tcells vs)
  lo : N ≤ w.heap.size
theorem OwnR.start {N : Nat} {w : World} (h : N ≤ w.heap.size) : OwnR N w none 0 0 .nil := ⟨⟨[], rfl, trivial, World.ownsRow_nil w _ _ _⟩, h⟩
theorem OwnR.len {N : Nat} {w : World} {A : Option Addr} {n c : Nat} {F : Fo} (h : OwnR N w A n c F) : Tm.len F = n := by
  obtain ⟨vs, h1, h2, _⟩ := h.own
  rw [← Vals.len vs F h2, h1]
theorem OwnR.lt {N : Nat} {w : World} {A : Option Addr} {n c : Nat} {F : Fo} (h : OwnR N w A n c F) {b : Nat} (hb : (Value.slice A n c).ownBlock = some b) : N ≤ b ∧ b < w.heap.size := by
  obtain ⟨vs, _, _, h3⟩ := h.own
  exact h3.lt b hb
theorem OwnR.below {N : Nat} {w w' : World} {A : Option Addr} {n c : Nat} {F : Fo} (h : OwnR N w A n c F) (hb : Below w.heap.size w w') : OwnR N w' A n c F := by
  obtain ⟨vs, h1, h2, h3⟩ := h.own
  exact ⟨⟨vs, h1, (Vals.keep (fun b hb' => hb.block b hb'.1) vs F h2).mono' fun b hb' => ⟨Nat.lt_of_lt_of_le hb'.1 hb.size, hb'.2⟩, ownsRow_same h3 fun g hg => hb.block g (h3.lt g hg).2⟩, Nat.le_trans h.lo hb.size⟩
theorem OwnR.args {N : Nat} {w : World} {A : Option Addr} {n c : Nat} {F : Fo} (h : OwnR N w A n c F) (hn : n ≤ 9223372036854775807) : ArgsB w w.heap.size A n F := by
  obtain ⟨vs, h1, h2, h3⟩ := h.own
  by_cases h0 : n = 0
  · subst h0
    obtain rfl := Tm.len_zero h.len
    exact ArgsIn.nil _ _ _
  · obtain ⟨g, cap, e, hg1, hg2⟩ := h3.form (by omega)
    injection e with e1 e2 e3
    subst e1
    have hc := h3.cells (g := g) rfl
    have := Vals.args (b := g) (o := 0) (S := fun b => b < w.heap.size) hg2 (h2.mono' fun b hb => hb.1) (by rw [h1]; exact hn) (fun j u hu => by
      have := hc j u hu
      rw [show (⟨g, 0, none⟩ : Addr).add j = ⟨g, 0 + j, none⟩ by unfold Addr.add; split <;> simp_all] at this
      exact this)
    rw [h1] at this
    exact this
theorem tcells_app (vs us : List Value) : tcells (vs ++ us) = tcells vs ++ tcells us := by simp [tcells]
theorem Vals.app {S : Nat → Prop} {w : World} : ∀ (vs us : List Value) (F G : Fo), Vals S w vs F → Vals S w us G → Vals S w (vs ++ us) (Tm.app F G)
  | [], us, .nil, G, _, h => h
  | v :: vs, us, .node p l r, G, h, h' => ⟨h.1, Vals.app vs us r G h.2 h'⟩
  | [], us, .node _ _ _, G, h, _ => h.elim
  | _ :: _, us, .nil, G, h, _ => h.elim
/-- One append. -/
theorem append_terms {N : Nat} {w : World} {A0 : Option Addr} {n c0 : Nat} {F : Fo} (h : OwnR N w A0 n c0 F) {A : Option Addr} {m c : Nat} {G : Fo} (hA : ArgsIn (fun b => b < w.heap.size ∧ (Value.slice A0 n c0).ownBlock ≠ some b) w A m G) (hb : n + m ≤ 100000) (ty : TypeId) :
    ∃ A' c' w', (Builtin.append_ #[22, 22] ty #[.slice A0 n c0, .slice A m c]).run Tryd.prog w = .ok (.slice A' (n + m) c') w' ∧ OwnR N w' A' (n + m) c' (Tm.app F G) ∧ Below N w w' ∧ (∀ b, b < w.heap.size → (Value.slice A0 n c0).ownBlock ≠ some b → w'.heap[b]? = w.heap[b]?) := by
  obtain ⟨i0, hi0, hz0, hz1, hz2⟩ := term_parts
  obtain ⟨vs, h1, h2, h3⟩ := h.own
  by_cases h0 : m = 0
  · subst h0
    obtain rfl := Tm.len_zero hA.len
    have hcap : n ≤ c0 := by
      rcases h3.2 with ⟨e, hn0⟩ | ⟨g, cap, cur, e, _, _, hc, _⟩
      · omega
      · cases e; exact hc
    refine ⟨A0, c0, w, ?_, by rw [Tm.app_nil, Nat.add_zero]; exact h, Below.refl _ _, fun _ _ _ => rfl⟩
    rw [Nat.add_zero]
    cases A with
    | none => exact run_append_nothing w 22 22 ty 24 i0 Tryd.underlying22 hi0 A0 n c0 hcap _ (Src.ofNil w Tryd.underlying22 c)
    | some ad => exact run_append_nothing w 22 22 ty 24 i0 Tryd.underlying22 hi0 A0 n c0 hcap _ (Src.ofSlice w Tryd.underlying22 ad 0 c [] (by simp) (by simp) (by simp))
  · obtain ⟨bk, of, rfl, hbk, hrow⟩ := hA.row (by omega)
    obtain ⟨us, hu, hcu⟩ := RowIn.vals G bk of hrow
    have hul : us.length = m := by rw [Vals.len us G hu, hA.len]
    obtain ⟨g, cap, w', hr, hown, hgrow, hat, hlt⟩ := run_append_lies (P := Tryd.prog) (w := w) 22 ty N 24 i0 (tv zp none 0 0) 4 56 Tryd.underlying22 hi0 hz0 hz1 hz2 rfl (by decide) (.slice A0 n c0) n (tcells vs) h3 ⟨bk, of, none⟩ m c (tcells us)
      (by rw [Vals.tcells_len us G hu, hul]) (fun j u hj => by
        rw [show (⟨bk, of, none⟩ : Addr).add j = ⟨bk, of + j, none⟩ by unfold Addr.add; split <;> simp_all]
        exact hcu j u hj) (Vals.one us G hu) (by omega) (Nat.le_trans hb (by decide)) (by omega) h.lo w.heap.size rfl
    have hkeep : ∀ b, b < w.heap.size ∧ (Value.slice A0 n c0).ownBlock ≠ some b → w'.heap[b]? = w.heap[b]? := fun b hb' => hgrow.block b hb'.1 fun e => hb'.2 e.symm
    have hne : ∀ b, b < w.heap.size ∧ (Value.slice A0 n c0).ownBlock ≠ some b → b < w'.heap.size ∧ (Value.slice (some ⟨g, 0, none⟩) (n + m) cap).ownBlock ≠ some b := by
      intro b hb'
      refine ⟨Nat.lt_of_lt_of_le hb'.1 hgrow.size, fun e => ?_⟩
      have e' : g = b := by simpa [Value.ownBlock] using e
      subst e'
      rcases hat with h' | h'
      · exact hb'.2 h'
      · omega
    refine ⟨some ⟨g, 0, none⟩, cap, w', hr, ⟨⟨vs ++ us, by rw [List.length_append, h1, hul], ?_, by rw [tcells_app]; exact hown⟩, Nat.le_trans h.lo hgrow.size⟩, ⟨hgrow.os, hgrow.tape, hgrow.output, hgrow.size, fun b hb' => hgrow.block b (Nat.lt_of_lt_of_le hb' h.lo) fun e => ?_⟩, fun b h1 h2 => hkeep b ⟨h1, h2⟩⟩
    · exact Vals.app vs us F G ((Vals.keep hkeep vs F h2).mono' hne) ((Vals.keep hkeep us G hu).mono' hne)
    · have := h3.lt b e.symm; omega
theorem wpList_append_terms {ops : Array Oper} {rest : List Oper} {o : Oper} {a : Act} {Q : Exit → Act → World → Prop} {w : World} (hgd : o.guard = none) (s x : Operand) (ho : o.op = .call { callee := .builtin .append, args := #[s, x], argTypes := #[22, 22] })
    {N : Nat} {A0 : Option Addr} {n c0 : Nat} {F : Fo} (h : OwnR N w A0 n c0 F) (hs : a.eval s = .slice A0 n c0) {A : Option Addr} {m c : Nat} {G : Fo} (hx : a.eval x = .slice A m c)
    (hA : ArgsIn (fun b => b < w.heap.size ∧ (Value.slice A0 n c0).ownBlock ≠ some b) w A m G) (hb : n + m ≤ 100000)
    (hk : ∀ A' c' w', OwnR N w' A' (n + m) c' (Tm.app F G) → Below N w w' → (∀ b, b < w.heap.size → (Value.slice A0 n c0).ownBlock ≠ some b → w'.heap[b]? = w.heap[b]?) → wpList Tryd.prog ops Q rest (a.put o.dst (.slice A' (n + m) c')) w') : wpList Tryd.prog ops Q (o :: rest) a w := by
  obtain ⟨A', c', w', hr, h1, h2, h3⟩ := append_terms h hA hb o.type
  refine wpList_plain hgd fun K hK => ?_
  unfold Oper.wp
  simp [execOp, ho, resolve, invoke, builtin, hs, hx, Result.andThen]
  rw [hr]
  exact hK _ _ (hk A' c' w' h1 h2 h3)
/-- A row of one new term. -/
theorem args_one {w : World} {p : Pay} {l : Fo} {A : Option Addr} {c : Nat} {S S' : Nat → Prop} (hA : ArgsIn S w A (Tm.len l) l) (hS : ∀ b, S b → b < w.heap.size ∧ S' b) (hS' : S' w.heap.size) :
    ArgsIn S' (w.alloc (.cells #[.int .i64 p.1, .int .i64 p.2.1, .string p.2.2, .slice A (Tm.len l) c] 24)) (some ⟨w.heap.size, 0, none⟩) 1 (.node p l .nil) := by
  have ht := TermAt.new w p A (Tm.len l) c 24
  have hk := (hA.keep (w' := w.alloc (.cells #[.int .i64 p.1, .int .i64 p.2.1, .string p.2.2, .slice A (Tm.len l) c] 24)) fun b hb => Below.heap_alloc _ _ _ (hS b hb).1).mono fun b hb => (hS b hb).2
  exact ⟨rfl, by decide, fun _ => ⟨w.heap.size, 0, rfl, hS', ht.kind, ht.num, ht.name, ⟨A, c, ht.args, hk.hi, hk.row⟩, trivial⟩⟩
end Go.Proofs.YtcjakmafojbhlaaDoor
namespace Go.Proofs.YtcjakmafojbhlaaDoor
set_option linter.unusedVariables false
set_option linter.unusedSimpArgs false
open Go.RowKit
open Go.Sort (PermIn SortedIn)

/-! ### what is left -/
namespace Tm
/-- Element k is as the one before it. -/
def dupAt (L : List Tn) (k : Nat) : Bool := decide (0 < k) && decide (cmpP L[k]! L[k - 1]! = 0)
/-- The first n elements without those that are as the one before them. -/
def uniqTo (L : List Tn) : Nat → List Tn
  | 0 => []
  | n + 1 => uniqTo L n ++ (if dupAt L n then [] else [L[n]!])
def uniq (L : List Tn) : List Tn := uniqTo L L.length
theorem uniqTo_dup {L : List Tn} {k : Nat} (h : dupAt L k = true) : uniqTo L (k + 1) = uniqTo L k := by rw [uniqTo, h, if_pos rfl, List.append_nil]
theorem uniqTo_new {L : List Tn} {k : Nat} (h : dupAt L k = false) : uniqTo L (k + 1) = uniqTo L k ++ [L[k]!] := by rw [uniqTo, h]; rfl
theorem uniqTo_one (L : List Tn) : uniqTo L 1 = [L[0]!] := rfl
theorem uniqTo_len (L : List Tn) (k : Nat) : (uniqTo L k).length ≤ k := by
  induction k with
  | zero => exact Nat.le_refl _
  | succ k ih =>
    rw [uniqTo, List.length_append]
    split
    · simp; omega
    · simp; omega
end Tm

/-- A row as a sort's closure sees it: two elements can be compared. -/
theorem sortEq_any (p : Pay) (l : Fo) (A : Option Addr) (c : Nat) (q : Pay) (m : Fo) (A' : Option Addr) (c' : Nat) (w : World) (hg : Tm.goodB p l = true) (hg' : Tm.goodB q m = true) (hA : ArgsB w w.heap.size A (Tm.len l) l) (hA' : ArgsB w w.heap.size A' (Tm.len m) m) (hT : Tabs w) :
    Calls Tryd.prog 43 #[tv p A (Tm.len l) c, tv q A' (Tm.len m) c'] w fun e w' => e = .returned (.bool (decide (Tm.cmpT p l q m = 0))) ∧ Below w.heap.size w w' := by
  have C1 := Lib.hid fun (w1 : World) (hb : Below w.heap.size w w1) => compare_any p l A c q m A' c' w.heap.size w1 hg hg' (hA.below hb (Nat.le_refl _)) (hA'.below hb (Nat.le_refl _)) hb.size (hT.only (Only.of_below (X := fun _ => False) hb) id)
  obtain ⟨x, hx⟩ : ∃ x, x = Tm.cmpT p l q m := ⟨_, rfl⟩
  obtain ⟨k, hk⟩ : ∃ k, k = Tm.len l := ⟨_, rfl⟩
  obtain ⟨k', hk'⟩ : ∃ k', k' = Tm.len m := ⟨_, rfl⟩
  rw [← hx, ← hk, ← hk'] at C1 ⊢
  clear hx hk hk' hA hA' hg hg' hT
  by_cases h0 : x = 0
  · have hb : (x == 0) = true := by simpa using h0
    rw [decide_eq_true h0]
    go_enter Tryd.func43, Tryd.ntmps43
    go_wp2_with fail
    refine (C1.out _ (two_boxes w _ _)).mono ?_
    rintro e w1 ⟨rfl, hb1⟩
    go_wp2_with fail
    go_ret
    exact ⟨rfl, (two_boxes w _ _).trans (hb1.mono (by simp; omega))⟩
  · have hb : (x == 0) = false := by simpa using h0
    rw [decide_eq_false h0]
    go_enter Tryd.func43, Tryd.ntmps43
    go_wp2_with fail
    refine (C1.out _ (two_boxes w _ _)).mono ?_
    rintro e w1 ⟨rfl, hb1⟩
    go_wp2_with fail
    go_ret
    exact ⟨rfl, (two_boxes w _ _).trans (hb1.mono (by simp; omega))⟩
theorem sortEq_at {w0 : World} {blk : Nat} {d : Array Tg} {w : World} (hT : Tabs w0) (hne : 0 ≠ blk) (h : St w0 blk d w) {i j : Nat} (hi : OkT false d[i]!.1) (hj : OkT false d[j]!.1) {A B : Option Addr} {c e : Nat}
    (ni : NodeAt (fun b => b < w0.heap.size ∧ b ≠ blk) w blk (i * 4) d[i]!.1.1 d[i]!.1.2 A c) (nj : NodeAt (fun b => b < w0.heap.size ∧ b ≠ blk) w blk (j * 4) d[j]!.1.1 d[j]!.1.2 B e) (p : Bw w) :
    Calls Tryd.prog 43 #[tv d[i]!.1.1 A (Tm.len d[i]!.1.2) c, tv d[j]!.1.1 B (Tm.len d[j]!.1.2) e] p.to fun e w' => e = .returned (.bool (decide (Tm.cmpP d[i]!.1 d[j]!.1 = 0))) ∧ Below p.to.heap.size p.to w' :=
  sortEq_any _ _ _ _ _ _ _ _ p.to hi.1 hj.1 ((ni.inn.keep fun x hx => p.ok.block x (Nat.lt_of_lt_of_le hx.1 h.only.size)).mono fun x hx => Nat.lt_of_lt_of_le hx.1 (Nat.le_trans h.only.size p.ok.size)) ((nj.inn.keep fun x hx => p.ok.block x (Nat.lt_of_lt_of_le hx.1 h.only.size)).mono fun x hx => Nat.lt_of_lt_of_le hx.1 (Nat.le_trans h.only.size p.ok.size))
    (hT.only (h.only.trans (Only.of_below p.ok)) hne)
/-- One element written over another. -/
theorem St.put {w0 w : World} {blk : Nat} {d : Array Tg} (h : St w0 blk d w) {i j : Nat} (hi : i < d.size) (hj : j < d.size) (hij : i ≠ j) {B : Option Addr} {e : Nat}
    (nj : NodeAt (fun b => b < w0.heap.size ∧ b ≠ blk) w blk (j * 4) d[j]!.1.1 d[j]!.1.2 B e) :
    St w0 blk (d.setIfInBounds i d[j]!) (set4 w blk (i * 4) d[j]!.1.1 B (Tm.len d[j]!.1.2) e) := by
  have hS : ∀ x, (x < w0.heap.size ∧ x ≠ blk) → x ≠ blk := fun x hx => hx.2
  obtain ⟨A, c, ni⟩ := h.row i hi
  refine ⟨set4_in _ _ _ _ _ _ h.only rfl, h.lt, fun k hk => ?_, fun o => by rw [set4_frozen]; exact h.soft o⟩
  rw [Array.size_setIfInBounds] at hk
  by_cases hki : k = i
  · subst hki
    have e1 : (d.setIfInBounds k d[j]!)[k]! = d[j]! := by simp [hi]
    rw [e1]
    exact ⟨B, e, set4_here (S := fun b => b < w0.heap.size ∧ b ≠ blk) (p' := d[j]!.1.1) (c' := e) (four_of_node ni) hS nj.inn⟩
  · have e1 : (d.setIfInBounds i d[j]!)[k]! = d[k]! := by
      rw [Array.getElem!_eq_getD, Array.getElem!_eq_getD, Array.getD_eq_getD_getElem?, Array.getD_eq_getD_getElem?, Array.getElem?_setIfInBounds_ne (Ne.symm hki)]
      try rw [getElem!_pos d k hk, Array.getElem?_eq_getElem hk]
      try rfl
    rw [e1]
    obtain ⟨C, f, nk⟩ := h.row k hk
    exact ⟨C, f, set4_other nk hS (by omega)⟩
theorem Only.setCells {X : Nat → Prop} {a : World} {b : Nat} (hb : X b) : ∀ (vs : List Value) (o : Nat) {w : World}, Only X a w → Only X a (w.setCells b o vs)
  | [], _, _, h => h
  | v :: r, o, _, h => Only.setCells hb r (o + 1) (h.setCell (p := ⟨b, o, none⟩) hb v)
theorem block_setCells (b : Nat) : ∀ (vs : List Value) (o : Nat) (w : World) (x : Nat), x ≠ b → (w.setCells b o vs).heap[x]? = w.heap[x]?
  | [], _, _, _, _ => rfl
  | v :: r, o, w, x, h => (block_setCells b r (o + 1) _ x h).trans (Below.heap_setCell w ⟨b, o, none⟩ v x h)
/-- What lies before stays when the rest is overwritten. -/
theorem St.cut {w0 w : World} {blk : Nat} {d : Array Tg} (h : St w0 blk d w) (k : Nat) (hk : k ≤ d.size) (vs : List Value) : St w0 blk (d.extract 0 k) (w.setCells blk (k * 4) vs) := by
  have hsz : (d.extract 0 k).size = k := by rw [Array.size_extract]; omega
  refine ⟨Only.setCells (X := (· = blk)) rfl vs _ h.only, h.lt, fun j hj => ?_, fun o => by rw [World.frozen?_setCells]; exact h.soft o⟩
  rw [hsz] at hj
  obtain ⟨A, c, hn⟩ := h.row j (by omega)
  have e1 : (d.extract 0 k)[j]! = d[j]! := by
    rw [getElem!_pos (d.extract 0 k) j (by omega), getElem!_pos d j (by omega), Array.getElem_extract]
    simp only [Nat.zero_add]
  rw [e1]
  have hc : ∀ x, x < 4 → (w.setCells blk (k * 4) vs).cell? ⟨blk, j * 4 + x, none⟩ = w.cell? ⟨blk, j * 4 + x, none⟩ := fun x hx => World.cell?_setCells_out blk vs (k * 4) w ⟨blk, j * 4 + x, none⟩ (fun _ _ => .inl (show j * 4 + x < k * 4 by omega))
  exact ⟨A, c, (hc 0 (by omega)).trans hn.kind, (hc 1 (by omega)).trans hn.num, (hc 2 (by omega)).trans hn.name, (hc 3 (by omega)).trans hn.args, hn.inn.keep fun b hb => block_setCells blk vs (k * 4) w b hb.2⟩

/-- The clearing of terms. -/
theorem run_clear_terms (w : World) (ty : TypeId) (g o n c : Nat) (hn : 0 < n) (hc : ∀ j, j < n * 4 → (w.cell? ⟨g, o + j, none⟩).isSome = true) (hs : ∀ x, w.frozen? ⟨g, x, none⟩ = false) :
    ∃ vs, (Builtin.clear_ #[22] ty #[.slice (some ⟨g, o, none⟩) n c]).run Tryd.prog w = .ok (.tuple #[]) (w.setCells g o vs) := by
  have hzv : ∀ w, (zeroValue 24).run Tryd.prog w = .ok (tv zp none 0 0) w := fun w => by kernel_rfl
  have hl : (Builtin.zeroCells (tv zp none 0 0).cells n).toList.length = n * 4 := by simp [Builtin.zeroCells, Value.cells]
  have h1 : ∀ v ∈ (Builtin.zeroCells (tv zp none 0 0).cells n).toList, v.oneCell' = true := by
    intro v hv
    simp only [Builtin.zeroCells, Array.toList_map, List.mem_map] at hv
    obtain ⟨j, hj, rfl⟩ := hv
    have h4 : j % (tv zp none 0 0).cells.size < 4 := Nat.mod_lt _ (by decide)
    generalize j % (tv zp none 0 0).cells.size = i at h4
    match i, h4 with
    | 0, _ => rfl
    | 1, _ => rfl
    | 2, _ => rfl
    | 3, _ => rfl
  have hst := run_storeCells_cells (P := Tryd.prog) g o (Builtin.zeroCells (tv zp none 0 0).cells n).toList 0 w (fun j hj => by rw [Nat.add_zero]; exact hc j (by omega)) (fun j _ => hs _) h1
  simp only [Nat.add_zero] at hst
  obtain ⟨m, rfl⟩ : ∃ m, n = m + 1 := ⟨n - 1, by omega⟩
  exact ⟨(Builtin.zeroCells (tv zp none 0 0).cells (m + 1)).toList, by simp [Builtin.clear_, run_underlying Tryd.underlying22, hzv, hst]⟩
theorem wpList_clear_terms {w : World} {ops : Array Oper} {rest : List Oper} {o : Oper} {a : Act} {Q : Exit → Act → World → Prop} (hgd : o.guard = none) (s : Operand) (ho : o.op = .call { callee := .builtin .clear, args := #[s], argTypes := #[22] })
    (g off n c : Nat) (hs : a.eval s = .slice (some ⟨g, off, none⟩) n c) (hn : 0 < n) (hc : ∀ j, j < n * 4 → (w.cell? ⟨g, off + j, none⟩).isSome = true) (hf : ∀ x, w.frozen? ⟨g, x, none⟩ = false)
    (h : ∀ vs, wpList Tryd.prog ops Q rest (a.put o.dst (.tuple #[])) (w.setCells g off vs)) : wpList Tryd.prog ops Q (o :: rest) a w := by
  obtain ⟨vs, hr⟩ := run_clear_terms w o.type g off n c hn hc hf
  refine wpList_plain hgd fun K hK => ?_
  unfold Oper.wp
  simp [execOp, ho, resolve, invoke, builtin, hs, hr, Result.andThen]
  exact hK _ _ (h vs)
theorem St.some_ {w0 w : World} {blk : Nat} {d : Array Tg} (h : St w0 blk d w) {j : Nat} (hj : j < d.size * 4) : (w.cell? ⟨blk, j, none⟩).isSome = true := by
  obtain ⟨A, c, hn⟩ := h.row (j / 4) (by omega)
  obtain ⟨q, hq⟩ : ∃ q, q = j / 4 := ⟨_, rfl⟩
  rw [← hq] at hn
  obtain rfl | rfl | rfl | rfl : j = q * 4 ∨ j = q * 4 + 1 ∨ j = q * 4 + 2 ∨ j = q * 4 + 3 := by omega
  · rw [hn.kind]; rfl
  · rw [hn.num]; rfl
  · rw [hn.name]; rfl
  · rw [hn.args]; rfl
end Go.Proofs.YtcjakmafojbhlaaDoor
namespace Go.Proofs.YtcjakmafojbhlaaDoor
set_option linter.unusedVariables false
set_option linter.unusedSimpArgs false
open Go.RowKit
namespace Tm
/-- The place behind all elements whose key does not come after t's, sought from the k-th down. -/
def insPos (b : Bool) (L : List Tn) (t : Tn) : Nat → Nat
  | 0 => 0
  | k + 1 => if 0 < cmpK b L[k]! t then insPos b L t k else k + 1
def insertL (b : Bool) (L : List Tn) (t : Tn) : List Tn := L.take (insPos b L t L.length) ++ t :: L.drop (insPos b L t L.length)
/-- The first k elements of a list, sorted. -/
def sortTo (b : Bool) (L : List Tn) : Nat → List Tn
  | 0 => []
  | k + 1 => insertL b (sortTo b L k) L[k]!
def sortL (b : Bool) (L : List Tn) : List Tn := sortTo b L L.length
theorem insPos_le (b : Bool) (L : List Tn) (t : Tn) (k : Nat) : insPos b L t k ≤ k := by
  induction k with
  | zero => exact Nat.le_refl _
  | succ k ih => rw [insPos]; split <;> omega
theorem insPos_after (b : Bool) (L : List Tn) (t : Tn) (k : Nat) : ∀ j, insPos b L t k ≤ j → j < k → 0 < cmpK b L[j]! t := by
  induction k with
  | zero => intro j _ h; omega
  | succ k ih =>
    intro j h1 h2
    rw [insPos] at h1
    split at h1
    · by_cases hj : j = k
      · subst hj; assumption
      · exact ih j h1 (by omega)
    · omega
theorem insPos_before (b : Bool) (L : List Tn) (t : Tn) (k : Nat) (h : 0 < insPos b L t k) : cmpK b L[insPos b L t k - 1]! t ≤ 0 := by
  induction k with
  | zero => exact absurd h (Nat.lt_irrefl 0)
  | succ k ih =>
    rw [insPos] at h ⊢
    split
    · rename_i h0; rw [if_pos h0] at h; exact ih h
    · rw [Nat.add_sub_cancel]; omega
theorem insertL_len (b : Bool) (L : List Tn) (t : Tn) : (insertL b L t).length = L.length + 1 := by
  have := insPos_le b L t L.length
  unfold insertL
  rw [List.length_append, List.length_take, List.length_cons, List.length_drop]
  omega
theorem sortTo_len (b : Bool) (L : List Tn) (k : Nat) : (sortTo b L k).length = k := by
  induction k with
  | zero => rfl
  | succ k ih => rw [sortTo, insertL_len, ih]
/-- What the insertions leave, with the places before. -/
theorem sortTo_is (b : Bool) (L : List Tn) (k : Nat) (hk : k ≤ L.length) : ∃ M : List (Tn × Nat), M.Perm (L.zipIdx.take k) ∧ M.Pairwise (Bef b) ∧ sortTo b L k = M.map (·.1) := by
  induction k with
  | zero => exact ⟨[], by simp, List.Pairwise.nil, rfl⟩
  | succ k ih =>
    obtain ⟨M, hp, hw, he⟩ := ih (by omega)
    have hml : M.length = k := by rw [← sortTo_len b L k, he, List.length_map]
    obtain ⟨x, hx⟩ : ∃ x, x = L[k]! := ⟨_, rfl⟩
    have hxk : L[k]? = some x := by rw [List.getElem?_eq_getElem (by omega), hx, getElem!_pos L k (by omega)]
    have htag : ∀ y ∈ M, y.2 < k := by
      intro y hy
      have h1 := (hp.mem_iff).1 hy
      obtain ⟨i, hi, e⟩ := List.mem_iff_getElem.1 h1
      rw [List.length_take] at hi
      rw [List.getElem_take, List.getElem_zipIdx] at e
      rw [← e]
      show 0 + i < k
      omega
    obtain ⟨p, hpp⟩ : ∃ p, p = insPos b (sortTo b L k) x (sortTo b L k).length := ⟨_, rfl⟩
    have hple : p ≤ k := by have := insPos_le b (sortTo b L k) x (sortTo b L k).length; rw [sortTo_len] at this; rw [hpp, sortTo_len]; exact this
    have hat : ∀ j (hj : j < M.length), (sortTo b L k)[j]! = M[j].1 := fun j hj => by
      rw [he, getElem!_pos _ j (by simpa using hj), List.getElem_map]
    have hafter : ∀ j (hj : j < M.length), p ≤ j → 0 < cmpK b M[j].1 x := fun j hj hpj => by
      rw [← hat j hj]
      exact insPos_after b (sortTo b L k) x (sortTo b L k).length j (by rw [← hpp]; exact hpj) (by rw [sortTo_len]; omega)
    have hbef : ∀ j (hj : j < M.length), j < p → cmpK b M[j].1 x ≤ 0 := fun j hj hjp => by
      have h1 := insPos_before b (sortTo b L k) x (sortTo b L k).length (by rw [← hpp]; omega)
      rw [← hpp, hat (p - 1) (by omega)] at h1
      by_cases hj1 : j = p - 1
      · subst hj1; exact h1
      · have h2 := List.pairwise_iff_getElem.1 hw j (p - 1) hj (by omega) (by omega)
        obtain ⟨f1, f2, f3, f4⟩ := cmpK_fit b M[j].1 M[p - 1].1 x
        unfold Bef at h2
        omega
    refine ⟨M.take p ++ (x, k) :: M.drop p, ?_, ?_, ?_⟩
    · rw [List.take_add_one, show (L.zipIdx)[k]?.toList = [(x, k)] by simp [hxk]]
      refine List.Perm.trans List.perm_middle ?_
      rw [List.take_append_drop]
      exact (List.Perm.cons _ hp).trans (List.perm_append_comm (l₁ := [(x, k)]))
    · rw [List.pairwise_append]
      refine ⟨hw.sublist (List.take_sublist _ _), ?_, ?_⟩
      · rw [List.pairwise_cons]
        refine ⟨fun y hy => ?_, hw.sublist (List.drop_sublist _ _)⟩
        obtain ⟨i, hi, e⟩ := List.mem_iff_getElem.1 hy
        rw [List.length_drop] at hi
        rw [List.getElem_drop] at e
        have h1 := hafter (p + i) (by omega) (by omega)
        rw [e] at h1
        have h2 := cmpK_neg b x y.1
        unfold Bef
        show cmpK b x y.1 < 0 ∨ _
        left
        omega
      · intro y hy z hz
        have hyM : y ∈ M := List.mem_of_mem_take hy
        have hyx : cmpK b y.1 x ≤ 0 := by
          obtain ⟨i, hi, e⟩ := List.mem_iff_getElem.1 hy
          rw [List.length_take] at hi
          rw [List.getElem_take] at e
          have := hbef i (by omega) (by omega)
          rwa [e] at this
        have hyt := htag y hyM
        rcases List.mem_cons.1 hz with rfl | hz
        · unfold Bef
          show cmpK b y.1 x < 0 ∨ (cmpK b y.1 x = 0 ∧ y.2 < k)
          omega
        · have hq := List.pairwise_append.1 (by rw [List.take_append_drop]; exact hw : (M.take p ++ M.drop p).Pairwise (Bef b))
          exact hq.2.2 y hy z hz
    · rw [sortTo, ← hx, insertL, ← hpp, he, List.map_append, List.map_cons, List.map_take, List.map_drop]
theorem isSort_sortL (b : Bool) (L : List Tn) : IsSort b L (sortL b L) := by
  obtain ⟨M, hp, hw, he⟩ := sortTo_is b L L.length (Nat.le_refl _)
  refine ⟨M, ?_, hw, he⟩
  rwa [List.take_of_length_le (by simp)] at hp
theorem IsSort.eq {b : Bool} {L G : List Tn} (h : IsSort b L G) : G = sortL b L := h.uniq (isSort_sortL b L)
theorem sortL_perm (b : Bool) (L : List Tn) : (sortL b L).Perm L := (isSort_sortL b L).perm
theorem sortL_len (b : Bool) (L : List Tn) : (sortL b L).length = L.length := sortTo_len b L _
theorem sortL_mem {b : Bool} {L : List Tn} {x : Tn} : x ∈ sortL b L ↔ x ∈ L := (sortL_perm b L).mem_iff
theorem uniqTo_mem {L : List Tn} {k : Nat} (hk : k ≤ L.length) {x : Tn} (h : x ∈ uniqTo L k) : x ∈ L := by
  induction k with
  | zero => cases h
  | succ k ih =>
    rw [uniqTo, List.mem_append] at h
    rcases h with h | h
    · exact ih (by omega) h
    · split at h
      · cases h
      · rw [List.mem_singleton, getElem!_pos L k (by omega)] at h
        rw [h]; exact List.getElem_mem _
theorem uniq_mem {L : List Tn} {x : Tn} (h : x ∈ uniq L) : x ∈ L := uniqTo_mem (Nat.le_refl _) h
theorem uniq_len (L : List Tn) : (uniq L).length ≤ L.length := uniqTo_len L _
end Tm
end Go.Proofs.YtcjakmafojbhlaaDoor
