/-
  package term's rebuilt, at a structure and as a whole.
-/
import Derived.Test.YtapcnehpechkpaaReb
namespace Go.Proofs.Ytapcnehpechkpaa
set_option linter.unusedVariables false
set_option linter.unusedSimpArgs false
set_option maxRecDepth 100000
open Go.RowKit

theorem run_make_terms (n : Nat) (hn : n ≤ 8) (w : World) : (Instr.makeSlice 22 (.int .i64 n) (.int .i64 n)).run Try.prog w = .ok (.slice (some ⟨w.heap.size, 0, none⟩) n n) (w.alloc (.cells (madeCells (tv zp none 0 0).cells (n * 4)) 24)) := by
  obtain ⟨i, hi, hz, h1, h2⟩ := info_parts term_info3
  have h := run_make (P := Try.prog) w 22 24 i (tv zp none 0 0) Try.underlying22 hi hz .i64 .i64 n n (by omega) (Int.le_refl _) (by rw [h2]; omega) (by omega)
  rw [h1] at h
  simpa using h

/-- Block g holds n terms, the first of which are vs; all its cells can be written. -/
structure Filling (w : World) (g n : Nat) (vs : List Value) : Prop where
  cells : ∀ j u, (tcells vs)[j]? = some u → w.cell? ⟨g, j, none⟩ = some u
  some_ : ∀ j, j < n * 4 → (w.cell? ⟨g, j, none⟩).isSome = true
  soft : ∀ j, j < n * 4 → w.frozen? ⟨g, j, none⟩ = false
theorem Filling.same {w w' : World} {g n : Nat} {vs : List Value} (h : Filling w g n vs) (hk : w'.heap[g]? = w.heap[g]?) : Filling w' g n vs :=
  ⟨fun j u hu => (cell_of_block (p := ⟨g, j, none⟩) hk).trans (h.cells j u hu), fun j hj => by rw [cell_of_block (p := ⟨g, j, none⟩) hk]; exact h.some_ j hj, fun j hj => (frozen_of_block (p := ⟨g, j, none⟩) hk).trans (h.soft j hj)⟩
theorem Filling.new (w : World) (n : Nat) (z : Array Value) : Filling (w.alloc (.cells (madeCells z (n * 4)) 24)) w.heap.size n [] := by
  have h := alloc_new w (.cells (madeCells z (n * 4)) 24)
  refine ⟨fun j u hu => by simp [tcells] at hu, fun j hj => ?_, fun j hj => ?_⟩
  · rw [cell_of_row _ _ _ _ _ _ h, Array.getElem?_eq_getElem (by rw [size_madeCells]; exact hj)]
    rfl
  · unfold World.frozen?; rw [h]; rfl
theorem Filling.four {w : World} {g n : Nat} {vs : List Value} (h : Filling w g n vs) {k : Nat} (hk : k < n) : Four w g (k * 4) := ⟨h.some_ _ (by omega), h.some_ _ (by omega), h.some_ _ (by omega), h.some_ _ (by omega)⟩
theorem Filling.set {w : World} {g n : Nat} {vs : List Value} (h : Filling w g n vs) {k : Nat} (hk : k < n) (hv : (tcells vs).length = k * 4) (p : Pay) (A : Option Addr) (m c : Nat) :
    Filling (set4 w g (k * 4) p A m c) g n (vs ++ [tv p A m c]) := by
  obtain ⟨h0, h1, h2, h3⟩ := set4_cells w g (k * 4) p A m c (h.four hk)
  have hin : ∀ j, j < n * 4 → ((set4 w g (k * 4) p A m c).cell? ⟨g, j, none⟩).isSome = true := by
    intro j hj
    by_cases hf : j < k * 4 ∨ k * 4 + 4 ≤ j
    · rw [set4_far w g (k * 4) p A m c j hf]; exact h.some_ j hj
    · obtain rfl | rfl | rfl | rfl : j = k * 4 ∨ j = k * 4 + 1 ∨ j = k * 4 + 2 ∨ j = k * 4 + 3 := by omega
      · rw [h0]; rfl
      · rw [h1]; rfl
      · rw [h2]; rfl
      · rw [h3]; rfl
  refine ⟨fun j u hu => ?_, hin, fun j hj => by rw [set4_frozen]; exact h.soft j hj⟩
  rw [tcells_snoc] at hu
  by_cases hj : j < k * 4
  · rw [List.getElem?_append_left (by omega)] at hu
    rw [set4_far w g (k * 4) p A m c j (.inl hj)]
    exact h.cells j u hu
  · rw [List.getElem?_append_right (by omega), hv] at hu
    obtain ⟨i, rfl⟩ : ∃ i, j = k * 4 + i := ⟨j - k * 4, by omega⟩
    rw [Nat.add_sub_cancel_left] at hu
    match i, hu with
    | 0, hu => cases hu; exact h0
    | 1, hu => cases hu; exact h1
    | 2, hu => cases hu; exact h2
    | 3, hu => cases hu; exact h3
    | _ + 4, hu => cases hu

theorem Vals.mono' {S S' : Nat → Prop} {w : World} {vs : List Value} {F : Fo} (h : Vals S w vs F) (hS : ∀ b, S b → S' b) : Vals S' w vs F := Vals.mono hS vs F h
/-- What the recursion hands on. -/
def Rebuilds {σ : Type} (f : σ → Int → σ × Pay × Fo) (g : Nat) (cap : Array Value) (B Bo Bx : Nat) (X : Nat → Prop) (Inv : σ → World → Prop) (m : Nat) : Prop :=
  ∀ (p : Pay) (l : Fo) (A : Option Addr) (c : Nat) (s : σ) (w : World), Tm.size l < m → ArgsB w B A (Tm.len l) l → Tm.goodB p l = true → Inv s w → Bx ≤ w.heap.size →
    Calls Try.prog 94 #[tv p A (Tm.len l) c, .func (.func g) #[] cap] w (RebDoes f Bo X Inv s p l w)

set_option maxHeartbeats 4000000 in
theorem rebuilt_struct {σ : Type} (f : σ → Int → σ × Pay × Fo) (g : Nat) (cap : Array Value) (B Bo Bx : Nat) (X : Nat → Prop) (Inv : σ → World → Prop) (O : OfSpec f g cap B Bo Bx X Inv) (m : Nat) (ih : Rebuilds f g cap B Bo Bx X Inv m)
    (nm : ByteArray) (l : Fo) (A : Option Addr) (c : Nat) (s : σ) (w : World) (hm : Tm.size l ≤ m) (hA : ArgsB w B A (Tm.len l) l) (hall : Tm.allB l = true) (hlen : Tm.len l ≤ 8) (hI : Inv s w) (hB : Bx ≤ w.heap.size) :
    Calls Try.prog 94 #[tv (3, 0, nm) A (Tm.len l) c, .func (.func g) #[] cap] w (RebDoes f Bo X Inv s (3, 0, nm) l w) := by
  have OO := Lib.hid O
  have HI := Lib.hid hI
  have IH := Lib.hid ih
  have HM := Lib.hid hm
  have HALL := Lib.hid hall
  obtain ⟨n, hn⟩ : ∃ n, n = Tm.len l := ⟨_, rfl⟩
  rw [← hn] at hA hlen ⊢
  have HA := Lib.hid hA
  have HN := Lib.hid hn
  have hmk := fun w => run_make_terms n hlen w
  have hlo := O.lo
  have hlo2 := O.lo2
  clear O hI ih hm hall hA hn
  unfold RebDoes Tm.rebT
  rw [if_neg (show ¬ (3 : Int) = 0 by decide)]
  go_enter Try.func94, Try.ntmps94
  go_wp2_with fail
  go_loopw [25] (fun u wr => ∃ (k : Nat) (sk : σ) (vs : List Value) (acc : Fo), k ≤ n ∧ u = .int .i64 k ∧ Tm.reb f s l = ((Tm.reb f sk (Tm.dropF l k)).1, Tm.app acc (Tm.reb f sk (Tm.dropF l k)).2) ∧ vs.length = k ∧
    Vals (fun b => (b < Bo ∨ w.heap.size + 2 < b) ∧ b < wr.heap.size) wr vs acc ∧ Filling wr (w.heap.size + 2) n vs ∧ Inv sk wr ∧ Only X w wr ∧ w.heap.size + 2 < wr.heap.size ∧ TermAt wr w.heap.size (3, 0, nm) A n c ∧ TermAt wr (w.heap.size + 1) zp none 0 0 ∧ SoftAt wr (w.heap.size + 1)) (fun u _ => n - (intOf u).toNat)
  case atStart =>
    have k0 : ∀ o1 o2 o3 : Obj, Below w.heap.size w (((w.alloc o1).alloc o2).alloc o3) := fun o1 o2 o3 => Only.below (X := fun _ => False) ((((Only.refl _ w).alloc _).alloc _).alloc _) (Nat.le_refl _) (fun _ h => h.elim)
    have k1 : ∀ o1 o2 o3 : Obj, (((w.alloc o1).alloc o2).alloc o3).heap[w.heap.size]? = (w.alloc o1).heap[w.heap.size]? := fun o1 o2 o3 => (Below.heap_alloc _ _ _ (by simp; omega)).trans (Below.heap_alloc _ _ _ (by simp))
    have k2 : ∀ o1 o2 o3 : Obj, (((w.alloc o1).alloc o2).alloc o3).heap[w.heap.size + 1]? = ((w.alloc o1).alloc o2).heap[w.heap.size + 1]? := fun o1 o2 o3 => Below.heap_alloc _ _ _ (by simp)
    have k3 : ∀ (o1 o2 : Obj) z, Filling (((w.alloc o1).alloc o2).alloc (.cells (madeCells z (n * 4)) 24)) (w.heap.size + 2) n [] := fun o1 o2 z => by
      have := Filling.new ((w.alloc o1).alloc o2) n z
      rw [World.size_alloc, World.size_alloc] at this
      exact this
    have k4 : ∀ o1 : Obj, TermAt ((w.alloc o1).alloc (.cells #[.int .i64 0, .int .i64 0, .string ⟨#[]⟩, .slice none 0 0] 24)) (w.heap.size + 1) zp none 0 0 := fun o1 => by
      have := TermAt.new (w.alloc o1) zp none 0 0 24
      rw [World.size_alloc] at this
      exact this
    have k5 : ∀ (o1 : Obj) cs, SoftAt ((w.alloc o1).alloc (.cells cs 24)) (w.heap.size + 1) := fun o1 cs => by
      have := SoftAt.new (w.alloc o1) cs 24
      rw [World.size_alloc] at this
      exact this
    refine ⟨0, s, [], .nil, Nat.zero_le _, rfl, by rw [Tm.drop_zero]; rfl, rfl, trivial, k3 _ _ _, OO.out.keeps s w _ HI.out (by simp; omega) (fun j hj => (k0 _ _ _).block j (by omega)), Only.of_below (k0 _ _ _), by simp, (TermAt.new w (3, 0, nm) A n c 24).same (k1 _ _ _), (k4 _).same (k2 _ _ _), (k5 _ _).same (k2 _ _ _)⟩
  case round =>
    obtain ⟨k, sk, vs, acc, hk, rfl, hreb, hvl, hvals, hfill, hinv, honly, hwr, hta, htr, hsr⟩ := hrel
    have HREB := Lib.hid hreb
    have HVL := Lib.hid hvl
    have HV := Lib.hid hvals
    have HF := Lib.hid hfill
    have HINV := Lib.hid hinv
    have HO := Lib.hid honly
    have HT := Lib.hid hta
    have HTR := Lib.hid htr
    have HSR := Lib.hid hsr
    clear hreb hvl hvals hfill hinv honly hta htr hsr
    by_cases hlt : k < n
    · obtain ⟨b, o, p1, l1, r1, A1, c1, rfl, hbB, hd, hnode⟩ := HA.out.at hlt
      have hbw : b < w.heap.size := by have : b < B := hbB; omega
      have hbx : ¬ X b := fun hx => by have : b < B := hbB; have := (OO.out.own b hx).1; omega
      have y0 := (HO.out.cell (p := ⟨b, o + k * 4, none⟩) hbw hbx).trans hnode.kind
      have y1 := (HO.out.cell (p := ⟨b, o + k * 4 + 1, none⟩) hbw hbx).trans hnode.num
      have y2 := (HO.out.cell (p := ⟨b, o + k * 4 + 2, none⟩) hbw hbx).trans hnode.name
      have y3 := (HO.out.cell (p := ⟨b, o + k * 4 + 3, none⟩) hbw hbx).trans hnode.args
      have HD := Lib.hid hd
      have HII := Lib.hid (hnode.inn.only HO.out (fun b' (hb' : b' < B) => ⟨by omega, fun hx => by have := (OO.out.own b' hx).1; omega⟩))
      clear hd hnode
      have hs1 : Tm.size l1 < m := by have e := HD.out; have := Tm.size_drop_le l k; rw [e] at this; simp only [Tm.size] at this; have := HM.out; omega
      have hg1 : Tm.goodB p1 l1 = true := by have e := Tm.allB_drop HALL.out k; rw [HD.out, Tm.allB_cons, Bool.and_eq_true] at e; exact e.1
      have C1 := Lib.hid fun (w2 : World) (h2 : ArgsB w2 B A1 (Tm.len l1) l1) (h3 : Inv sk w2) (h4 : Bx ≤ w2.heap.size) => IH.out p1 l1 A1 c1 sk w2 hs1 h2 hg1 h3 h4
      obtain ⟨t, ht⟩ : ∃ t, t = Tm.rebT f sk p1 l1 := ⟨_, rfl⟩
      unfold RebDoes at C1
      rw [← ht] at C1
      obtain ⟨s2, p2, l2⟩ := t
      have hstep : Tm.reb f s l = ((Tm.reb f s2 (Tm.dropF l (k + 1))).1, Tm.app (Tm.app acc (.node p2 l2 .nil)) (Tm.reb f s2 (Tm.dropF l (k + 1))).2) := by
        rw [HREB.out, Tm.drop_succ HD.out, HD.out, Tm.reb_cons, ← ht, Tm.app_assoc]; rfl
      have HSTEP := Lib.hid hstep
      clear hs1 hg1 ht hstep
      have hws := HO.out.size
      go_wp2_with fail
      refine (C1.out _ ?_ ?_ ?_).mono ?_
      · exact HII.out.below ((Below.refl wr.heap.size wr).alloc (Nat.le_refl _) _) (by omega)
      · exact OO.out.keeps sk wr _ HINV.out (by simp) (fun j hj => Below.heap_alloc _ _ _ (by omega))
      · simp; omega
      rintro e w3 ⟨A2, c2, rfl, ha2, hi2, ho2⟩
      have ho3 : Only X wr w3 := ((Only.refl X wr).alloc _).trans ho2
      have hsz2 := ho2.size
      simp at hsz2
      have hown : ∀ j, w.heap.size ≤ j → ¬ X j := fun j hj hx => by have := (OO.out.own j hx).2; omega
      have hf3 : Filling w3 (w.heap.size + 2) n vs := HF.out.same (ho3.block _ hwr (hown _ (by omega)))
      have h4 := hf3.four hlt
      obtain ⟨u0, q0⟩ := Option.isSome_iff_exists.1 h4.c0
      obtain ⟨u1, q1⟩ := Option.isSome_iff_exists.1 h4.c1
      obtain ⟨u2, q2⟩ := Option.isSome_iff_exists.1 h4.c2
      obtain ⟨u3, q3⟩ := Option.isSome_iff_exists.1 h4.c3
      have z0 := hf3.soft (k * 4) (by omega)
      have z1 := hf3.soft (k * 4 + 1) (by omega)
      have z2 := hf3.soft (k * 4 + 2) (by omega)
      have z3 := hf3.soft (k * 4 + 3) (by omega)
      have HF3 := Lib.hid hf3
      have HA2 := Lib.hid ha2
      have HI2 := Lib.hid hi2
      have HO3 := Lib.hid ho3
      have HOWN := Lib.hid hown
      have H4 := Lib.hid h4
      clear hf3 ha2 hi2 ho2 ho3 hown h4 y0 y1 y2 y3
      obtain ⟨m2, hm2⟩ : ∃ m2, m2 = Tm.len l2 := ⟨_, rfl⟩
      rw [← hm2]
      have HM2 := Lib.hid hm2
      clear hm2
      go_wp2_with fail
      have g2 := set4_size w3 (w.heap.size + 2) (k * 4) p2 A2 m2 c2
      have g3 := set4_block w3 (w.heap.size + 2) (k * 4) p2 A2 m2 c2
      have g4 : Only X w (set4 w3 (w.heap.size + 2) (k * 4) p2 A2 m2 c2) := set4_only _ _ _ _ _ _ (HO.out.trans HO3.out) (by omega)
      have g5 := HF3.out.set hlt (by rw [Vals.tcells_len vs acc HV.out, HVL.out]) p2 A2 m2 c2
      have g6 : Vals (fun b => (b < Bo ∨ w.heap.size + 2 < b) ∧ b < (set4 w3 (w.heap.size + 2) (k * 4) p2 A2 m2 c2).heap.size) (set4 w3 (w.heap.size + 2) (k * 4) p2 A2 m2 c2) (vs ++ [tv p2 A2 m2 c2]) (Tm.app acc (.node p2 l2 .nil)) := by
        rw [HM2.out]
        refine Vals.snoc ?_ vs acc ?_
        · refine (HA2.out.keep (w' := set4 w3 (w.heap.size + 2) (k * 4) p2 A2 (Tm.len l2) c2) fun b hb => set4_block _ _ _ _ _ _ _ _ ?_).mono fun b hb => ?_
          · have := hb.1; simp at this; omega
          · have := hb.2; have := hb.1; rw [set4_size]; simp at this; omega
        · refine (Vals.keep (w' := set4 w3 (w.heap.size + 2) (k * 4) p2 A2 (Tm.len l2) c2) (fun b hb => (set4_block _ _ _ _ _ _ _ _ ?_).trans (HO3.out.block b hb.2 ?_)) vs acc HV.out).mono' fun b hb => ?_
          · have := hb.1; omega
          · rcases hb.1 with h | h
            · intro hx; have := (OO.out.own b hx).1; omega
            · exact HOWN.out b (by omega)
          · have := hb.1; have := hb.2; have := HO3.out.size; rw [set4_size]; omega
      have g7 := OO.out.keeps s2 w3 (set4 w3 (w.heap.size + 2) (k * 4) p2 A2 m2 c2) HI2.out (by rw [g2]; exact Nat.le_refl _) (fun j hj => g3 j (by omega))
      have hk1 := HO3.out.size
      have e0 := (g3 w.heap.size (by omega)).trans (HO3.out.block _ (by omega) (HOWN.out _ (by omega)))
      have e1 := (g3 (w.heap.size + 1) (by omega)).trans (HO3.out.block _ (by omega) (HOWN.out _ (by omega)))
      exact ⟨⟨k + 1, s2, vs ++ [tv p2 A2 m2 c2], Tm.app acc (.node p2 l2 .nil), by omega, by go_num, HSTEP.out, by rw [List.length_append, HVL.out]; rfl, g6, g5, g7, g4, by rw [g2]; omega, HT.out.same e0, HTR.out.same e1, HSR.out.same e1⟩, by simp [intOf]; omega⟩
    · obtain rfl : k = n := by omega
      have t0 := HT.out.name
      have q0 := HTR.out.kind
      have q1 := HTR.out.num
      have q2 := HTR.out.name
      have q3 := HTR.out.args
      have z0 := HSR.out.s0
      have z1 := HSR.out.s1
      have z2 := HSR.out.s2
      have z3 := HSR.out.s3
      go_wp2_with fail
      have g1 := set4_term wr (w.heap.size + 1) (3, 0, nm) (some ⟨w.heap.size + 2, 0, none⟩) k k HTR.out.four
      have g2 := set4_size wr (w.heap.size + 1) 0 (3, 0, nm) (some ⟨w.heap.size + 2, 0, none⟩) k k
      have g3 := set4_block wr (w.heap.size + 1) 0 (3, 0, nm) (some ⟨w.heap.size + 2, 0, none⟩) k k
      have g4 : Only X w (set4 wr (w.heap.size + 1) 0 (3, 0, nm) (some ⟨w.heap.size + 2, 0, none⟩) k k) := set4_only _ _ _ _ _ _ HO.out (by omega)
      have hreb : Tm.reb f s l = (sk, acc) := by
        rw [HREB.out, show k = Tm.len l from HN.out, Tm.drop_end]
        show (sk, Tm.app acc .nil) = _
        rw [Tm.app_nil]
      have hal : Tm.len acc = k := by rw [← Vals.len vs acc HV.out, HVL.out]
      refine bodyPost_ret (term_result (q := 4) rfl _ _ (w.heap.size + 1) (3, 0, nm) (some ⟨w.heap.size + 2, 0, none⟩) k k rfl g1) rfl ?_
      rw [hreb]
      refine ⟨some ⟨w.heap.size + 2, 0, none⟩, ⟨k, by rw [hal]⟩, ?_, OO.out.keeps sk wr _ HINV.out (Nat.le_of_eq g2.symm) (fun j hj => g3 j (by omega)), g4⟩
      show ArgsIn _ (set4 wr (w.heap.size + 1) 0 (3, 0, nm) (some ⟨w.heap.size + 2, 0, none⟩) k k) _ (Tm.len acc) acc
      have hv := Vals.keep (w' := set4 wr (w.heap.size + 1) 0 (3, 0, nm) (some ⟨w.heap.size + 2, 0, none⟩) k k) (fun b hb => g3 b (by have := hb.1; omega)) vs acc HV.out
      have hv2 : Vals (fun b => (b < Bo ∨ w.heap.size ≤ b) ∧ b < (set4 wr (w.heap.size + 1) 0 (3, 0, nm) (some ⟨w.heap.size + 2, 0, none⟩) k k).heap.size) _ vs acc := hv.mono' fun b hb => by have := hb.1; have := hb.2; rw [g2]; omega
      have hva := Vals.args (b := w.heap.size + 2) (o := 0) (by rw [g2]; omega) hv2 (by rw [HVL.out]; omega) (fun j u hu => by rw [Nat.zero_add]; exact ((HF.out.same (g3 _ (by omega))).cells j u hu))
      rw [HVL.out] at hva
      rw [hal]
      exact hva
end Go.Proofs.Ytapcnehpechkpaa
