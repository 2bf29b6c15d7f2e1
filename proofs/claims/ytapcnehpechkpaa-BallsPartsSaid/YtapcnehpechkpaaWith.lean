/-
  The reference's ball and with.
-/
import Derived.Test.YtapcnehpechkpaaBallE
namespace Go.Proofs.Ytapcnehpechkpaa
set_option linter.unusedVariables false
set_option linter.unusedSimpArgs false
set_option maxRecDepth 100000
open Go.RowKit

theorem Vals.atoms {S S' : Nat → Prop} {w w' : World} : ∀ (L : List ByteArray) (vs : List Value), Vals S w vs (Bl.atomsF L .nil) → Vals S' w' vs (Bl.atomsF L .nil)
  | [], [], _ => trivial
  | [], _ :: _, h => h.elim
  | _ :: _, [], h => h.elim
  | k :: L, v :: vs, ⟨⟨A, c, e, _⟩, h'⟩ => ⟨⟨A, c, e, ArgsIn.nil _ _ _⟩, Vals.atoms L vs h'⟩
theorem OwnR.atoms_wrote {N n c : Nat} {w w' : World} {A : Option Addr} {L : List ByteArray} (h : OwnR N w A n c (Bl.atomsF L .nil)) (hk : ∀ b, N ≤ b → w'.heap[b]? = w.heap[b]?) (hs : w'.heap.size = w.heap.size) : OwnR N w' A n c (Bl.atomsF L .nil) := by
  obtain ⟨vs, h1, h2, h3⟩ := h.own
  exact ⟨⟨vs, h1, Vals.atoms L vs h2, ownsRow_same h3 fun g hg => hk g (h3.lt g hg).1⟩, by rw [hs]; exact h.lo⟩
set_option maxHeartbeats 8000000 in
theorem rwith_any (p : Pay) (l : Fo) (A : Option Addr) (c : Nat) (s : ByteArray) (L : List ByteArray) (An : Option Addr) (n cn B : Nat) (w : World) (hA : ArgsB w B A (Tm.len l) l) (hS : StrsIn B w An n L) (hn : n ≤ 7) (hB : B ≤ w.heap.size) :
    Calls Try.prog 66 #[tv p A (Tm.len l) c, .string s, .slice An n cn] w (Makes (Bl.refE p l s L).1 (Bl.refE p l s L).2 w) := by
  have V1 := Lib.hid fun (w1 : World) (h1 : ArgsB w1 B A (Tm.len l) l) (h2 : B ≤ w1.heap.size) => rvalid_any p l A c B w1 h1 h2
  have BX := Lib.hid (two_boxes w)
  cases hv : Tm.validB p l
  · rw [hv] at V1
    have eo : Bl.refE p l s L = (zp, .nil) := by unfold Bl.refE; rw [hv]; exact if_neg (by decide)
    rw [eo]
    clear eo
    obtain ⟨m, hm⟩ : ∃ m, m = Tm.len l := ⟨_, rfl⟩
    rw [← hm] at hA V1 ⊢
    have HA := Lib.hid hA
    clear hv hA hm hS
    unfold Makes
    go_enter Try.func66, Try.ntmps66
    go_wp2_with fail
    refine (V1.out _ ?_ ?_).mono ?_
    · exact HA.out.below (BX.out _ _) hB
    · simp; omega
    rintro e w1 ⟨rfl, hb1⟩
    have hsz := hb1.size
    simp at hsz
    have hr : ResAt w1 (w.heap.size + 1) := (ResAt.new (w.alloc _) 24 _ (by simp)).below hb1 (by simp)
    have hw1 : w.heap.size + 1 < w1.heap.size := by omega
    have r0 := hr.t.kind
    have r1 := hr.t.num
    have r2 := hr.t.name
    have r3 := hr.t.args
    have q0 := hr.s.s0
    have q1 := hr.s.s1
    have q2 := hr.s.s2
    have q3 := hr.s.s3
    have HB1 := Lib.hid ((BX.out _ _).trans (hb1.mono (by simp; omega)) : Below w.heap.size w w1)
    have HR := Lib.hid hr
    clear hb1 hr
    go_wp2_with fail
    have st := stored w1 (w.heap.size + 1) zp zp none none 0 0 0 0 HR.out.t HR.out.s
    show bodyPost _ _ _ _ _ (set4 w1 (w.heap.size + 1) 0 zp none 0 0)
    generalize set4 w1 (w.heap.size + 1) 0 zp none 0 0 = w2 at st ⊢
    refine bodyPost_ret (term_result (q := 6) rfl _ _ (w.heap.size + 1) zp none 0 0 rfl st.term) rfl ?_
    exact ⟨none, 0, rfl, ArgsIn.nil _ _ _, st.below _ _ HB1.out (by omega)⟩
  rw [hv] at V1
  have hsz : Tm.sizeB l = 1 + Tm.size l ∧ 1 + Tm.size l ≤ 2000 := by
    unfold Tm.validB at hv
    rw [Bool.and_eq_true, decide_eq_true_eq] at hv
    unfold Tm.sizeB
    omega
  have eo : Bl.refE p l s L = Bl.ballE (3, 0, s) (Bl.atomsF L (.node (Bl.culp p l n).1 (Bl.culp p l n).2 .nil)) := by unfold Bl.refE; rw [hv, hS.len]; exact if_pos rfl
  have Z1 := Lib.hid fun (w1 : World) (h1 : ArgsB w1 B A (Tm.len l) l) (h2 : B ≤ w1.heap.size) => rsize_any p l A c B w1 h1 h2
  obtain ⟨z, hz⟩ : ∃ z, z = Tm.sizeB l := ⟨_, rfl⟩
  rw [← hz] at Z1 hsz
  have hz2 : z ≤ 2000 := by omega
  have HZ := Lib.hid hz
  have HE := Lib.hid eo
  unfold Makes
  obtain ⟨LL, hLL⟩ : ∃ LL, LL = Tm.len (Bl.refE p l s L).2 := ⟨_, rfl⟩
  rw [← hLL]
  have HLL := Lib.hid hLL
  obtain ⟨m, hm⟩ : ∃ m, m = Tm.len l := ⟨_, rfl⟩
  rw [← hm] at hA V1 Z1 ⊢
  have HA := Lib.hid hA
  have HM := Lib.hid hm
  have HS := Lib.hid hS
  clear hv hA hm hS eo hz hLL hsz
  have hnb : n ≤ 9223372036854775807 := by omega
  go_enter Try.func66, Try.ntmps66
  go_wp2_with fail
  refine (V1.out _ ?_ ?_).mono ?_
  · exact HA.out.below (BX.out _ _) hB
  · simp; omega
  rintro e w0 ⟨rfl, hb0⟩
  have hsz0 := hb0.size
  simp at hsz0
  have hta : TermAt w0 w.heap.size p A m c := ((TermAt.new w p A m c 24).below (B := w.heap.size + 1) ((Below.refl _ _).alloc (by simp) _) (by omega)).below hb0 (by simp; omega)
  have hsa : SoftAt w0 w.heap.size := ((SoftAt.new w _ 24).same (Below.heap_alloc _ _ _ (by simp))).same (hb0.block _ (by simp; omega))
  have hres : ResAt w0 (w.heap.size + 1) := (ResAt.new (w.alloc _) 24 _ (by simp)).below hb0 (by simp)
  have HT0 := Lib.hid hta
  have HS0 := Lib.hid hsa
  have HR0 := Lib.hid hres
  have HB0 := Lib.hid ((BX.out _ _).trans (hb0.mono (by simp; omega)) : Below w.heap.size w w0)
  have hw0 : w.heap.size + 1 < w0.heap.size := by omega
  clear hta hsa hres hb0 hsz0
  go_wp2_with fail
  go_loopw [7, 8] (fun u v wr => ∃ (k : Nat) (Ac : Option Addr) (cc : Nat), k ≤ n ∧ u = .slice Ac k cc ∧ v = .int .i64 (k : Int) ∧ OwnR w0.heap.size wr Ac k cc (Bl.atomsF (L.take k) .nil) ∧ Below w0.heap.size w0 wr) (fun _ v _ => n - (intOf v).toNat)
  case atStart => exact ⟨0, none, 0, Nat.zero_le _, rfl, rfl, OwnR.start (Nat.le_refl _), Below.refl _ _⟩
  case round =>
    obtain ⟨k, Ac, cc, hk, rfl, rfl, hown, hbl⟩ := hrel
    have hbs := hbl.size
    have HOWN := Lib.hid hown
    have HB := Lib.hid hbl
    clear hown hbl
    by_cases hlt : k < n
    · obtain ⟨b, o, rfl, hbB, hcell⟩ := HS.out.row (by omega)
      have hlk : k < L.length := by rw [HS.out.len]; exact hlt
      obtain ⟨sk, hsk⟩ : ∃ sk, L[k]? = some sk := ⟨_, List.getElem?_eq_getElem hlk⟩
      have hbw : b < w.heap.size := Nat.lt_of_lt_of_le hbB hB
      have y0 : wr.cell? ⟨b, o + k, none⟩ = some (.string sk) := ((HB0.out.trans (HB.out.mono (by omega))).cell (p := ⟨b, o + k, none⟩) hbw).trans (hcell k sk hsk)
      have HSK := Lib.hid hsk
      clear hcell hsk
      go_wp2_with fail
      refine (rat_any _ _).mono ?_
      rintro e w4 ⟨rfl, hb4⟩
      have HO4 := Lib.hid (HOWN.out.below hb4)
      have HB4 := Lib.hid (HB.out.trans (hb4.mono hbs) : Below w0.heap.size w0 w4)
      have hs4 := hb4.size
      clear hb4
      go_wp2_with (at_builtin; refine wpList_append_terms (N := w0.heap.size) (F := Bl.atomsF (L.take k) .nil) (A0 := Ac) (n := k) (c0 := cc) (m := 1) (c := 1) (G := .node (2, 0, sk) .nil .nil) rfl _ _ rfl ?qo rfl rfl ?qa ?qb ?_)
      case qo => exact HO4.out.below ((Below.refl _ _).alloc (Nat.le_refl _) _)
      case qa => exact args_one (p := (2, 0, sk)) (l := .nil) (A := none) (c := 0) (S := fun _ => False) (ArgsIn.nil _ _ _) (fun b h => h.elim) ⟨by simp, fun e => by have := (HO4.out.lt e).2; omega⟩
      case qb => omega
      intro A7 c7 wq ho7 hb7 _
      have HO7 := Lib.hid ho7
      have HB7 := Lib.hid (HB4.out.trans (((Below.refl w4.heap.size w4).alloc (Nat.le_refl _) _ |>.mono (by omega)).trans (hb7.mono (by omega))) : Below w0.heap.size w0 wq)
      clear ho7 hb7
      go_wp2_with fail
      refine ⟨⟨k + 1, A7, c7, by omega, by go_num, by go_num, ?_, HB7.out⟩, by simp [intOf]; omega⟩
      have := HO7.out
      rwa [Bl.atomsF_snoc, show L.take k ++ [sk] = L.take (k + 1) by rw [List.take_add_one, HSK.out]; rfl] at this
    · obtain rfl : k = n := by omega
      have hown : OwnR w0.heap.size wr Ac k cc (Bl.atomsF L .nil) := by
        have := HOWN.out
        rwa [show L.take k = L by rw [← HS.out.len, List.take_length]] at this
      have HO := Lib.hid hown
      have hwr : w.heap.size + 1 < wr.heap.size := by omega
      have hwr0 : w.heap.size < wr.heap.size := by omega
      have hT : TermAt wr w.heap.size p A m c := HT0.out.below HB.out (by omega)
      have t0 := hT.kind
      have t1 := hT.num
      have t2 := hT.name
      have t3 := hT.args
      have HT := Lib.hid hT
      have HSA := Lib.hid (HS0.out.same (HB.out.block _ (by omega)))
      have HR := Lib.hid (HR0.out.below HB.out hw0)
      have HBW := Lib.hid (HB0.out.trans (HB.out.mono (by omega)) : Below w.heap.size w wr)
      clear hown hT
      go_wp2_with fail
      refine (Z1.out _ ?_ ?_).mono ?_
      · exact HA.out.below HBW.out hB
      · omega
      rintro e w3 ⟨rfl, hb3⟩
      have hs3 := hb3.size
      have HO3 := Lib.hid (HO.out.below hb3)
      have HT3 := Lib.hid (HT.out.below hb3 hwr0)
      have HSA3 := Lib.hid (HSA.out.same (hb3.block _ hwr0))
      have HR3 := Lib.hid (HR.out.below hb3 hwr)
      have HB3 := Lib.hid (HBW.out.trans (hb3.mono (by omega)) : Below w.heap.size w w3)
      clear hb3 t0 t1 t2 t3
      by_cases hbig : 2000 < 3 + k + z
      · have hc : Bl.culp p l k = (Tm.dots, .nil) := if_pos (by rw [← HZ.out]; exact hbig)
        rw [hc] at HE
        have hbi : (2000 : Int) < 2 + (k : Int) + (z : Int) + 1 := by omega
        clear hc
        go_wp2_with fail
        refine (rat_any _ _).mono ?_
        rintro e w4 ⟨rfl, hb4⟩
        have hs4 := hb4.size
        have hT4 : TermAt w4 w.heap.size p A m c := HT3.out.below hb4 (by omega)
        have hSA4 : SoftAt w4 w.heap.size := HSA3.out.same (hb4.block _ (by omega))
        have t0 := hT4.kind
        have t1 := hT4.num
        have t2 := hT4.name
        have t3 := hT4.args
        have s0 := hSA4.s0
        have s1 := hSA4.s1
        have s2 := hSA4.s2
        have s3 := hSA4.s3
        have HO4 := Lib.hid (HO3.out.below hb4)
        have HT4 := Lib.hid hT4
        have HSA4 := Lib.hid hSA4
        have HR4 := Lib.hid (HR3.out.below hb4 (by omega))
        have HB4 := Lib.hid (HB3.out.trans (hb4.mono (by omega)) : Below w.heap.size w w4)
        have hw4 : w.heap.size < w4.heap.size := by omega
        clear hb4 hT4 hSA4
        have sd5 := stored w4 w.heap.size Tm.dots p none A 0 0 m c HT4.out HSA4.out
        have hsz5 : (set4 w4 w.heap.size 0 Tm.dots none 0 0).heap.size = w4.heap.size := sd5.size
        have HO5 := Lib.hid (HO4.out.atoms_wrote (w' := (set4 w4 w.heap.size 0 Tm.dots none 0 0)) (fun b hb => sd5.block b (by omega)) hsz5)
        have HR5 := Lib.hid (HR4.out.same (sd5.block _ (by omega)) : ResAt (set4 w4 w.heap.size 0 Tm.dots none 0 0) (w.heap.size + 1))
        have HB5 := Lib.hid (sd5.below _ _ HB4.out (Nat.le_refl _) : Below w.heap.size w (set4 w4 w.heap.size 0 Tm.dots none 0 0))
        have hw5 : w0.heap.size ≤ (set4 w4 w.heap.size 0 Tm.dots none 0 0).heap.size := by omega
        clear sd5
        go_wp2_with (at_builtin; refine wpList_append_terms (N := w0.heap.size) (F := Bl.atomsF L .nil) (A0 := Ac) (n := k) (c0 := cc) (m := 1) (c := 1) (G := .node Tm.dots .nil .nil) rfl _ _ rfl ?qo rfl rfl ?qa ?qb ?_)
        case qo => exact HO5.out.below ((Below.refl (set4 w4 w.heap.size 0 Tm.dots none 0 0).heap.size (set4 w4 w.heap.size 0 Tm.dots none 0 0)).alloc (Nat.le_refl _) _)
        case qa =>
          have hq := args_one (S' := fun b => b < ((set4 w4 w.heap.size 0 Tm.dots none 0 0).alloc (.cells #[.int .i64 2, .int .i64 0, .string ⟨#[46, 46, 46]⟩, .slice none 0 0] 24)).heap.size ∧ (Value.slice Ac k cc).ownBlock ≠ some b) (w := (set4 w4 w.heap.size 0 Tm.dots none 0 0)) (p := Tm.dots) (l := .nil) (A := none) (c := 0) (S := fun _ => False) (ArgsIn.nil _ _ _) (fun b h => h.elim) ⟨by simp, fun e => by have := (HO5.out.lt e).2; omega⟩
          rw [hsz5] at hq
          exact hq
        case qb => omega
        intro A7 c7 wq ho7 hb7 hk7
        have hsq := hb7.size
        simp [World.setCell] at hsq
        have hbq : Below w0.heap.size (set4 w4 w.heap.size 0 Tm.dots none 0 0) wq := ((Below.refl (set4 w4 w.heap.size 0 Tm.dots none 0 0).heap.size (set4 w4 w.heap.size 0 Tm.dots none 0 0)).alloc (Nat.le_refl _) _ |>.mono hw5).trans (hb7.mono (Nat.le_refl _))
        have HRQ := Lib.hid ((HR5.out.below hbq (by omega)) : ResAt wq (w.heap.size + 1))
        have HBQ := Lib.hid (HB5.out.trans (hbq.mono (by omega)) : Below w.heap.size w wq)
        have ho7' : OwnR w0.heap.size wq A7 (k + 1) c7 (Bl.atomsF L (.node Tm.dots .nil .nil)) := by
          rw [Bl.atomsF_app]
          exact ho7
        have HA7 := Lib.hid (ho7'.args (by omega))
        have hwq : w.heap.size + 1 < wq.heap.size := by omega
        have hFl : Tm.len (Bl.atomsF L (.node Tm.dots .nil .nil)) = k + 1 := by rw [Bl.atomsF_len, HS.out.len]; rfl
        have HFL := Lib.hid hFl
        clear ho7 hb7 hk7 hbq ho7' hFl
        go_wp2_with fail
        refine (rstr_any s A7 (k + 1) c7 _).mono ?_
        rintro e w8 ⟨rfl, hb8⟩
        have hs8 := hb8.size
        have HA8 := Lib.hid (((HA7.out.below hb8 (Nat.le_refl _)).up hs8) : ArgsB w8 w8.heap.size A7 (k + 1) _)
        have HR8 := Lib.hid (HRQ.out.below hb8 hwq)
        have HB8 := Lib.hid (HBQ.out.trans (hb8.mono (by omega)) : Below w.heap.size w w8)
        have BA := Lib.hid (rball_any (3, 0, s) (Bl.atomsF L (.node Tm.dots .nil .nil)) A7 c7 w8.heap.size w8 (by rw [HFL.out]; exact HA8.out) (Nat.le_refl _))
        rw [HFL.out, ← HE.out] at BA
        unfold Makes at BA
        rw [← HLL.out] at BA
        clear hb8
        go_wp2_with fail
        refine BA.out.mono ?_
        rintro e w9 ⟨A9, c9, rfl, ha9, hb9⟩
        have hs9 := hb9.size
        have hr9 : ResAt w9 (w.heap.size + 1) := HR8.out.below hb9 (by omega)
        have r0 := hr9.t.kind
        have r1 := hr9.t.num
        have r2 := hr9.t.name
        have r3 := hr9.t.args
        have q0 := hr9.s.s0
        have q1 := hr9.s.s1
        have q2 := hr9.s.s2
        have q3 := hr9.s.s3
        have hw9 : w.heap.size + 1 < w9.heap.size := by omega
        have HR9 := Lib.hid hr9
        have HB9 := Lib.hid (HB8.out.trans (hb9.mono (by omega)) : Below w.heap.size w w9)
        have HA9 := Lib.hid (ha9.mono (S' := fun b => w.heap.size + 2 ≤ b ∧ b < w9.heap.size) (fun b hb => by have h1 := hb.1; have h2 := hb.2; omega))
        clear ha9 hb9 hr9
        obtain ⟨q9, hq9⟩ : ∃ q9, q9 = (Bl.refE p l s L).1 := ⟨_, rfl⟩
        rw [← hq9]
        have HQ9 := Lib.hid hq9
        clear hq9
        go_wp2_with fail
        have st := stored w9 (w.heap.size + 1) q9 zp A9 none LL c9 0 0 HR9.out.t HR9.out.s
        show bodyPost _ _ _ _ _ (set4 w9 (w.heap.size + 1) 0 q9 A9 LL c9)
        generalize set4 w9 (w.heap.size + 1) 0 q9 A9 LL c9 = w10 at st ⊢
        refine bodyPost_ret (term_result (q := 6) rfl _ _ (w.heap.size + 1) q9 A9 LL c9 rfl st.term) rfl ?_
        exact ⟨A9, c9, by rw [HQ9.out], st.fresh (N := w.heap.size + 2) HA9.out (by omega) (by omega), st.below _ _ HB9.out (by omega)⟩
      · have hc : Bl.culp p l k = (p, l) := if_neg (by rw [← HZ.out]; exact hbig)
        rw [hc] at HE
        have hbi : ¬ (2000 : Int) < 2 + (k : Int) + (z : Int) + 1 := by omega
        have tt3 : TermAt w3 w.heap.size p A m c := HT3.out
        have t0 := tt3.kind
        have t1 := tt3.num
        have t2 := tt3.name
        have t3 := tt3.args
        clear hc tt3
        go_wp2_with (at_builtin; refine wpList_append_terms (N := w0.heap.size) (F := Bl.atomsF L .nil) (A0 := Ac) (n := k) (c0 := cc) (m := 1) (c := 1) (G := .node p l .nil) rfl _ _ rfl ?qo rfl rfl ?qa ?qb ?_)
        case qo => exact HO3.out.below ((Below.refl _ _).alloc (Nat.le_refl _) _)
        case qa =>
          have e := HM.out
          subst e
          exact args_one (p := p) (l := l) (A := A) (c := c) (S := fun b => b < B) (HA.out.below HB3.out hB) (fun b (hb : b < B) => ⟨by omega, by rw [World.size_alloc]; omega, fun e => by have := (HO3.out.lt e).1; omega⟩) ⟨by simp, fun e => by have := (HO3.out.lt e).2; omega⟩
        case qb => omega
        intro A7 c7 wq ho7 hb7 hk7
        have hsq := hb7.size
        simp at hsq
        have hbq : Below w0.heap.size w3 wq := ((Below.refl w3.heap.size w3).alloc (Nat.le_refl _) _ |>.mono (by have := HB3.out.size; omega)).trans (hb7.mono (Nat.le_refl _))
        have HRQ := Lib.hid ((HR3.out.below hbq (by omega)) : ResAt wq (w.heap.size + 1))
        have HBQ := Lib.hid (HB3.out.trans (hbq.mono (by omega)) : Below w.heap.size w wq)
        have ho7' : OwnR w0.heap.size wq A7 (k + 1) c7 (Bl.atomsF L (.node p l .nil)) := by
          rw [Bl.atomsF_app]
          exact ho7
        have HA7 := Lib.hid (ho7'.args (by omega))
        have hwq : w.heap.size + 1 < wq.heap.size := by omega
        have hFl : Tm.len (Bl.atomsF L (.node p l .nil)) = k + 1 := by rw [Bl.atomsF_len, HS.out.len]; rfl
        have HFL := Lib.hid hFl
        clear ho7 hb7 hk7 hbq ho7' hFl
        go_wp2_with fail
        refine (rstr_any s A7 (k + 1) c7 _).mono ?_
        rintro e w8 ⟨rfl, hb8⟩
        have hs8 := hb8.size
        have HA8 := Lib.hid (((HA7.out.below hb8 (Nat.le_refl _)).up hs8) : ArgsB w8 w8.heap.size A7 (k + 1) _)
        have HR8 := Lib.hid (HRQ.out.below hb8 hwq)
        have HB8 := Lib.hid (HBQ.out.trans (hb8.mono (by omega)) : Below w.heap.size w w8)
        have BA := Lib.hid (rball_any (3, 0, s) (Bl.atomsF L (.node p l .nil)) A7 c7 w8.heap.size w8 (by rw [HFL.out]; exact HA8.out) (Nat.le_refl _))
        rw [HFL.out, ← HE.out] at BA
        unfold Makes at BA
        rw [← HLL.out] at BA
        clear hb8
        go_wp2_with fail
        refine BA.out.mono ?_
        rintro e w9 ⟨A9, c9, rfl, ha9, hb9⟩
        have hs9 := hb9.size
        have hr9 : ResAt w9 (w.heap.size + 1) := HR8.out.below hb9 (by omega)
        have r0 := hr9.t.kind
        have r1 := hr9.t.num
        have r2 := hr9.t.name
        have r3 := hr9.t.args
        have q0 := hr9.s.s0
        have q1 := hr9.s.s1
        have q2 := hr9.s.s2
        have q3 := hr9.s.s3
        have hw9 : w.heap.size + 1 < w9.heap.size := by omega
        have HR9 := Lib.hid hr9
        have HB9 := Lib.hid (HB8.out.trans (hb9.mono (by omega)) : Below w.heap.size w w9)
        have HA9 := Lib.hid (ha9.mono (S' := fun b => w.heap.size + 2 ≤ b ∧ b < w9.heap.size) (fun b hb => by have h1 := hb.1; have h2 := hb.2; omega))
        clear ha9 hb9 hr9
        obtain ⟨q9, hq9⟩ : ∃ q9, q9 = (Bl.refE p l s L).1 := ⟨_, rfl⟩
        rw [← hq9]
        have HQ9 := Lib.hid hq9
        clear hq9
        go_wp2_with fail
        have st := stored w9 (w.heap.size + 1) q9 zp A9 none LL c9 0 0 HR9.out.t HR9.out.s
        show bodyPost _ _ _ _ _ (set4 w9 (w.heap.size + 1) 0 q9 A9 LL c9)
        generalize set4 w9 (w.heap.size + 1) 0 q9 A9 LL c9 = w10 at st ⊢
        refine bodyPost_ret (term_result (q := 6) rfl _ _ (w.heap.size + 1) q9 A9 LL c9 rfl st.term) rfl ?_
        exact ⟨A9, c9, by rw [HQ9.out], st.fresh (N := w.heap.size + 2) HA9.out (by omega) (by omega), st.below _ _ HB9.out (by omega)⟩
end Go.Proofs.Ytapcnehpechkpaa
