/-
  Error terms whose blocks can all be written.
-/
import Derived.Test.YtapcnehpechkpaaSoft6
import Derived.Test.YtapcnehpechkpaaErr
namespace Go.Proofs.Ytapcnehpechkpaa
set_option linter.unusedVariables false
set_option linter.unusedSimpArgs false
set_option maxRecDepth 100000
open Go.RowKit
theorem cloneSm_any (p : Pay) (l : Fo) (A : Option Addr) (c B : Nat) (w : World) (hA : ArgsB w B A (Tm.len l) l) (hB : B ≤ w.heap.size) :
    Calls Try.prog 72 #[tv p A (Tm.len l) c] w (MakesS (Tm.cloneOf p l).1 (Tm.cloneOf p l).2 w) := by
  by_cases hv : Tm.validB p l = true
  · have e : Tm.cloneOf p l = (p, l) := by unfold Tm.cloneOf; rw [if_pos hv]
    rw [e]
    exact cloneS_any p l A c B w hv hA hB
  · have e : Tm.cloneOf p l = (zp, .nil) := by unfold Tm.cloneOf; rw [if_neg hv]
    have h := clone_any p l A c B w hA hB
    rw [e] at h ⊢
    exact h.mono fun e w' ⟨A1, c1, he, _, hb⟩ => ⟨A1, c1, he, ArgsIn.nil _ _ _, hb⟩
set_option maxHeartbeats 4000000 in
theorem structS_some (s : ByteArray) (l : Fo) (A : Option Addr) (c B : Nat) (w : World) (h0 : 0 < Tm.len l) (hA : ArgsB w B A (Tm.len l) l) (hB : B ≤ w.heap.size) :
    Calls Try.prog 84 #[.string s, .slice A (Tm.len l) c] w (MakesS (Tm.cloneOf (3, 0, s) l).1 (Tm.cloneOf (3, 0, s) l).2 w) := by
  have k0 : ∀ o1 : Obj, Below w.heap.size w (w.alloc o1) := fun o1 => Only.below (X := fun _ => False) ((Only.refl _ w).alloc _) (Nat.le_refl _) (fun _ h => h.elim)
  have K0 := Lib.hid k0
  have C1 := Lib.hid fun (w1 : World) (h1 : ArgsB w1 B A (Tm.len l) l) (h2 : B ≤ w1.heap.size) => cloneSm_any (3, 0, s) l A c B w1 h1 h2
  unfold MakesS at C1
  obtain ⟨n, hn⟩ : ∃ n, n = Tm.len l := ⟨_, rfl⟩
  have hb : ((Tm.len l : Int) == 0) = false := by simp; omega
  rw [← hn] at hA C1 hb ⊢
  have HA := Lib.hid hA
  clear hA hn h0
  unfold MakesS
  obtain ⟨n2, hn2⟩ : ∃ n2, n2 = Tm.len ((Tm.cloneOf (3, 0, s) l).2) := ⟨_, rfl⟩
  rw [← hn2] at C1 ⊢
  have HN2 := Lib.hid hn2
  clear hn2 k0
  go_enter Try.func84, Try.ntmps84
  go_wp2_with fail
  refine (C1.out _ ?_ ?_).mono ?_
  · exact HA.out.below (K0.out _) hB
  · simp; omega
  rintro e w1 ⟨A1, c1, rfl, ha1, hb1⟩
  have hsz := hb1.size
  try simp at hsz
  have hr : ResAt w1 (w.heap.size) := (ResAt.new w 24 _ rfl).below hb1 (by first | omega | (simp; done) | (simp; omega))
  have hw1 : w.heap.size < w1.heap.size := by omega
  have r0 := hr.t.kind
  have r1 := hr.t.num
  have r2 := hr.t.name
  have r3 := hr.t.args
  have q0 := hr.s.s0
  have q1 := hr.s.s1
  have q2 := hr.s.s2
  have q3 := hr.s.s3
  have HA1 := Lib.hid ha1
  have HB1 := Lib.hid ((K0.out _).trans (hb1.mono (by first | omega | (simp; done) | (simp; omega))) : Below w.heap.size w w1)
  have HR := Lib.hid hr
  clear ha1 hb1 hr
  go_wp2_with fail
  have st := stored w1 (w.heap.size) (Tm.cloneOf (3, 0, s) l).1 zp A1 none (n2) c1 0 0 HR.out.t HR.out.s
  show bodyPost _ _ _ _ _ (set4 w1 (w.heap.size) 0 (Tm.cloneOf (3, 0, s) l).1 A1 (n2) c1)
  generalize set4 w1 (w.heap.size) 0 (Tm.cloneOf (3, 0, s) l).1 A1 (n2) c1 = w2 at st ⊢
  refine bodyPost_ret (term_result (q := 4) rfl _ _ (w.heap.size) (Tm.cloneOf (3, 0, s) l).1 A1 (n2) c1 rfl st.term) rfl ?_
  exact ⟨A1, c1, rfl, (HA1.out.keep fun b hb => st.block b (by have h1 := hb.1; (try simp only [World.size_alloc] at h1); omega)).mono fun b hb => hb.keep (by simp) (by rw [st.size]; exact Nat.le_refl _) (st.block b (by have h1 := hb.1; (try simp only [World.size_alloc] at h1); omega)), st.below _ _ HB1.out (by omega)⟩
theorem structS_any (s : ByteArray) (G : Fo) (A : Option Addr) (n c B : Nat) (w : World) (h0 : ¬ Tm.len G = 0) (hA : ArgsB w B A n G) (hB : B ≤ w.heap.size) :
    Calls Try.prog 84 #[.string s, .slice A n c] w (MakesS (Tm.structOf s G).1 (Tm.structOf s G).2 w) := by
  have hl := hA.len
  subst hl
  have : Tm.structOf s G = Tm.cloneOf (3, 0, s) G := by unfold Tm.structOf; rw [if_neg h0]
  rw [this]
  exact structS_some s G A c B w (by omega) hA hB
set_option maxHeartbeats 8000000 in
theorem errorTermS_any (s : ByteArray) (F : Fo) (A : Option Addr) (n c B : Nat) (w : World) (hA : ArgsB w B A n F) (hn : n ≤ 100) (hcap : n ≤ c) (hB : B ≤ w.heap.size) :
    Calls Try.prog 61 #[.string s, .slice A n c] w (MakesS (Tm.errOf s F).1 (Tm.errOf s F).2 w) := by
  unfold MakesS
  have HA := Lib.hid hA
  have HN := Lib.hid hA.len
  have BX := Lib.hid (fun o1 : Obj => ((Below.refl w.heap.size w).alloc (Nat.le_refl _) o1))
  have hnb : n ≤ 9223372036854775807 := by omega
  obtain ⟨L, hL⟩ : ∃ L, L = Tm.len (Tm.errOf s F).2 := ⟨_, rfl⟩
  rw [← hL]
  have HLL := Lib.hid hL
  clear hA hL
  go_enter Try.func61, Try.ntmps61
  go_wp2_with fail
  go_loopw [5, 10] (fun u v wr => ∃ (k sz : Nat), k ≤ n ∧ u = .int .i64 (sz : Int) ∧ v = .int .i64 (k : Int) ∧ sz ≤ 3 + 2000 * k ∧ Hid (Tm.allV (Tm.preF F k) = true ∧ sz + Tm.size (Tm.dropF F k) = 3 + Tm.size F) ∧ ResAt wr w.heap.size ∧ w.heap.size < wr.heap.size ∧ Below w.heap.size w wr) (fun _ v _ => n - (intOf v).toNat)
  case atStart => exact ⟨0, 3, Nat.zero_le _, rfl, rfl, by omega, ⟨by cases F <;> rfl, by rw [Tm.drop_zero]⟩, ResAt.new w _ _ rfl, by simp, BX.out _⟩
  case round =>
    obtain ⟨k, sz, hk, rfl, rfl, hsz, HP, hres, hwr, hbl⟩ := hrel
    have HR := Lib.hid hres
    have HB := Lib.hid hbl
    have hbs := hbl.size
    clear hres hbl
    by_cases hlt : k < n
    · obtain ⟨b, o, p1, l1, r1, A1, c1, rfl, hbB, hd, hnode⟩ := HA.out.at hlt
      have hbw : b < w.heap.size := Nat.lt_of_lt_of_le hbB hB
      have y0 := (HB.out.cell (p := ⟨b, o + k * 4, none⟩) hbw).trans hnode.kind
      have y1 := (HB.out.cell (p := ⟨b, o + k * 4 + 1, none⟩) hbw).trans hnode.num
      have y2 := (HB.out.cell (p := ⟨b, o + k * 4 + 2, none⟩) hbw).trans hnode.name
      have y3 := (HB.out.cell (p := ⟨b, o + k * 4 + 3, none⟩) hbw).trans hnode.args
      have HII := Lib.hid (hnode.inn.below HB.out hB)
      have HD := Lib.hid hd
      have hbr : b < wr.heap.size := by omega
      have V1 := Lib.hid fun (w1 : World) (h1 : ArgsB w1 B A1 (Tm.len l1) l1) (h2 : B ≤ w1.heap.size) => valid_any p1 l1 A1 c1 B w1 h1 h2
      have Z1 := Lib.hid fun (w1 : World) (h1 : ArgsB w1 B A1 (Tm.len l1) l1) (h2 : B ≤ w1.heap.size) => size_any p1 l1 A1 c1 B w1 h1 h2
      obtain ⟨m1, hm1⟩ : ∃ m1, m1 = Tm.len l1 := ⟨_, rfl⟩
      rw [← hm1] at V1 Z1 HII y3
      obtain ⟨v, hv⟩ : ∃ v, v = Tm.validB p1 l1 := ⟨_, rfl⟩
      rw [← hv] at V1
      have HV := Lib.hid hv
      clear hd hnode hm1 hv
      cases v
      · go_wp2_with fail
        refine (V1.out _ ?_ ?_).mono ?_
        · exact HII.out.below ((Below.refl wr.heap.size wr).alloc (Nat.le_refl _) _) (by omega)
        · simp; omega
        rintro e w3 ⟨rfl, hb2⟩
        have hb3 : Below wr.heap.size wr w3 := ((Below.refl wr.heap.size wr).alloc (Nat.le_refl _) _).trans (hb2.mono (by simp))
        have hr : ResAt w3 w.heap.size := HR.out.below hb3 hwr
        have r0 := hr.t.kind
        have r1' := hr.t.num
        have r2 := hr.t.name
        have r3 := hr.t.args
        have q0 := hr.s.s0
        have q1 := hr.s.s1
        have q2 := hr.s.s2
        have q3 := hr.s.s3
        have hw3 : w.heap.size < w3.heap.size := Nat.lt_of_lt_of_le hwr hb3.size
        have HB3 := Lib.hid (HB.out.trans (hb3.mono hbs) : Below w.heap.size w w3)
        have HR3 := Lib.hid hr
        clear hb2 hb3 hr
        go_wp2_with fail
        have st := stored w3 w.heap.size zp zp none none 0 0 0 0 HR3.out.t HR3.out.s
        have eo : Tm.errOf s F = (zp, .nil) := by unfold Tm.errOf; rw [Tm.allV_not HD.out HV.out.symm]; exact if_neg (by decide)
        show bodyPost _ _ _ _ _ (set4 w3 w.heap.size 0 zp none 0 0)
        generalize set4 w3 w.heap.size 0 zp none 0 0 = w2 at st ⊢
        refine bodyPost_ret (term_result (q := 4) rfl _ _ w.heap.size zp none 0 0 rfl st.term) rfl ?_
        have hL0 : L = 0 := by rw [HLL.out, eo]; rfl
        rw [eo, hL0]
        exact ⟨none, 0, rfl, ArgsIn.nil _ _ _, st.below _ _ HB3.out (by omega)⟩
      · have hsz1 : Tm.sizeB l1 = 1 + Tm.size l1 ∧ 1 + Tm.size l1 ≤ 2000 := by
          have := HV.out
          unfold Tm.validB at this
          have h2 := (Bool.and_eq_true_iff.1 this.symm).1
          have h3 := of_decide_eq_true h2
          unfold Tm.sizeB
          omega
        obtain ⟨z1, hz1⟩ : ∃ z1, z1 = Tm.sizeB l1 := ⟨_, rfl⟩
        rw [← hz1] at Z1 hsz1
        have HZ1 := Lib.hid hsz1.1
        have hz1' : z1 ≤ 2000 := by omega
        clear hsz1 hz1
        go_wp2_with fail
        refine (V1.out _ ?_ ?_).mono ?_
        · exact HII.out.below ((Below.refl wr.heap.size wr).alloc (Nat.le_refl _) _) (by omega)
        · simp; omega
        rintro e w3 ⟨rfl, hb2⟩
        have hb3 : Below wr.heap.size wr w3 := ((Below.refl wr.heap.size wr).alloc (Nat.le_refl _) _).trans (hb2.mono (by simp))
        have hta : TermAt w3 wr.heap.size p1 A1 m1 c1 := (TermAt.new wr p1 A1 m1 c1 24).below hb2 (by simp)
        have t0 := hta.kind
        have t1 := hta.num
        have t2 := hta.name
        have t3 := hta.args
        have hw3 : wr.heap.size < w3.heap.size := by have := hb2.size; simp at this; omega
        have HB3 := Lib.hid hb3
        clear hb2 hb3 hta
        go_wp2_with fail
        refine (Z1.out _ ?_ ?_).mono ?_
        · exact HII.out.below HB3.out (by omega)
        · omega
        rintro e w4 ⟨rfl, hb4⟩
        go_wp2_with fail
        have hb5 : Below wr.heap.size wr w4 := HB3.out.trans (hb4.mono (by omega))
        refine ⟨⟨k + 1, sz + z1, by omega, by go_num, by go_num, by omega, ⟨Tm.allV_pre_succ HD.out HP.1 HV.out.symm, ?_⟩, HR.out.below hb5 hwr, Nat.lt_of_lt_of_le hwr hb5.size, HB.out.trans (hb5.mono hbs)⟩, by simp [intOf]; omega⟩
        rw [Tm.drop_succ HD.out]
        have h2 := HP.2
        rw [HD.out] at h2
        have h3 := HZ1.out
        simp only [Tm.size] at h2
        omega
    · obtain rfl : k = n := by omega
      have hall : Tm.allV F = true := by
        have h1 := HP.1
        rwa [← HN.out, Tm.preF_all] at h1
      have hsum : sz = 3 + Tm.size F := by
        have h1 := HP.2
        rw [← HN.out, Tm.drop_end] at h1
        simpa [Tm.size] using h1
      have AT1 := Lib.hid (fun w1 => atom_any ⟨#[91, 93]⟩ w1)
      rw [show Tm.cloneOf (2, 0, ⟨#[91, 93]⟩) .nil = (Tm.emptyA, .nil) from rfl] at AT1
      unfold Makes at AT1
      rw [show Tm.len (Tm.emptyA, Fo.nil).2 = 0 from rfl] at AT1
      have HE := Lib.hid (show Tm.errOf s F = Tm.cloneOf (3, 0, Tm.errName) (.node (Tm.structOf s (Tm.cutF F)).1 (Tm.structOf s (Tm.cutF F)).2 (.node Tm.emptyA .nil .nil)) by unfold Tm.errOf; rw [if_pos hall])
      have HS := Lib.hid hsum
      clear hall hsum
      by_cases hbig : 2000 < sz
      · have hcut : Tm.cutF F = Tm.app (Tm.preF F (k - 1)) (.node Tm.dots .nil .nil) := by unfold Tm.cutF; rw [if_pos (by rw [← HS.out]; exact hbig), HN.out]
        rw [hcut] at HE
        clear hcut
        have hk0 : 0 < k := by
          rcases Nat.eq_zero_or_pos k with h0 | h0
          · exfalso
            have h1 := HN.out
            rw [h0] at h1
            have h2 := HS.out
            rw [Tm.len_zero h1] at h2
            simp only [Tm.size] at h2
            omega
          · exact h0
        obtain ⟨b, o, hAe, hbB, hrow⟩ := HA.out.row hk0
        subst hAe
        have HPRE := Lib.hid (HA.out.pre (k := k - 1) (by omega))
        clear hrow
        obtain ⟨k1, hk1⟩ : ∃ k1, k1 = k - 1 := ⟨_, rfl⟩
        rw [← hk1] at HPRE HE
        have hk2 : k = k1 + 1 := by omega
        clear hk1
        subst hk2
        go_wp2_with fail
        refine (sclone_row (Tm.preF F k1) _ k1 c B _ ?_ (by omega) ?_).mono ?_
        · exact HPRE.out.below HB.out hB
        · omega
        rintro e w3 ⟨A3, c3, rfl, ho3, hb3⟩
        have HO3 := Lib.hid ho3
        have HB3 := Lib.hid (HB.out.trans (hb3.mono hbs) : Below w.heap.size w w3)
        have HR3 := Lib.hid (HR.out.below hb3 hwr)
        have hs3 := hb3.size
        clear ho3 hb3
        go_wp2_with fail
        refine (atomNamed_any _ _).mono ?_
        rintro e w4 ⟨rfl, hb4⟩
        have HO4 := Lib.hid (HO3.out.below hb4)
        have HB4 := Lib.hid (HB3.out.trans (hb4.mono (by omega)) : Below w.heap.size w w4)
        have HR4 := Lib.hid (HR3.out.below hb4 (by omega))
        have hs4 := hb4.size
        clear hb4
        go_wp2_with (at_builtin; refine wpList_append_terms (N := wr.heap.size) (F := Tm.preF F k1) (A0 := A3) (n := k1) (c0 := c3) (m := 1) (c := 1) (G := .node Tm.dots .nil .nil) rfl _ _ rfl ?qo rfl rfl ?qa ?qb ?_)
        case qo => exact HO4.out.below ((Below.refl _ _).alloc (Nat.le_refl _) _)
        case qa => exact args_one (p := Tm.dots) (l := .nil) (A := none) (c := 0) (S := fun _ => False) (ArgsIn.nil _ _ _) (fun b h => h.elim) ⟨by simp, fun e => by have := (HO4.out.lt e).2; omega⟩
        case qb => omega
        intro A7 c7 wq ho7 hb7 _
        have hwq2 := hb7.size
        simp at hwq2
        have hb8 : Below w.heap.size w4 wq := ((Below.refl w4.heap.size w4).alloc (Nat.le_refl _) _ |>.mono (by omega)).trans (hb7.mono (by omega))
        have HBQ := Lib.hid (HB4.out.trans hb8 : Below w.heap.size w wq)
        have HRQ := Lib.hid ((HR4.out.below ((Below.refl w4.heap.size w4).alloc (Nat.le_refl _) _) (by omega)).below hb7 hwr)
        have hwq : w.heap.size ≤ wq.heap.size := by omega
        have hwq' : w.heap.size < wq.heap.size := by omega
        have HOA := Lib.hid (ho7.args (by omega))
        clear ho7 hb7 hb8
        go_wp2_with fail
        refine (struct_any s (Tm.app (Tm.preF F k1) (.node Tm.dots .nil .nil)) _ _ _ _ _ HOA.out ?_).mono ?_
        · exact Nat.le_refl _
        rintro e w5 ⟨A5, c5, rfl, ha5, hb5⟩
        have hb6 : Below w.heap.size w w5 := HBQ.out.trans (hb5.mono hwq)
        have hr5 : ResAt w5 w.heap.size := HRQ.out.below hb5 hwq'
        have hsz5 := hb5.size
        have HA5 := Lib.hid (ha5.mono (S' := fun b => b < w5.heap.size) (fun b hb => hb.2))
        have HB5 := Lib.hid hb6
        have HR5 := Lib.hid hr5
        have hs5 : w.heap.size < w5.heap.size := by have := hb5.size; (try simp at this); omega
        obtain ⟨n5, hn5⟩ : ∃ n5, n5 = Tm.len (Tm.structOf s (Tm.app (Tm.preF F k1) (.node Tm.dots .nil .nil))).2 := ⟨_, rfl⟩
        rw [← hn5] at HA5 ⊢
        have HN5 := Lib.hid hn5
        obtain ⟨q5, hq5⟩ : ∃ q5, q5 = (Tm.structOf s (Tm.app (Tm.preF F k1) (.node Tm.dots .nil .nil))).1 := ⟨_, rfl⟩
        rw [← hq5]
        have HQ5 := Lib.hid hq5
        clear ha5 hb5 hr5 hn5 hb6 hq5 hsz5
        go_wp2_with fail
        refine (AT1.out _).mono ?_
        rintro e w6 ⟨A6, c6, rfl, ha6, hb6⟩
        have hs6 : w5.heap.size ≤ w6.heap.size := hb6.size
        have HB6 := Lib.hid (HB5.out.trans (hb6.mono (by omega)) : Below w.heap.size w w6)
        have HR6 := Lib.hid (HR5.out.below hb6 hs5)
        have HA6 := Lib.hid ((HA5.out.below hb6 (Nat.le_refl _)).up hs6 : ArgsB w6 w6.heap.size A5 n5 _)
        clear ha6 hb6
        go_wp2_with fail
        have hf7 := args_two (p := q5) (q := Tm.emptyA) (m := .nil) (A' := A6) (c := c5) (c' := c6) (n' := 0) HN5.out rfl HA6.out (ArgsIn.nil _ _ _)
        have e8 : Tm.errOf s F = Tm.cloneOf (3, 0, Tm.errName) (.node q5 (Tm.structOf s (Tm.app (Tm.preF F k1) (.node Tm.dots .nil .nil))).2 (.node Tm.emptyA .nil .nil)) := by
          rw [HE.out, HQ5.out]
        obtain ⟨F8, hF8⟩ : ∃ F8, F8 = Fo.node q5 (Tm.structOf s (Tm.app (Tm.preF F k1) (.node Tm.dots .nil .nil))).2 (.node Tm.emptyA .nil .nil) := ⟨_, rfl⟩
        rw [← hF8] at hf7 e8
        have HF8 := Lib.hid hf7
        clear hf7
        refine (structS_any Tm.errName F8 _ _ _ _ _ (by rw [hF8]; simp [Tm.len]) HF8.out ?_).mono ?_
        · simp
        rintro e w9 ⟨A9, c9, rfl, ha9, hb9⟩
        have e10 : Tm.structOf Tm.errName F8 = Tm.errOf s F := by
          unfold Tm.structOf
          rw [if_neg (by rw [hF8]; simp [Tm.len]), e8]
        rw [e10] at ha9 ⊢
        rw [← HLL.out] at ha9 ⊢
        have hs9 := hb9.size
        simp at hs9
        have hb10 : Below w6.heap.size w6 w9 := ((Below.refl _ _).alloc (Nat.le_refl _) _).trans (hb9.mono (by simp))
        have hr9 : ResAt w9 w.heap.size := HR6.out.below hb10 (by omega)
        have hb11 : Below w.heap.size w w9 := HB6.out.trans (hb10.mono (by omega))
        have r0 := hr9.t.kind
        have r1 := hr9.t.num
        have r2 := hr9.t.name
        have r3 := hr9.t.args
        have q0 := hr9.s.s0
        have q1 := hr9.s.s1
        have q2 := hr9.s.s2
        have q3 := hr9.s.s3
        have hw9 : w.heap.size < w9.heap.size := by omega
        have HR9 := Lib.hid hr9
        have HB9 := Lib.hid hb11
        have HA9 := Lib.hid (ha9.mono (S' := Nw (w.heap.size + 1) w9) (fun b hb => ⟨by have h1 := hb.1; simp at h1; omega, hb.2⟩))
        clear ha9 hb9 hb10 hr9 hb11 e8 e10
        obtain ⟨q9, hq9⟩ : ∃ q9, q9 = (Tm.errOf s F).1 := ⟨_, rfl⟩
        rw [← hq9]
        have HQ9 := Lib.hid hq9
        clear hq9
        go_wp2_with fail
        have st := stored w9 w.heap.size q9 zp A9 none L c9 0 0 HR9.out.t HR9.out.s
        show bodyPost _ _ _ _ _ (set4 w9 w.heap.size 0 q9 A9 L c9)
        generalize set4 w9 w.heap.size 0 q9 A9 L c9 = w2 at st ⊢
        refine bodyPost_ret (term_result (q := 4) rfl _ _ w.heap.size q9 A9 L c9 rfl st.term) rfl ?_
        exact ⟨A9, c9, by rw [HQ9.out], (HA9.out.keep fun b hb => st.block b (by have := hb.1; omega)).mono fun b hb => hb.keep (by omega) (by rw [st.size]; exact Nat.le_refl _) (st.block b (by have := hb.1; omega)), st.below _ _ HB9.out (by omega)⟩
      · have hcut : Tm.cutF F = F := by unfold Tm.cutF; rw [if_neg (by rw [← HS.out]; exact hbig)]
        rw [hcut] at HE
        clear hcut
        go_wp2_with fail
        refine (struct_any s (F) _ _ _ _ _ (HA.out.below HB.out hB) ?_).mono ?_
        · omega
        rintro e w5 ⟨A5, c5, rfl, ha5, hb5⟩
        have hb6 : Below w.heap.size w w5 := HB.out.trans (hb5.mono hbs)
        have hr5 : ResAt w5 w.heap.size := HR.out.below hb5 hwr
        have hsz5 := hb5.size
        have HA5 := Lib.hid (ha5.mono (S' := fun b => b < w5.heap.size) (fun b hb => hb.2))
        have HB5 := Lib.hid hb6
        have HR5 := Lib.hid hr5
        have hs5 : w.heap.size < w5.heap.size := by have := hb5.size; (try simp at this); omega
        obtain ⟨n5, hn5⟩ : ∃ n5, n5 = Tm.len (Tm.structOf s (F)).2 := ⟨_, rfl⟩
        rw [← hn5] at HA5 ⊢
        have HN5 := Lib.hid hn5
        obtain ⟨q5, hq5⟩ : ∃ q5, q5 = (Tm.structOf s (F)).1 := ⟨_, rfl⟩
        rw [← hq5]
        have HQ5 := Lib.hid hq5
        clear ha5 hb5 hr5 hn5 hb6 hq5 hsz5
        go_wp2_with fail
        refine (AT1.out _).mono ?_
        rintro e w6 ⟨A6, c6, rfl, ha6, hb6⟩
        have hs6 : w5.heap.size ≤ w6.heap.size := hb6.size
        have HB6 := Lib.hid (HB5.out.trans (hb6.mono (by omega)) : Below w.heap.size w w6)
        have HR6 := Lib.hid (HR5.out.below hb6 hs5)
        have HA6 := Lib.hid ((HA5.out.below hb6 (Nat.le_refl _)).up hs6 : ArgsB w6 w6.heap.size A5 n5 _)
        clear ha6 hb6
        go_wp2_with fail
        have hf7 := args_two (p := q5) (q := Tm.emptyA) (m := .nil) (A' := A6) (c := c5) (c' := c6) (n' := 0) HN5.out rfl HA6.out (ArgsIn.nil _ _ _)
        have e8 : Tm.errOf s F = Tm.cloneOf (3, 0, Tm.errName) (.node q5 (Tm.structOf s (F)).2 (.node Tm.emptyA .nil .nil)) := by
          rw [HE.out, HQ5.out]
        obtain ⟨F8, hF8⟩ : ∃ F8, F8 = Fo.node q5 (Tm.structOf s (F)).2 (.node Tm.emptyA .nil .nil) := ⟨_, rfl⟩
        rw [← hF8] at hf7 e8
        have HF8 := Lib.hid hf7
        clear hf7
        refine (structS_any Tm.errName F8 _ _ _ _ _ (by rw [hF8]; simp [Tm.len]) HF8.out ?_).mono ?_
        · simp
        rintro e w9 ⟨A9, c9, rfl, ha9, hb9⟩
        have e10 : Tm.structOf Tm.errName F8 = Tm.errOf s F := by
          unfold Tm.structOf
          rw [if_neg (by rw [hF8]; simp [Tm.len]), e8]
        rw [e10] at ha9 ⊢
        rw [← HLL.out] at ha9 ⊢
        have hs9 := hb9.size
        simp at hs9
        have hb10 : Below w6.heap.size w6 w9 := ((Below.refl _ _).alloc (Nat.le_refl _) _).trans (hb9.mono (by simp))
        have hr9 : ResAt w9 w.heap.size := HR6.out.below hb10 (by omega)
        have hb11 : Below w.heap.size w w9 := HB6.out.trans (hb10.mono (by omega))
        have r0 := hr9.t.kind
        have r1 := hr9.t.num
        have r2 := hr9.t.name
        have r3 := hr9.t.args
        have q0 := hr9.s.s0
        have q1 := hr9.s.s1
        have q2 := hr9.s.s2
        have q3 := hr9.s.s3
        have hw9 : w.heap.size < w9.heap.size := by omega
        have HR9 := Lib.hid hr9
        have HB9 := Lib.hid hb11
        have HA9 := Lib.hid (ha9.mono (S' := Nw (w.heap.size + 1) w9) (fun b hb => ⟨by have h1 := hb.1; simp at h1; omega, hb.2⟩))
        clear ha9 hb9 hb10 hr9 hb11 e8 e10
        obtain ⟨q9, hq9⟩ : ∃ q9, q9 = (Tm.errOf s F).1 := ⟨_, rfl⟩
        rw [← hq9]
        have HQ9 := Lib.hid hq9
        clear hq9
        go_wp2_with fail
        have st := stored w9 w.heap.size q9 zp A9 none L c9 0 0 HR9.out.t HR9.out.s
        show bodyPost _ _ _ _ _ (set4 w9 w.heap.size 0 q9 A9 L c9)
        generalize set4 w9 w.heap.size 0 q9 A9 L c9 = w2 at st ⊢
        refine bodyPost_ret (term_result (q := 4) rfl _ _ w.heap.size q9 A9 L c9 rfl st.term) rfl ?_
        exact ⟨A9, c9, by rw [HQ9.out], (HA9.out.keep fun b hb => st.block b (by have := hb.1; omega)).mono fun b hb => hb.keep (by omega) (by rw [st.size]; exact Nat.le_refl _) (st.block b (by have := hb.1; omega)), st.below _ _ HB9.out (by omega)⟩

end Go.Proofs.Ytapcnehpechkpaa
