/-
  Copies and makers of terms: Clone, valid, Var, Int, Atom, Struct, Indicator of the package and of the reference.
-/
import Derived.Test.YtapcnehpechkpaaRCopy
namespace Go.Proofs.Ytapcnehpechkpaa
set_option linter.unusedVariables false
set_option linter.unusedSimpArgs false
set_option maxRecDepth 100000
open Go.RowKit

namespace Tm
/-- A valid term, or the zero Term. -/
def cloneOf (p : Pay) (l : Fo) : Pay × Fo := if validB p l then (p, l) else (zp, .nil)
end Tm

set_option maxHeartbeats 1000000 in
theorem clone_any (p : Pay) (l : Fo) (A : Option Addr) (c B : Nat) (w : World) (hA : ArgsB w B A (Tm.len l) l) (hB : B ≤ w.heap.size) :
    Calls Try.prog 72 #[tv p A (Tm.len l) c] w (Makes (Tm.cloneOf p l).1 (Tm.cloneOf p l).2 w) := by
  have V1 := Lib.hid fun (w1 : World) (h1 : ArgsB w1 B A (Tm.len l) l) (h2 : B ≤ w1.heap.size) => valid_any p l A c B w1 h1 h2
  have BX := Lib.hid (two_boxes w)
  cases hv : Tm.validB p l
  · rw [hv] at V1
    have eo : Tm.cloneOf p l = (zp, .nil) := by unfold Tm.cloneOf; rw [hv]; exact if_neg (by decide)
    rw [eo]
    clear eo
    obtain ⟨n, hn⟩ : ∃ n, n = Tm.len l := ⟨_, rfl⟩
    rw [← hn] at hA V1 ⊢
    have HA := Lib.hid hA
    clear hv hA hn
    go_enter Try.func72, Try.ntmps72
    go_wp2_with fail
    refine (V1.out _ ?_ ?_).mono ?_
    · exact HA.out.below (BX.out _ _) hB
    · simp; omega
    rintro e w1 ⟨rfl, hb1⟩
    have hsz := hb1.size
    simp at hsz
    have hr : ResAt w1 (w.heap.size + 1) := (ResAt.new (w.alloc _) 24 _ (by simp)).below hb1 (by simp)
    have hw1 : w.heap.size + 1 < w1.heap.size := by omega
    have r0 := hr.t.kind
    have r1 := hr.t.num
    have r2 := hr.t.name
    have r3 := hr.t.args
    have q0 := hr.s.s0
    have q1 := hr.s.s1
    have q2 := hr.s.s2
    have q3 := hr.s.s3
    have HB1 := Lib.hid ((BX.out _ _).trans (hb1.mono (by simp; omega)) : Below w.heap.size w w1)
    have HR := Lib.hid hr
    clear hb1 hr
    go_wp2_with fail
    have st := stored w1 (w.heap.size + 1) zp zp none none 0 0 0 0 HR.out.t HR.out.s
    show bodyPost _ _ _ _ _ (set4 w1 (w.heap.size + 1) 0 zp none 0 0)
    generalize set4 w1 (w.heap.size + 1) 0 zp none 0 0 = w2 at st ⊢
    refine bodyPost_ret (term_result (q := 2) rfl _ _ (w.heap.size + 1) zp none 0 0 rfl st.term) rfl ?_
    exact ⟨none, 0, rfl, ArgsIn.nil _ _ _, st.below _ _ HB1.out (by omega)⟩
  have hg : Tm.goodB p l = true := by unfold Tm.validB at hv; rw [Bool.and_eq_true] at hv; exact hv.2
  have C2 := Lib.hid fun (w1 : World) (h1 : ArgsB w1 B A (Tm.len l) l) (h2 : B ≤ w1.heap.size) => copied_any p l A c B w1 h1 hg h2
  rw [hv] at V1
  have eo : Tm.cloneOf p l = (p, l) := by unfold Tm.cloneOf; rw [hv]; exact if_pos rfl
  rw [eo]
  try unfold Makes at C2
  unfold Makes
  simp only []
  clear eo
  obtain ⟨n, hn⟩ : ∃ n, n = Tm.len l := ⟨_, rfl⟩
  rw [← hn] at hA V1 C2 ⊢
  have HA := Lib.hid hA
  clear hv hA hn hg
  go_enter Try.func72, Try.ntmps72
  go_wp2_with fail
  refine (V1.out _ ?_ ?_).mono ?_
  · exact HA.out.below (BX.out _ _) hB
  · simp; omega
  rintro e w0 ⟨rfl, hb0⟩
  have hsz0 := hb0.size
  simp at hsz0
  have hta : TermAt w0 w.heap.size p A n c := ((TermAt.new w p A n c 24).below (B := w.heap.size + 1) ((Below.refl _ _).alloc (by simp) _) (by omega)).below hb0 (by simp; omega)
  have hres : ResAt w0 (w.heap.size + 1) := (ResAt.new (w.alloc _) 24 _ (by simp)).below hb0 (by simp)
  have y0 := hta.kind
  have y1 := hta.num
  have y2 := hta.name
  have y3 := hta.args
  have hw0 : w.heap.size + 1 < w0.heap.size := by omega
  have HB0 := Lib.hid ((BX.out _ _).trans (hb0.mono (by simp; omega)) : Below w.heap.size w w0)
  have HR0 := Lib.hid hres
  clear hb0 hta hres
  go_wp2_with fail
  refine (C2.out _ ?_ ?_).mono ?_
  · exact HA.out.below HB0.out hB
  · omega
  rintro e w1 ⟨A1, c1, rfl, ha1, hb1⟩
  have hsz := hb1.size
  try simp at hsz
  have hr : ResAt w1 (w.heap.size + 1) := (HR0.out).below hb1 (by first | omega | (simp; done) | (simp; omega))
  have hw1 : w.heap.size + 1 < w1.heap.size := by omega
  have r0 := hr.t.kind
  have r1 := hr.t.num
  have r2 := hr.t.name
  have r3 := hr.t.args
  have q0 := hr.s.s0
  have q1 := hr.s.s1
  have q2 := hr.s.s2
  have q3 := hr.s.s3
  have HA1 := Lib.hid ha1
  have HB1 := Lib.hid ((HB0.out).trans (hb1.mono (by first | omega | (simp; done) | (simp; omega))) : Below w.heap.size w w1)
  have HR := Lib.hid hr
  clear ha1 hb1 hr
  go_wp2_with fail
  have st := stored w1 (w.heap.size + 1) p zp A1 none (n) c1 0 0 HR.out.t HR.out.s
  show bodyPost _ _ _ _ _ (set4 w1 (w.heap.size + 1) 0 p A1 (n) c1)
  generalize set4 w1 (w.heap.size + 1) 0 p A1 (n) c1 = w2 at st ⊢
  refine bodyPost_ret (term_result (q := 2) rfl _ _ (w.heap.size + 1) p A1 (n) c1 rfl st.term) rfl ?_
  exact ⟨A1, c1, rfl, st.fresh (N := w0.heap.size) (HA1.out.mono (fun b hb => by have h1 := hb.1; have h2 := hb.2; (try simp only [World.size_alloc] at h1); omega)) (by omega) (by omega), st.below _ _ HB1.out (by omega)⟩

set_option maxHeartbeats 1000000 in
theorem rclone_any (p : Pay) (l : Fo) (A : Option Addr) (c B : Nat) (w : World) (hA : ArgsB w B A (Tm.len l) l) (hB : B ≤ w.heap.size) :
    Calls Try.prog 52 #[tv p A (Tm.len l) c] w (Makes (Tm.cloneOf p l).1 (Tm.cloneOf p l).2 w) := by
  have V1 := Lib.hid fun (w1 : World) (h1 : ArgsB w1 B A (Tm.len l) l) (h2 : B ≤ w1.heap.size) => rvalid_any p l A c B w1 h1 h2
  have BX := Lib.hid (two_boxes w)
  cases hv : Tm.validB p l
  · rw [hv] at V1
    have eo : Tm.cloneOf p l = (zp, .nil) := by unfold Tm.cloneOf; rw [hv]; exact if_neg (by decide)
    rw [eo]
    clear eo
    obtain ⟨n, hn⟩ : ∃ n, n = Tm.len l := ⟨_, rfl⟩
    rw [← hn] at hA V1 ⊢
    have HA := Lib.hid hA
    clear hv hA hn
    go_enter Try.func52, Try.ntmps52
    go_wp2_with fail
    refine (V1.out _ ?_ ?_).mono ?_
    · exact HA.out.below (BX.out _ _) hB
    · simp; omega
    rintro e w1 ⟨rfl, hb1⟩
    have hsz := hb1.size
    simp at hsz
    have hr : ResAt w1 (w.heap.size + 1) := (ResAt.new (w.alloc _) 24 _ (by simp)).below hb1 (by simp)
    have hw1 : w.heap.size + 1 < w1.heap.size := by omega
    have r0 := hr.t.kind
    have r1 := hr.t.num
    have r2 := hr.t.name
    have r3 := hr.t.args
    have q0 := hr.s.s0
    have q1 := hr.s.s1
    have q2 := hr.s.s2
    have q3 := hr.s.s3
    have HB1 := Lib.hid ((BX.out _ _).trans (hb1.mono (by simp; omega)) : Below w.heap.size w w1)
    have HR := Lib.hid hr
    clear hb1 hr
    go_wp2_with fail
    have st := stored w1 (w.heap.size + 1) zp zp none none 0 0 0 0 HR.out.t HR.out.s
    show bodyPost _ _ _ _ _ (set4 w1 (w.heap.size + 1) 0 zp none 0 0)
    generalize set4 w1 (w.heap.size + 1) 0 zp none 0 0 = w2 at st ⊢
    refine bodyPost_ret (term_result (q := 2) rfl _ _ (w.heap.size + 1) zp none 0 0 rfl st.term) rfl ?_
    exact ⟨none, 0, rfl, ArgsIn.nil _ _ _, st.below _ _ HB1.out (by omega)⟩
  have hg : Tm.goodB p l = true := by unfold Tm.validB at hv; rw [Bool.and_eq_true] at hv; exact hv.2
  have C2 := Lib.hid fun (w1 : World) (h1 : ArgsB w1 B A (Tm.len l) l) (h2 : B ≤ w1.heap.size) => rcopied_any p l A c B w1 hv h1 h2
  rw [hv] at V1
  have eo : Tm.cloneOf p l = (p, l) := by unfold Tm.cloneOf; rw [hv]; exact if_pos rfl
  rw [eo]
  try unfold Makes at C2
  unfold Makes
  simp only []
  clear eo
  obtain ⟨n, hn⟩ : ∃ n, n = Tm.len l := ⟨_, rfl⟩
  rw [← hn] at hA V1 C2 ⊢
  have HA := Lib.hid hA
  clear hv hA hn hg
  go_enter Try.func52, Try.ntmps52
  go_wp2_with fail
  refine (V1.out _ ?_ ?_).mono ?_
  · exact HA.out.below (BX.out _ _) hB
  · simp; omega
  rintro e w0 ⟨rfl, hb0⟩
  have hsz0 := hb0.size
  simp at hsz0
  have hta : TermAt w0 w.heap.size p A n c := ((TermAt.new w p A n c 24).below (B := w.heap.size + 1) ((Below.refl _ _).alloc (by simp) _) (by omega)).below hb0 (by simp; omega)
  have hres : ResAt w0 (w.heap.size + 1) := (ResAt.new (w.alloc _) 24 _ (by simp)).below hb0 (by simp)
  have y0 := hta.kind
  have y1 := hta.num
  have y2 := hta.name
  have y3 := hta.args
  have hw0 : w.heap.size + 1 < w0.heap.size := by omega
  have HB0 := Lib.hid ((BX.out _ _).trans (hb0.mono (by simp; omega)) : Below w.heap.size w w0)
  have HR0 := Lib.hid hres
  clear hb0 hta hres
  go_wp2_with fail
  refine (C2.out _ ?_ ?_).mono ?_
  · exact HA.out.below HB0.out hB
  · omega
  rintro e w1 ⟨A1, c1, rfl, ha1, hb1⟩
  have hsz := hb1.size
  try simp at hsz
  have hr : ResAt w1 (w.heap.size + 1) := (HR0.out).below hb1 (by first | omega | (simp; done) | (simp; omega))
  have hw1 : w.heap.size + 1 < w1.heap.size := by omega
  have r0 := hr.t.kind
  have r1 := hr.t.num
  have r2 := hr.t.name
  have r3 := hr.t.args
  have q0 := hr.s.s0
  have q1 := hr.s.s1
  have q2 := hr.s.s2
  have q3 := hr.s.s3
  have HA1 := Lib.hid ha1
  have HB1 := Lib.hid ((HB0.out).trans (hb1.mono (by first | omega | (simp; done) | (simp; omega))) : Below w.heap.size w w1)
  have HR := Lib.hid hr
  clear ha1 hb1 hr
  go_wp2_with fail
  have st := stored w1 (w.heap.size + 1) p zp A1 none (n) c1 0 0 HR.out.t HR.out.s
  show bodyPost _ _ _ _ _ (set4 w1 (w.heap.size + 1) 0 p A1 (n) c1)
  generalize set4 w1 (w.heap.size + 1) 0 p A1 (n) c1 = w2 at st ⊢
  refine bodyPost_ret (term_result (q := 2) rfl _ _ (w.heap.size + 1) p A1 (n) c1 rfl st.term) rfl ?_
  exact ⟨A1, c1, rfl, st.fresh (N := w0.heap.size) (HA1.out.mono (fun b hb => by have h1 := hb.1; have h2 := hb.2; (try simp only [World.size_alloc] at h1); omega)) (by omega) (by omega), st.below _ _ HB1.out (by omega)⟩

set_option maxHeartbeats 1000000 in
theorem int_any (n : Int) (w : World) :
    Calls Try.prog 63 #[.int .i64 n] w (Makes (Tm.cloneOf (1, n, ByteArray.empty) .nil).1 (Tm.cloneOf (1, n, ByteArray.empty) .nil).2 w) := by
  have k0 : ∀ o1 : Obj, Below w.heap.size w (w.alloc o1) := fun o1 => Only.below (X := fun _ => False) ((Only.refl _ w).alloc _) (Nat.le_refl _) (fun _ h => h.elim)
  have K0 := Lib.hid k0
  have C1 := Lib.hid fun (w1 : World) => clone_any (1, n, ByteArray.empty) .nil none 0 w1.heap.size w1 (ArgsIn.nil _ _ _) (Nat.le_refl _)
  unfold Makes at C1
  unfold Makes
  obtain ⟨n2, hn2⟩ : ∃ n2, n2 = Tm.len ((Tm.cloneOf (1, n, ByteArray.empty) .nil).2) := ⟨_, rfl⟩
  rw [← hn2] at C1 ⊢
  have HN2 := Lib.hid hn2
  clear hn2 k0
  go_enter Try.func63, Try.ntmps63
  go_wp2_with fail
  refine (C1.out _).mono ?_
  rintro e w1 ⟨A1, c1, rfl, ha1, hb1⟩
  have hsz := hb1.size
  try simp at hsz
  have hr : ResAt w1 (w.heap.size) := (ResAt.new w 24 _ rfl).below hb1 (by first | omega | (simp; done) | (simp; omega))
  have hw1 : w.heap.size < w1.heap.size := by omega
  have r0 := hr.t.kind
  have r1 := hr.t.num
  have r2 := hr.t.name
  have r3 := hr.t.args
  have q0 := hr.s.s0
  have q1 := hr.s.s1
  have q2 := hr.s.s2
  have q3 := hr.s.s3
  have HA1 := Lib.hid ha1
  have HB1 := Lib.hid ((K0.out _).trans (hb1.mono (by first | omega | (simp; done) | (simp; omega))) : Below w.heap.size w w1)
  have HR := Lib.hid hr
  clear ha1 hb1 hr
  go_wp2_with fail
  have st := stored w1 (w.heap.size) (Tm.cloneOf (1, n, ByteArray.empty) .nil).1 zp A1 none (n2) c1 0 0 HR.out.t HR.out.s
  show bodyPost _ _ _ _ _ (set4 w1 (w.heap.size) 0 (Tm.cloneOf (1, n, ByteArray.empty) .nil).1 A1 (n2) c1)
  generalize set4 w1 (w.heap.size) 0 (Tm.cloneOf (1, n, ByteArray.empty) .nil).1 A1 (n2) c1 = w2 at st ⊢
  refine bodyPost_ret (term_result (q := 2) rfl _ _ (w.heap.size) (Tm.cloneOf (1, n, ByteArray.empty) .nil).1 A1 (n2) c1 rfl st.term) rfl ?_
  exact ⟨A1, c1, rfl, st.fresh (N := w.heap.size + 1) (HA1.out.mono (fun b hb => by have h1 := hb.1; have h2 := hb.2; (try simp only [World.size_alloc] at h1); omega)) (by omega) (by omega), st.below _ _ HB1.out (by omega)⟩

set_option maxHeartbeats 1000000 in
theorem atom_any (s : ByteArray) (w : World) :
    Calls Try.prog 85 #[.string s] w (Makes (Tm.cloneOf (2, 0, s) .nil).1 (Tm.cloneOf (2, 0, s) .nil).2 w) := by
  have k0 : ∀ o1 : Obj, Below w.heap.size w (w.alloc o1) := fun o1 => Only.below (X := fun _ => False) ((Only.refl _ w).alloc _) (Nat.le_refl _) (fun _ h => h.elim)
  have K0 := Lib.hid k0
  have C1 := Lib.hid fun (w1 : World) => clone_any (2, 0, s) .nil none 0 w1.heap.size w1 (ArgsIn.nil _ _ _) (Nat.le_refl _)
  unfold Makes at C1
  unfold Makes
  obtain ⟨n2, hn2⟩ : ∃ n2, n2 = Tm.len ((Tm.cloneOf (2, 0, s) .nil).2) := ⟨_, rfl⟩
  rw [← hn2] at C1 ⊢
  have HN2 := Lib.hid hn2
  clear hn2 k0
  go_enter Try.func85, Try.ntmps85
  go_wp2_with fail
  refine (C1.out _).mono ?_
  rintro e w1 ⟨A1, c1, rfl, ha1, hb1⟩
  have hsz := hb1.size
  try simp at hsz
  have hr : ResAt w1 (w.heap.size) := (ResAt.new w 24 _ rfl).below hb1 (by first | omega | (simp; done) | (simp; omega))
  have hw1 : w.heap.size < w1.heap.size := by omega
  have r0 := hr.t.kind
  have r1 := hr.t.num
  have r2 := hr.t.name
  have r3 := hr.t.args
  have q0 := hr.s.s0
  have q1 := hr.s.s1
  have q2 := hr.s.s2
  have q3 := hr.s.s3
  have HA1 := Lib.hid ha1
  have HB1 := Lib.hid ((K0.out _).trans (hb1.mono (by first | omega | (simp; done) | (simp; omega))) : Below w.heap.size w w1)
  have HR := Lib.hid hr
  clear ha1 hb1 hr
  go_wp2_with fail
  have st := stored w1 (w.heap.size) (Tm.cloneOf (2, 0, s) .nil).1 zp A1 none (n2) c1 0 0 HR.out.t HR.out.s
  show bodyPost _ _ _ _ _ (set4 w1 (w.heap.size) 0 (Tm.cloneOf (2, 0, s) .nil).1 A1 (n2) c1)
  generalize set4 w1 (w.heap.size) 0 (Tm.cloneOf (2, 0, s) .nil).1 A1 (n2) c1 = w2 at st ⊢
  refine bodyPost_ret (term_result (q := 2) rfl _ _ (w.heap.size) (Tm.cloneOf (2, 0, s) .nil).1 A1 (n2) c1 rfl st.term) rfl ?_
  exact ⟨A1, c1, rfl, st.fresh (N := w.heap.size + 1) (HA1.out.mono (fun b hb => by have h1 := hb.1; have h2 := hb.2; (try simp only [World.size_alloc] at h1); omega)) (by omega) (by omega), st.below _ _ HB1.out (by omega)⟩

set_option maxHeartbeats 1000000 in
theorem struct_none (s : ByteArray) (A : Option Addr) (c : Nat) (w : World) :
    Calls Try.prog 84 #[.string s, .slice A 0 c] w (Makes (Tm.cloneOf (2, 0, s) .nil).1 (Tm.cloneOf (2, 0, s) .nil).2 w) := by
  have k0 : ∀ o1 : Obj, Below w.heap.size w (w.alloc o1) := fun o1 => Only.below (X := fun _ => False) ((Only.refl _ w).alloc _) (Nat.le_refl _) (fun _ h => h.elim)
  have K0 := Lib.hid k0
  have C1 := Lib.hid fun (w1 : World) => atom_any s w1
  unfold Makes at C1
  unfold Makes
  obtain ⟨n2, hn2⟩ : ∃ n2, n2 = Tm.len ((Tm.cloneOf (2, 0, s) .nil).2) := ⟨_, rfl⟩
  rw [← hn2] at C1 ⊢
  have HN2 := Lib.hid hn2
  clear hn2 k0
  go_enter Try.func84, Try.ntmps84
  go_wp2_with fail
  refine (C1.out _).mono ?_
  rintro e w1 ⟨A1, c1, rfl, ha1, hb1⟩
  have hsz := hb1.size
  try simp at hsz
  have hr : ResAt w1 (w.heap.size) := (ResAt.new w 24 _ rfl).below hb1 (by first | omega | (simp; done) | (simp; omega))
  have hw1 : w.heap.size < w1.heap.size := by omega
  have r0 := hr.t.kind
  have r1 := hr.t.num
  have r2 := hr.t.name
  have r3 := hr.t.args
  have q0 := hr.s.s0
  have q1 := hr.s.s1
  have q2 := hr.s.s2
  have q3 := hr.s.s3
  have HA1 := Lib.hid ha1
  have HB1 := Lib.hid ((K0.out _).trans (hb1.mono (by first | omega | (simp; done) | (simp; omega))) : Below w.heap.size w w1)
  have HR := Lib.hid hr
  clear ha1 hb1 hr
  go_wp2_with fail
  have st := stored w1 (w.heap.size) (Tm.cloneOf (2, 0, s) .nil).1 zp A1 none (n2) c1 0 0 HR.out.t HR.out.s
  show bodyPost _ _ _ _ _ (set4 w1 (w.heap.size) 0 (Tm.cloneOf (2, 0, s) .nil).1 A1 (n2) c1)
  generalize set4 w1 (w.heap.size) 0 (Tm.cloneOf (2, 0, s) .nil).1 A1 (n2) c1 = w2 at st ⊢
  refine bodyPost_ret (term_result (q := 4) rfl _ _ (w.heap.size) (Tm.cloneOf (2, 0, s) .nil).1 A1 (n2) c1 rfl st.term) rfl ?_
  exact ⟨A1, c1, rfl, st.fresh (N := w.heap.size + 1) (HA1.out.mono (fun b hb => by have h1 := hb.1; have h2 := hb.2; (try simp only [World.size_alloc] at h1); omega)) (by omega) (by omega), st.below _ _ HB1.out (by omega)⟩

set_option maxHeartbeats 1000000 in
theorem struct_some (s : ByteArray) (l : Fo) (A : Option Addr) (c B : Nat) (w : World) (h0 : 0 < Tm.len l) (hA : ArgsB w B A (Tm.len l) l) (hB : B ≤ w.heap.size) :
    Calls Try.prog 84 #[.string s, .slice A (Tm.len l) c] w (Makes (Tm.cloneOf (3, 0, s) l).1 (Tm.cloneOf (3, 0, s) l).2 w) := by
  have k0 : ∀ o1 : Obj, Below w.heap.size w (w.alloc o1) := fun o1 => Only.below (X := fun _ => False) ((Only.refl _ w).alloc _) (Nat.le_refl _) (fun _ h => h.elim)
  have K0 := Lib.hid k0
  have C1 := Lib.hid fun (w1 : World) (h1 : ArgsB w1 B A (Tm.len l) l) (h2 : B ≤ w1.heap.size) => clone_any (3, 0, s) l A c B w1 h1 h2
  unfold Makes at C1
  obtain ⟨n, hn⟩ : ∃ n, n = Tm.len l := ⟨_, rfl⟩
  have hb : ((Tm.len l : Int) == 0) = false := by simp; omega
  rw [← hn] at hA C1 hb ⊢
  have HA := Lib.hid hA
  clear hA hn h0
  unfold Makes
  obtain ⟨n2, hn2⟩ : ∃ n2, n2 = Tm.len ((Tm.cloneOf (3, 0, s) l).2) := ⟨_, rfl⟩
  rw [← hn2] at C1 ⊢
  have HN2 := Lib.hid hn2
  clear hn2 k0
  go_enter Try.func84, Try.ntmps84
  go_wp2_with fail
  refine (C1.out _ ?_ ?_).mono ?_
  · exact HA.out.below (K0.out _) hB
  · simp; omega
  rintro e w1 ⟨A1, c1, rfl, ha1, hb1⟩
  have hsz := hb1.size
  try simp at hsz
  have hr : ResAt w1 (w.heap.size) := (ResAt.new w 24 _ rfl).below hb1 (by first | omega | (simp; done) | (simp; omega))
  have hw1 : w.heap.size < w1.heap.size := by omega
  have r0 := hr.t.kind
  have r1 := hr.t.num
  have r2 := hr.t.name
  have r3 := hr.t.args
  have q0 := hr.s.s0
  have q1 := hr.s.s1
  have q2 := hr.s.s2
  have q3 := hr.s.s3
  have HA1 := Lib.hid ha1
  have HB1 := Lib.hid ((K0.out _).trans (hb1.mono (by first | omega | (simp; done) | (simp; omega))) : Below w.heap.size w w1)
  have HR := Lib.hid hr
  clear ha1 hb1 hr
  go_wp2_with fail
  have st := stored w1 (w.heap.size) (Tm.cloneOf (3, 0, s) l).1 zp A1 none (n2) c1 0 0 HR.out.t HR.out.s
  show bodyPost _ _ _ _ _ (set4 w1 (w.heap.size) 0 (Tm.cloneOf (3, 0, s) l).1 A1 (n2) c1)
  generalize set4 w1 (w.heap.size) 0 (Tm.cloneOf (3, 0, s) l).1 A1 (n2) c1 = w2 at st ⊢
  refine bodyPost_ret (term_result (q := 4) rfl _ _ (w.heap.size) (Tm.cloneOf (3, 0, s) l).1 A1 (n2) c1 rfl st.term) rfl ?_
  exact ⟨A1, c1, rfl, st.fresh (N := w.heap.size + 1) (HA1.out.mono (fun b hb => by have h1 := hb.1; have h2 := hb.2; (try simp only [World.size_alloc] at h1); omega)) (by omega) (by omega), st.below _ _ HB1.out (by omega)⟩


end Go.Proofs.Ytapcnehpechkpaa
