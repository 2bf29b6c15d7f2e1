/-
  The walk of BallsShape: it returns true.
-/
import Derived.Test.YtapcnehpechkpaaShape24
import Derived.Test.YtapcnehpechkpaaShapeM
import Derived.Test.YtapcnehpechkpaaBw
namespace Go.Proofs.Ytapcnehpechkpaa
set_option linter.unusedVariables false
set_option linter.unusedSimpArgs false
set_option maxRecDepth 100000
open Go.RowKit
theorem box_below (w : World) (o : Obj) : Below w.heap.size w (w.alloc o) := (Below.refl _ _).alloc (Nat.le_refl _) _
set_option maxHeartbeats 1000000 in
theorem shape_long0 (s0 s1 : ByteArray) (p : Pay) (l : Fo) (A : Option Addr) (c : Nat) (w : World) (h0 : 100 < s0.size) :
    Calls Try.prog 7 #[.string s0, .string s1, tv p A (Tm.len l) c] w fun e w' => e = .returned (.bool true) ∧ Below w.heap.size w w' := by
  have HA := Lib.hid awake_any
  have y0 : ¬ ((s0.size : Int) ≤ 100) := by omega
  have HB := Lib.hid (box_below w)
  generalize Tm.len l = m
  go_enter Try.func7, Try.ntmps7
  go_wp2_with fail
  refine (HA.out _).mono ?_
  rintro e w1 ⟨rfl, hb⟩
  go_wp2_with fail
  go_ret
  exact ⟨rfl, (HB.out _).trans (hb.mono (by simp))⟩
set_option maxHeartbeats 1000000 in
theorem shape_long1 (s0 s1 : ByteArray) (p : Pay) (l : Fo) (A : Option Addr) (c : Nat) (w : World) (h0 : s0.size ≤ 100) (h1 : 100 < s1.size) :
    Calls Try.prog 7 #[.string s0, .string s1, tv p A (Tm.len l) c] w fun e w' => e = .returned (.bool true) ∧ Below w.heap.size w w' := by
  have HA := Lib.hid awake_any
  have y0 : ((s0.size : Int) ≤ 100) := by omega
  have y1 : ¬ ((s1.size : Int) ≤ 100) := by omega
  have HB := Lib.hid (box_below w)
  generalize Tm.len l = m
  go_enter Try.func7, Try.ntmps7
  go_wp2_with fail
  refine (HA.out _).mono ?_
  rintro e w1 ⟨rfl, hb⟩
  go_wp2_with fail
  go_ret
  exact ⟨rfl, (HB.out _).trans (hb.mono (by simp))⟩
set_option maxHeartbeats 1000000 in
theorem shape_invalid (s0 s1 : ByteArray) (p : Pay) (l : Fo) (A : Option Addr) (c : Nat) (w : World) (h0 : s0.size ≤ 100) (h1 : s1.size ≤ 100) (hA : ArgsB w w.heap.size A (Tm.len l) l) (hv : Tm.validB p l = false) :
    Calls Try.prog 7 #[.string s0, .string s1, tv p A (Tm.len l) c] w fun e w' => e = .returned (.bool true) ∧ Below w.heap.size w w' := by
  have HA := Lib.hid awake_any
  have y0 : ((s0.size : Int) ≤ 100) := by omega
  have y1 : ((s1.size : Int) ≤ 100) := by omega
  have HV := Lib.hid (fun W (hb : Below w.heap.size w W) => rvalid_any p l A c w.heap.size W (hA.below hb (Nat.le_refl _)) hb.size)
  rw [hv] at HV
  have HB := Lib.hid (box_below w)
  clear hA hv
  generalize Tm.len l = m at HV ⊢
  go_enter Try.func7, Try.ntmps7
  go_wp2_with fail
  refine (HV.out _ (HB.out _)).mono ?_
  rintro e w1 ⟨rfl, hb⟩
  go_wp2_with fail
  refine (HA.out _).mono ?_
  rintro e w2 ⟨rfl, hb2⟩
  go_wp2_with fail
  go_ret
  exact ⟨rfl, ((HB.out _).trans (hb.mono (by simp))).trans (hb2.mono (by have := hb.size; simp at this; omega))⟩
theorem ixs0 (v0 v1 v2 v3 v4 : ByteArray) (w : World) : (Instr.index 48 (.agg #[.string v0, .string v1, .string v2, .string v3, .string v4]) (.int .i64 0)).run Try.prog w = .ok (.string v0) w := by
  go_simp
  try rfl
theorem ixs1 (v0 v1 v2 v3 v4 : ByteArray) (w : World) : (Instr.index 48 (.agg #[.string v0, .string v1, .string v2, .string v3, .string v4]) (.int .i64 1)).run Try.prog w = .ok (.string v1) w := by
  go_simp
  try rfl
theorem ixs2 (v0 v1 v2 v3 v4 : ByteArray) (w : World) : (Instr.index 48 (.agg #[.string v0, .string v1, .string v2, .string v3, .string v4]) (.int .i64 2)).run Try.prog w = .ok (.string v2) w := by
  go_simp
  try rfl
theorem ixs3 (v0 v1 v2 v3 v4 : ByteArray) (w : World) : (Instr.index 48 (.agg #[.string v0, .string v1, .string v2, .string v3, .string v4]) (.int .i64 3)).run Try.prog w = .ok (.string v3) w := by
  go_simp
  try rfl
theorem ixs4 (v0 v1 v2 v3 v4 : ByteArray) (w : World) : (Instr.index 48 (.agg #[.string v0, .string v1, .string v2, .string v3, .string v4]) (.int .i64 4)).run Try.prog w = .ok (.string v4) w := by
  go_simp
  try rfl
theorem ixr0 (v0 v1 v2 v3 v4 : Option Addr) (n0 n1 n2 n3 n4 c0 c1 c2 c3 c4 : Nat) (w : World) : (Instr.index 51 (.agg #[.slice v0 n0 c0, .slice v1 n1 c1, .slice v2 n2 c2, .slice v3 n3 c3, .slice v4 n4 c4]) (.int .i64 0)).run Try.prog w = .ok (.slice v0 n0 c0) w := by
  go_simp
  try rfl
theorem ixr1 (v0 v1 v2 v3 v4 : Option Addr) (n0 n1 n2 n3 n4 c0 c1 c2 c3 c4 : Nat) (w : World) : (Instr.index 51 (.agg #[.slice v0 n0 c0, .slice v1 n1 c1, .slice v2 n2 c2, .slice v3 n3 c3, .slice v4 n4 c4]) (.int .i64 1)).run Try.prog w = .ok (.slice v1 n1 c1) w := by
  go_simp
  try rfl
theorem ixr2 (v0 v1 v2 v3 v4 : Option Addr) (n0 n1 n2 n3 n4 c0 c1 c2 c3 c4 : Nat) (w : World) : (Instr.index 51 (.agg #[.slice v0 n0 c0, .slice v1 n1 c1, .slice v2 n2 c2, .slice v3 n3 c3, .slice v4 n4 c4]) (.int .i64 2)).run Try.prog w = .ok (.slice v2 n2 c2) w := by
  go_simp
  try rfl
theorem ixr3 (v0 v1 v2 v3 v4 : Option Addr) (n0 n1 n2 n3 n4 c0 c1 c2 c3 c4 : Nat) (w : World) : (Instr.index 51 (.agg #[.slice v0 n0 c0, .slice v1 n1 c1, .slice v2 n2 c2, .slice v3 n3 c3, .slice v4 n4 c4]) (.int .i64 3)).run Try.prog w = .ok (.slice v3 n3 c3) w := by
  go_simp
  try rfl
theorem ixr4 (v0 v1 v2 v3 v4 : Option Addr) (n0 n1 n2 n3 n4 c0 c1 c2 c3 c4 : Nat) (w : World) : (Instr.index 51 (.agg #[.slice v0 n0 c0, .slice v1 n1 c1, .slice v2 n2 c2, .slice v3 n3 c3, .slice v4 n4 c4]) (.int .i64 4)).run Try.prog w = .ok (.slice v4 n4 c4) w := by
  go_simp
  try rfl
theorem four_below (w : World) (o1 o2 o3 o4 : Obj) : Below w.heap.size w ((((w.alloc o1).alloc o2).alloc o3).alloc o4) :=
  ((((Below.refl w.heap.size w).alloc (Nat.le_refl _) _).alloc (by simp) _).alloc (by simp; omega) _).alloc (by simp; omega) _
namespace Bl
/-- An error term of the kind s, with the names ks. -/
def EE (s : ByteArray) (ks : List ByteArray) (L : Pay × Fo) : Pay × Fo := ((3, 0, Tm.errName), .node (3, 0, s) (namesF ks L.1 L.2) (.node Tm.emptyA .nil .nil))
theorem dots_valid : Tm.validB Tm.dots .nil = true := by kernel_rfl
theorem last_valid {n : Nat} {p : Pay} {l : Fo} (hv : Tm.validB p l = true) : Tm.validB (lastOf n p l).1 (lastOf n p l).2 = true := by
  unfold lastOf
  split
  · exact dots_valid
  · exact hv
theorem EE_valid {s : ByteArray} {ks : List ByteArray} {p : Pay} {l : Fo} (hs : s.size ≤ 100) (hn : ks.length ≤ 7) (hk : ∀ k ∈ ks, k.size ≤ 100) (hv : Tm.validB p l = true) : Tm.validB (EE s ks (lastOf ks.length p l)).1 (EE s ks (lastOf ks.length p l)).2 = true := by
  have := err_shape hs hn hk hv
  unfold EE
  rw [← this]
  exact err_valid _ _
theorem q0 (s0 s1 : ByteArray) {p : Pay} {l : Fo} (hv : Tm.validB p l = true) : [un p l, ty s0 p l, dom s0 p l, ext s0 p l, perm s1 s0 p l][0]? = some (EE unN [] (lastOf 0 p l)) := congrArg some ((un_names p l).trans (err_shape (by decide) (by simp) (fun k h => by cases h) hv))
theorem q1 (s0 s1 : ByteArray) {p : Pay} {l : Fo} (h0 : s0.size ≤ 100) (hv : Tm.validB p l = true) : [un p l, ty s0 p l, dom s0 p l, ext s0 p l, perm s1 s0 p l][1]? = some (EE Bl.tyN [s0] (lastOf 1 p l)) := congrArg some ((ty_names s0 p l).trans (err_shape (by decide) (by simp) (fun k h => by simp at h; subst h; exact h0) hv))
theorem q2 (s0 s1 : ByteArray) {p : Pay} {l : Fo} (h0 : s0.size ≤ 100) (hv : Tm.validB p l = true) : [un p l, ty s0 p l, dom s0 p l, ext s0 p l, perm s1 s0 p l][2]? = some (EE domN [s0] (lastOf 1 p l)) := congrArg some ((dom_names s0 p l).trans (err_shape (by decide) (by simp) (fun k h => by simp at h; subst h; exact h0) hv))
theorem q3 (s0 s1 : ByteArray) {p : Pay} {l : Fo} (h0 : s0.size ≤ 100) (hv : Tm.validB p l = true) : [un p l, ty s0 p l, dom s0 p l, ext s0 p l, perm s1 s0 p l][3]? = some (EE extN [s0] (lastOf 1 p l)) := congrArg some ((ext_names s0 p l).trans (err_shape (by decide) (by simp) (fun k h => by simp at h; subst h; exact h0) hv))
theorem q4 (s0 s1 : ByteArray) {p : Pay} {l : Fo} (h0 : s0.size ≤ 100) (h1 : s1.size ≤ 100) (hv : Tm.validB p l = true) : [un p l, ty s0 p l, dom s0 p l, ext s0 p l, perm s1 s0 p l][4]? = some (EE permN [s1, s0] (lastOf 2 p l)) := congrArg some ((perm_names s1 s0 p l).trans (err_shape (by decide) (by simp) (fun k h => by simp at h; rcases h with rfl | rfl <;> assumption) hv))
end Bl
theorem two_at {S : Nat → Prop} {w : World} {A : Option Addr} {q1 q2 : Pay} {m1 m2 : Fo} (h : ArgsIn S w A 2 (.node q1 m1 (.node q2 m2 .nil))) :
    ∃ b o A1 c1 A2 c2, A = some ⟨b, o, none⟩ ∧ S b ∧ NodeAt S w b o q1 m1 A1 c1 ∧ NodeAt S w b (o + 4) q2 m2 A2 c2 := by
  obtain ⟨b, o, e, hb, hr⟩ := h.row (by omega)
  obtain ⟨A1, c1, h1⟩ := hr.at _ b o 0 q1 m1 _ rfl
  obtain ⟨A2, c2, h2⟩ := hr.at _ b o 1 q2 m2 _ rfl
  exact ⟨b, o, A1, c1, A2, c2, e, hb, h1, h2⟩
theorem cell_lift (w : World) (o : Obj) (b i : Nat) (h : b < w.heap.size) : (w.alloc o).cell? ⟨b, i, none⟩ = w.cell? ⟨b, i, none⟩ := (box_below w o).cell (p := ⟨b, i, none⟩) h
theorem cell_new8 (q : World) (vs : Array Value) (t : TypeId) (i b : Nat) (h : b = q.heap.size) : (q.alloc (.cells vs t)).cell? ⟨b, i, none⟩ = vs[i]? := by subst h; rw [World.cell?_alloc_at _ _ _ _ rfl]
theorem four_cells0 (w : World) (v0 v1 v2 v3 : Array Value) (t0 t1 t2 t3 : TypeId) (i : Nat) : ((((w.alloc (.cells v0 t0)).alloc (.cells v1 t1)).alloc (.cells v2 t2)).alloc (.cells v3 t3)).cell? ⟨w.heap.size, i, none⟩ = v0[i]? := by
  rw [cell_lift _ _ _ _ (by simp; try omega)]
  rw [cell_lift _ _ _ _ (by simp; try omega)]
  rw [cell_lift _ _ _ _ (by simp; try omega)]
  exact cell_new8 _ _ _ _ _ (by simp)
theorem four_cells1 (w : World) (v0 v1 v2 v3 : Array Value) (t0 t1 t2 t3 : TypeId) (i : Nat) : ((((w.alloc (.cells v0 t0)).alloc (.cells v1 t1)).alloc (.cells v2 t2)).alloc (.cells v3 t3)).cell? ⟨w.heap.size + 1, i, none⟩ = v1[i]? := by
  rw [cell_lift _ _ _ _ (by simp; try omega)]
  rw [cell_lift _ _ _ _ (by simp; try omega)]
  exact cell_new8 _ _ _ _ _ (by simp)
theorem four_cells2 (w : World) (v0 v1 v2 v3 : Array Value) (t0 t1 t2 t3 : TypeId) (i : Nat) : ((((w.alloc (.cells v0 t0)).alloc (.cells v1 t1)).alloc (.cells v2 t2)).alloc (.cells v3 t3)).cell? ⟨w.heap.size + 2, i, none⟩ = v2[i]? := by
  rw [cell_lift _ _ _ _ (by simp; try omega)]
  exact cell_new8 _ _ _ _ _ (by simp)
theorem four_cells3 (w : World) (v0 v1 v2 v3 : Array Value) (t0 t1 t2 t3 : TypeId) (i : Nat) : ((((w.alloc (.cells v0 t0)).alloc (.cells v1 t1)).alloc (.cells v2 t2)).alloc (.cells v3 t3)).cell? ⟨w.heap.size + 3, i, none⟩ = v3[i]? := by
  exact cell_new8 _ _ _ _ _ (by simp)
theorem last_big {n : Nat} {p : Pay} {l : Fo} {L : Pay × Fo} (h : Bl.lastOf n p l = L) (hb : 2000 < 1 + Tm.size l + 3 + n) : L = (Tm.dots, .nil) := by
  rw [← h]
  unfold Bl.lastOf
  rw [if_pos hb]
theorem last_small {n : Nat} {p : Pay} {l : Fo} {L : Pay × Fo} (h : Bl.lastOf n p l = L) (hb : ¬ 2000 < 1 + Tm.size l + 3 + n) : L = (p, l) := by
  rw [← h]
  unfold Bl.lastOf
  rw [if_neg hb]
theorem one_at {S : Nat → Prop} {w : World} {A : Option Addr} {q1 : Pay} {m1 : Fo} (h : ArgsIn S w A 1 (.node q1 m1 .nil)) :
    ∃ b o A1 c1, A = some ⟨b, o, none⟩ ∧ S b ∧ NodeAt S w b o q1 m1 A1 c1 := by
  obtain ⟨b, o, e, hb, hr⟩ := h.row (by omega)
  obtain ⟨A1, c1, h1⟩ := hr.at _ b o 0 q1 m1 _ rfl
  exact ⟨b, o, A1, c1, e, hb, h1⟩
theorem three_at {S : Nat → Prop} {w : World} {A : Option Addr} {q1 q2 q3 : Pay} {m1 m2 m3 : Fo} (h : ArgsIn S w A 3 (.node q1 m1 (.node q2 m2 (.node q3 m3 .nil)))) :
    ∃ b o A1 c1 A2 c2 A3 c3, A = some ⟨b, o, none⟩ ∧ S b ∧ NodeAt S w b o q1 m1 A1 c1 ∧ NodeAt S w b (o + 4) q2 m2 A2 c2 ∧ NodeAt S w b (o + 8) q3 m3 A3 c3 := by
  obtain ⟨b, o, e, hb, hr⟩ := h.row (by omega)
  obtain ⟨A1, c1, h1⟩ := hr.at _ b o 0 q1 m1 _ rfl
  obtain ⟨A2, c2, h2⟩ := hr.at _ b o 1 q2 m2 _ rfl
  obtain ⟨A3, c3, h3⟩ := hr.at _ b o 2 q3 m3 _ rfl
  exact ⟨b, o, A1, c1, A2, c2, A3, c3, e, hb, h1, h2, h3⟩
theorem NodeAt.on {n b o c : Nat} {p : Pay} {l : Fo} {A : Option Addr} {w w' : World} (h : NodeAt (Nw n w) w b o p l A c) (hb : Below w.heap.size w w') (hlt : b < w.heap.size) : NodeAt (Nw n w') w' b o p l A c :=
  h.keep (hb.block _ hlt) (fun b hb' => hb.block b hb'.2.1) (fun b hb' => hb'.keep (Nat.le_refl _) hb.size (hb.block b hb'.2.1))
theorem at_world {P : World → Prop} (w : World) (h : ∀ x, x = w → P x) : P w := h w rfl
theorem sameV_self (q : Pay) (m : Fo) {n : Nat} (hv : Tm.validB q m = true) (hn : Tm.len m = n) {A A' : Option Addr} {c c' : Nat} {W : World} (h : ArgsB W W.heap.size A n m) (h' : ArgsB W W.heap.size A' n m) :
    Calls Try.prog 34 #[tv q A n c, tv q A' n c'] W fun e w' => e = .returned (.bool true) ∧ Below W.heap.size W w' := by
  subst hn
  have := lsame_any q m A c q m A' c' W.heap.size W h h' (Nat.le_refl _)
  rw [hv, Tm.sameT_refl] at this
  exact this
theorem valid_self (q : Pay) (m : Fo) {n : Nat} (hv : Tm.validB q m = true) (hn : Tm.len m = n) {A : Option Addr} {c : Nat} {W : World} (h : ArgsB W W.heap.size A n m) :
    Calls Try.prog 51 #[tv q A n c] W fun e w' => e = .returned (.bool true) ∧ Below W.heap.size W w' := by
  subst hn
  have := rvalid_any q m A c W.heap.size W h (Nat.le_refl _)
  rw [hv] at this
  exact this
/-- What is known in a round, once the formal is there. -/
structure Rd (nb n8 : Nat) (s : ByteArray) (F : Fo) (n1 r b1 o c' g : Nat) (A1 : Option Addr) (c1 : Nat) (A3 : Option Addr) (c3 : Nat) (A4 : Option Addr) (c4 : Nat) (w : World) : Prop where
  rlt : r < w.heap.size
  blt : b1 < w.heap.size
  glt : g < w.heap.size
  g8 : n8 ≤ g
  n8l : n8 ≤ w.heap.size
  rg : r < n8
  made : TermAt w r (3, 0, Tm.errName) (some ⟨b1, o, none⟩) 2 c'
  k0 : w.cell? ⟨b1, o, none⟩ = some (.int .i64 3)
  k1 : w.cell? ⟨b1, o + 1, none⟩ = some (.int .i64 0)
  k2 : w.cell? ⟨b1, o + 2, none⟩ = some (.string s)
  k3 : w.cell? ⟨b1, o + 3, none⟩ = some (.slice A1 n1 c1)
  j0 : w.cell? ⟨b1, o + 4, none⟩ = some (.int .i64 2)
  j1 : w.cell? ⟨b1, o + 4 + 1, none⟩ = some (.int .i64 0)
  j2 : w.cell? ⟨b1, o + 4 + 2, none⟩ = some (.string ⟨#[91, 93]⟩)
  j3 : w.cell? ⟨b1, o + 4 + 3, none⟩ = some (.slice A3 0 c3)
  a1 : ArgsIn (fun b => Nw nb w b ∧ b < n8) w A1 n1 F
  am : ArgsB w w.heap.size (some ⟨b1, o, none⟩) 2 (.node (3, 0, s) F (.node Tm.emptyA .nil .nil))
  box : TermAt w g (3, 0, s) A4 n1 c4
  a4 : ArgsIn (Nw n8 w) w A4 n1 F
theorem Rd.on {nb n8 : Nat} {s : ByteArray} {F : Fo} {n1 r b1 o c' g : Nat} {A1 : Option Addr} {c1 : Nat} {A3 : Option Addr} {c3 : Nat} {A4 : Option Addr} {c4 : Nat} {w w' : World} (h : Rd nb n8 s F n1 r b1 o c' g A1 c1 A3 c3 A4 c4 w) (hb : Below w.heap.size w w') : Rd nb n8 s F n1 r b1 o c' g A1 c1 A3 c3 A4 c4 w' where
  rlt := Nat.lt_of_lt_of_le h.rlt hb.size
  blt := Nat.lt_of_lt_of_le h.blt hb.size
  glt := Nat.lt_of_lt_of_le h.glt hb.size
  g8 := h.g8
  n8l := Nat.le_trans h.n8l hb.size
  rg := h.rg
  made := h.made.below hb h.rlt
  k0 := (hb.cell (p := ⟨b1, o, none⟩) h.blt).trans h.k0
  k1 := (hb.cell (p := ⟨b1, o + 1, none⟩) h.blt).trans h.k1
  k2 := (hb.cell (p := ⟨b1, o + 2, none⟩) h.blt).trans h.k2
  k3 := (hb.cell (p := ⟨b1, o + 3, none⟩) h.blt).trans h.k3
  j0 := (hb.cell (p := ⟨b1, o + 4, none⟩) h.blt).trans h.j0
  j1 := (hb.cell (p := ⟨b1, o + 4 + 1, none⟩) h.blt).trans h.j1
  j2 := (hb.cell (p := ⟨b1, o + 4 + 2, none⟩) h.blt).trans h.j2
  j3 := (hb.cell (p := ⟨b1, o + 4 + 3, none⟩) h.blt).trans h.j3
  a1 := (h.a1.keep fun b hb' => hb.block b hb'.1.2.1).mono fun b hb' => ⟨hb'.1.keep (Nat.le_refl _) hb.size (hb.block b hb'.1.2.1), hb'.2⟩
  am := (h.am.below hb (Nat.le_refl _)).up hb.size
  box := h.box.below hb h.glt
  a4 := (h.a4.keep fun b hb' => hb.block b hb'.2.1).mono fun b hb' => hb'.keep (Nat.le_refl _) hb.size (hb.block b hb'.2.1)
theorem Rd.mk0 {nb : Nat} {s : ByteArray} {F : Fo} {n1 r c' : Nat} {A' A4 : Option Addr} {c4 : Nat} {w8 w9 w10 : World} {o : Obj} (hn : Tm.len F = n1) (hr8 : r < w8.heap.size) (h9 : Below w8.heap.size w8 w9) (h10 : Below w9.heap.size w9 w10)
    (ht : TermAt w8 r (3, 0, Tm.errName) A' 2 c') (ha : ArgsIn (NsS nb (some r) w8) w8 A' 2 (.node (3, 0, s) F (.node Tm.emptyA .nil .nil))) (h4 : ArgsIn (Nw w9.heap.size w10) w10 A4 n1 F)
    (ho : o = .cells #[.int .i64 3, .int .i64 0, .string s, .slice A4 n1 c4] 24) :
    ∃ b1 o1 A1 c1 A3 c3, A' = some ⟨b1, o1, none⟩ ∧ Rd nb w8.heap.size s F n1 r b1 o1 c' w10.heap.size A1 c1 A3 c3 A4 c4 (w10.alloc o) := by
  subst hn
  subst ho
  obtain ⟨b1, o1, A1, c1, A3, c3, rfl, hS, h1, h2⟩ := two_at ha
  have hb : Below w8.heap.size w8 (w10.alloc (.cells #[.int .i64 3, .int .i64 0, .string s, .slice A4 (Tm.len F) c4] 24)) := (h9.trans (h10.mono h9.size)).alloc (Nat.le_trans h9.size h10.size) _
  have hs1 := h9.size
  have hs2 := h10.size
  have hb1 : b1 < w8.heap.size := hS.1.2.1
  refine ⟨b1, o1, A1, c1, A3, c3, rfl, ⟨by simp; omega, by simp; omega, by simp, by omega, by simp; omega, hr8, ht.below hb hr8,
    (hb.cell (p := ⟨b1, o1, none⟩) hb1).trans h1.kind, (hb.cell (p := ⟨b1, o1 + 1, none⟩) hb1).trans h1.num, (hb.cell (p := ⟨b1, o1 + 2, none⟩) hb1).trans h1.name, (hb.cell (p := ⟨b1, o1 + 3, none⟩) hb1).trans h1.args,
    (hb.cell (p := ⟨b1, o1 + 4, none⟩) hb1).trans h2.kind, (hb.cell (p := ⟨b1, o1 + 4 + 1, none⟩) hb1).trans h2.num, (hb.cell (p := ⟨b1, o1 + 4 + 2, none⟩) hb1).trans h2.name, (hb.cell (p := ⟨b1, o1 + 4 + 3, none⟩) hb1).trans h2.args,
    (h1.inn.keep fun b hb' => hb.block b hb'.1.2.1).mono fun b hb' => ⟨Nw.keep ⟨hb'.1.1, hb'.1.2.1, hb'.2⟩ (Nat.le_refl _) hb.size (hb.block b hb'.1.2.1), hb'.1.2.1⟩,
    ((ha.mono fun b hb' => hb'.1.2.1).below hb (Nat.le_refl _)).up (by simp; omega), TermAt.new w10 (3, 0, s) A4 (Tm.len F) c4 24, ?_⟩⟩
  exact (h4.keep fun b hb' => Below.heap_alloc _ _ _ hb'.2.1).mono fun b hb' => hb'.keep (by omega) (by simp) (Below.heap_alloc _ _ _ hb'.2.1)
/-- What is known of the error term that was made. -/
theorem formal_call {s : ByteArray} {ks : List ByteArray} {p : Pay} {l : Fo} {A' : Option Addr} {c' n : Nat} {w8 : World} (hn : ks.length = n) (hs : s.size ≤ 100) (hn7 : ks.length ≤ 7) (hk : ∀ k ∈ ks, k.size ≤ 100) (hv : Tm.validB p l = true) (ha : ArgsB w8 w8.heap.size A' 2 (Bl.EE s ks (Bl.lastOf n p l)).2) (W : World) (hb : Below w8.heap.size w8 W) :
    Calls Try.prog 32 #[tv (3, 0, Tm.errName) A' 2 c'] W fun e w' => ∃ A c, e = .returned (.tuple #[tv (3, 0, s) A (n + 1) c, .bool true]) ∧ ArgsIn (Nw W.heap.size w') w' A (n + 1) (Bl.namesF ks (Bl.lastOf n p l).1 (Bl.lastOf n p l).2) ∧ Below W.heap.size W w' := by
  subst hn
  have h := sFormal_any (Bl.EE s ks (Bl.lastOf ks.length p l)).1 (Bl.EE s ks (Bl.lastOf ks.length p l)).2 A' c' w8.heap.size W (ha.below hb (Nat.le_refl _)) hb.size
  rw [Bl.formal_shape (e := Bl.EE s ks (Bl.lastOf ks.length p l)) (s := s) (F := Bl.namesF ks (Bl.lastOf ks.length p l).1 (Bl.lastOf ks.length p l).2) rfl (Bl.EE_valid hs hn7 hk hv)] at h
  unfold MkBS at h
  simp only [Bl.namesF_len] at h
  exact h
set_option maxHeartbeats 100000000 in
theorem shape_main (s0 s1 : ByteArray) (p : Pay) (l : Fo) (A : Option Addr) (c : Nat) (w : World) (h0 : s0.size ≤ 100) (h1 : s1.size ≤ 100) (hA : ArgsB w w.heap.size A (Tm.len l) l) (hv : Tm.validB p l = true) :
    Calls Try.prog 7 #[.string s0, .string s1, tv p A (Tm.len l) c] w fun e w' => e = .returned (.bool true) ∧ Below w.heap.size w w' := by
  have HS0 := Lib.hid h0
  have HS1 := Lib.hid h1
  have hm11 : Try.prog.follows .mixedOrders = true := by kernel_rfl
  have HA := Lib.hid awake_any
  have y0 : ((s0.size : Int) ≤ 100) := by omega
  have y1 : ((s1.size : Int) ≤ 100) := by omega
  have HV := Lib.hid (fun W (hb : Below w.heap.size w W) => rvalid_any p l A c w.heap.size W (hA.below hb (Nat.le_refl _)) hb.size)
  have HC := Lib.hid (fun W (hb : Below w.heap.size w W) => rclone_any p l A c w.heap.size W (hA.below hb (Nat.le_refl _)) hb.size)
  have HVB := Lib.hid hv
  rw [hv] at HV
  unfold Tm.cloneOf at HC
  rw [if_pos hv] at HC
  unfold Makes at HC
  have HAA := Lib.hid hA
  have HB := Lib.hid (box_below w)
  have HT0 := Lib.hid (TermAt.new w p A (Tm.len l) c 24)
  obtain ⟨m, hm⟩ : ∃ m, m = Tm.len l := ⟨_, rfl⟩
  rw [← hm] at HV HC HAA HT0
  rw [← hm]
  have HM := Lib.hid hm
  clear hA hv hm h0 h1
  go_enter Try.func7, Try.ntmps7
  go_wp2_with fail
  refine (HV.out _ (HB.out _)).mono ?_
  rintro e w1 ⟨rfl, hb⟩
  have hr := HT0.out.below hb (by simp)
  have x0 := hr.kind
  have x1 := hr.num
  have x2 := hr.name
  have x3 := hr.args
  have hb1 : Below w.heap.size w w1 := (HB.out _).trans (hb.mono (by simp))
  have hs1 : w.heap.size < w1.heap.size := by have := hb.size; simp at this; omega
  have HB1 := Lib.hid hb1
  have HR := Lib.hid hr
  clear hr hb hb1
  go_wp2_with fail
  refine (HC.out _ HB1.out).mono ?_
  rintro e w2 ⟨A2, c2, rfl, ha2, hb2⟩
  have HA2 := Lib.hid ha2
  have HB2 := Lib.hid (HB1.out.trans (hb2.mono (Nat.le_of_lt hs1)))
  have HR2 := Lib.hid (HR.out.below hb2 hs1)
  have hs2 : w.heap.size < w2.heap.size := Nat.lt_of_lt_of_le hs1 hb2.size
  clear ha2 hb2 x0 x1 x2 x3
  have HT7 := Lib.hid (TermAt.new w2 p A2 m c2 24)
  go_wp2_with fail
  go_loopw [8] (fun u wr => ∃ k : Nat, k ≤ 5 ∧ u = .int .i64 k ∧ Hid (Below w.heap.size w wr) ∧ Hid (TermAt wr w.heap.size p A m c) ∧ Hid (TermAt wr w2.heap.size p A2 m c2) ∧ w2.heap.size < wr.heap.size ∧ Hid (ArgsB wr wr.heap.size A m l) ∧ Hid (ArgsB wr wr.heap.size A2 m l)) (fun u _ => 5 - (intOf u).toNat)
  case atStart =>
    have hb3 : ∀ o : Obj, Below w2.heap.size w2 (w2.alloc o) := fun o => box_below w2 o
    exact ⟨0, by omega, rfl, HB2.out.trans ((hb3 _).mono (Nat.le_of_lt hs2)), HR2.out.below (hb3 _) hs2, HT7.out, by simp, (HAA.out.below (HB2.out.trans ((hb3 _).mono (Nat.le_of_lt hs2))) (Nat.le_refl _)).up (by simp; omega), ((HA2.out.mono (fun b hb => hb.2)).below (hb3 _) (Nat.le_refl _)).up (by simp)⟩
  case round =>
    obtain ⟨k, hk, rfl, HBR, HT5, HTW, hsz, HAR, HAW⟩ := hrel
    clear HB2 HR2 HT7 HA2 HAA HB1 HR HB HT0
    by_cases hlt : k < 5
    · have hkk : k = 0 ∨ k = 1 ∨ k = 2 ∨ k = 3 ∨ k = 4 := by omega
      rcases hkk with rfl | rfl | rfl | rfl | rfl
      · clear hk hlt
        go_wp2_with (simp only [ixs0])
        refine sh8_walk (by kernel_rfl) s0 s1 p l A m c 0 w.heap.size (Bl.EE Bl.unN [] (Bl.lastOf 0 p l)) HM.out (Bl.q0 s0 s1 HVB.out) rfl HT5.out (by omega) HAR.out ?_
        intro r A' c' u w8 hb8 hr hr8 ht8 ha8
        have hFO := formal_call (c' := c') (ks := []) (n := 0) rfl (by decide) (by simp) (fun k h => by cases h) HVB.out (ha8.mono fun b hb => hb.1.2.1)
        have HVL := Lib.hid (Bl.last_valid (n := 0) HVB.out)
        have HVE := Lib.hid (Bl.EE_valid (s := Bl.unN) (ks := []) (by decide) (by simp) (fun k h => by cases h) HVB.out)
        generalize hLL : Bl.lastOf 0 p l = L at hFO HVL HVE ht8 ha8
        obtain ⟨Lp, Ll⟩ := L
        have HLL := Lib.hid hLL
        clear hLL
        have HZ := Lib.hid (four_below w8)
        have x0 : ∀ o1 o2 o3 o4, ((((w8.alloc o1).alloc o2).alloc o3).alloc o4).cell? ⟨r, 0, none⟩ = some (.int .i64 3) := fun o1 o2 o3 o4 => ((HZ.out o1 o2 o3 o4).cell (p := ⟨r, 0, none⟩) hr8).trans ht8.kind
        have x1 : ∀ o1 o2 o3 o4, ((((w8.alloc o1).alloc o2).alloc o3).alloc o4).cell? ⟨r, 1, none⟩ = some (.int .i64 0) := fun o1 o2 o3 o4 => ((HZ.out o1 o2 o3 o4).cell (p := ⟨r, 1, none⟩) hr8).trans ht8.num
        have x2 : ∀ o1 o2 o3 o4, ((((w8.alloc o1).alloc o2).alloc o3).alloc o4).cell? ⟨r, 2, none⟩ = some (.string Tm.errName) := fun o1 o2 o3 o4 => ((HZ.out o1 o2 o3 o4).cell (p := ⟨r, 2, none⟩) hr8).trans ht8.name
        have x3 : ∀ o1 o2 o3 o4, ((((w8.alloc o1).alloc o2).alloc o3).alloc o4).cell? ⟨r, 3, none⟩ = some (.slice A' 2 c') := fun o1 o2 o3 o4 => ((HZ.out o1 o2 o3 o4).cell (p := ⟨r, 3, none⟩) hr8).trans ht8.args
        have HFO := Lib.hid hFO
        have HT8 := Lib.hid ht8
        have HA8 := Lib.hid ha8
        clear hFO ht8 ha8
        go_wp2_with (simp only [ixr0])
        refine (HFO.out _ ?_).mono ?_
        · exact HZ.out _ _ _ _
        rintro e w10 ⟨A4, c4, rfl, ha4, hb10⟩
        have hmk := Rd.mk0 (c4 := c4) (n1 := 1) (by simp [Bl.namesF_len]) hr8 (HZ.out _ _ _ _) hb10 HT8.out HA8.out ha4 rfl
        obtain ⟨b1, o, A1, c1, A3, c3, rfl, hrd⟩ := hmk
        have HRD := Lib.hid hrd
        have HB10 := Lib.hid (hb8.trans (((HZ.out _ _ _ _).trans (hb10.mono (HZ.out _ _ _ _).size)).mono hb8.size))
        clear hrd hb10 ha4 x0 x1 x2 x3
        try simp only [Nat.zero_add, Nat.reduceAdd]
        go_wp2_with fail
        refine at_world (P := fun x => Code.wp _ _ _ _ x) _ ?_
        intro w11 hw11
        have hrd := HRD.out
        rw [← hw11] at hrd
        have HRD := Lib.hid hrd
        have HB11 := Lib.hid (show Below wr.heap.size wr w11 by rw [hw11]; exact HB10.out.alloc HB10.out.size _)
        have hb11 : Below w10.heap.size w10 w11 := by rw [hw11]; exact box_below _ _
        obtain ⟨b4, o4, B0, d0, rfl, hS4, hd0⟩ := one_at hrd.a4
        have HD0 := Lib.hid hd0
        obtain ⟨b6, o6, C0, f0, rfl, hS6, he0⟩ := one_at hrd.a1
        have HF6 := Lib.hid (show Four w11 b6 (o6 + 0 * 4) from he0.four)
        have HS6 := Lib.hid hS6
        have HRD := Lib.hid hrd
        clear hrd hw11 HB10 hb11 hS6 hd0 he0
        have h4lt : b4 < w11.heap.size := hS4.2.1
        have HFV := Lib.hid (show Tm.validB (3, 0, Bl.unN) (Bl.namesF [] Lp Ll) = true from Bl.valid_arg0 HVE.out rfl)
        have z0 : ∀ q : Bw w11, q.to.cell? ⟨r, 0, none⟩ = some (.int .i64 3) := fun q => (HRD.out.on q.ok).made.kind
        have z1 : ∀ q : Bw w11, q.to.cell? ⟨r, 1, none⟩ = some (.int .i64 0) := fun q => (HRD.out.on q.ok).made.num
        have z2 : ∀ q : Bw w11, q.to.cell? ⟨r, 2, none⟩ = some (.string ⟨#[101, 114, 114, 111, 114]⟩) := fun q => (HRD.out.on q.ok).made.name
        have z3 : ∀ q : Bw w11, q.to.cell? ⟨r, 3, none⟩ = some (.slice (some ⟨b1, o, none⟩) 2 c') := fun q => (HRD.out.on q.ok).made.args
        have k0 : ∀ q : Bw w11, q.to.cell? ⟨b1, o, none⟩ = some (.int .i64 3) := fun q => (HRD.out.on q.ok).k0
        have k1 : ∀ q : Bw w11, q.to.cell? ⟨b1, o + 1, none⟩ = some (.int .i64 0) := fun q => (HRD.out.on q.ok).k1
        have k2 : ∀ q : Bw w11, q.to.cell? ⟨b1, o + 2, none⟩ = some (.string Bl.unN) := fun q => (HRD.out.on q.ok).k2
        have k3 : ∀ q : Bw w11, q.to.cell? ⟨b1, o + 3, none⟩ = some (.slice (some ⟨b6, o6, none⟩) 1 c1) := fun q => (HRD.out.on q.ok).k3
        have j0 : ∀ q : Bw w11, q.to.cell? ⟨b1, o + 4, none⟩ = some (.int .i64 2) := fun q => (HRD.out.on q.ok).j0
        have j1 : ∀ q : Bw w11, q.to.cell? ⟨b1, o + 4 + 1, none⟩ = some (.int .i64 0) := fun q => (HRD.out.on q.ok).j1
        have j2 : ∀ q : Bw w11, q.to.cell? ⟨b1, o + 4 + 2, none⟩ = some (.string ⟨#[91, 93]⟩) := fun q => (HRD.out.on q.ok).j2
        have j3 : ∀ q : Bw w11, q.to.cell? ⟨b1, o + 4 + 3, none⟩ = some (.slice A3 0 c3) := fun q => (HRD.out.on q.ok).j3
        have g0 : ∀ q : Bw w11, q.to.cell? ⟨w10.heap.size, 0, none⟩ = some (.int .i64 3) := fun q => (HRD.out.on q.ok).box.kind
        have g1 : ∀ q : Bw w11, q.to.cell? ⟨w10.heap.size, 1, none⟩ = some (.int .i64 0) := fun q => (HRD.out.on q.ok).box.num
        have g2 : ∀ q : Bw w11, q.to.cell? ⟨w10.heap.size, 2, none⟩ = some (.string Bl.unN) := fun q => (HRD.out.on q.ok).box.name
        have g3 : ∀ q : Bw w11, q.to.cell? ⟨w10.heap.size, 3, none⟩ = some (.slice (some ⟨b4, o4, none⟩) 1 c4) := fun q => (HRD.out.on q.ok).box.args
        have hV := fun q : Bw w11 => valid_self (3, 0, Tm.errName) _ HVE.out rfl (c := c') (HRD.out.on q.ok).am
        have hS1 := fun q : Bw w11 => sameV_self (3, 0, Bl.unN) (Bl.namesF [] Lp Ll) (n := 1) HFV.out (by simp [Bl.namesF_len]) (c := c1) (c' := c4) ((HRD.out.on q.ok).a1.mono fun b hb => hb.1.2.1) ((HRD.out.on q.ok).a4.mono fun b hb => hb.2.1)
        have hX := fun q : Bw w11 => a_any ⟨#[91, 93]⟩ q.to
        have hS2 := fun q : Bw w11 => sameV_self (2, 0, ⟨#[91, 93]⟩) .nil (by kernel_rfl) rfl (A := A3) (A' := none) (c := c3) (c' := 0) (ArgsIn.nil _ q.to _) (ArgsIn.nil _ q.to _)
        refine wp_region_bw hm11 (by kernel_rfl) ?_
        repeat (go_big_quiet_step (fail))
        go_big_quiet_step (exact calls_bw (hV _))
        repeat (go_big_quiet_step (fail))
        go_big_quiet_step (exact calls_bw (hS1 _))
        repeat (go_big_quiet_step (fail))
        go_big_quiet_step (exact calls_bw (hX _))
        repeat (go_big_quiet_step (fail))
        go_big_quiet_step (exact calls_bw (hS2 _))
        repeat (go_big_quiet_step (fail))
        refine wpQuiet_nil ?_
        intro _ hw'
        obtain ⟨pq, hw''⟩ := hw'
        subst hw''
        have HX := Lib.hid pq.ok
        clear z0 z1 z2 z3 k0 k1 k2 k3 j0 j1 j2 j3 g0 g1 g2 g3 hV hS1 hX hS2
        have g2 : pq.to.cell? ⟨w10.heap.size, 2, none⟩ = some (.string ⟨#[117, 110, 105, 110, 115, 116, 97, 110, 116, 105, 97, 116, 105, 111, 110, 95, 101, 114, 114, 111, 114]⟩) := (HRD.out.on HX.out).box.name
        have g3 : pq.to.cell? ⟨w10.heap.size, 3, none⟩ = some (.slice (some ⟨b4, o4, none⟩) 1 c4) := (HRD.out.on HX.out).box.args
        go_wp2_with fail
        refine wp_loop_rounds 1 ?_
        rw [rounds_succ]
        clear g2
        have HWR := Lib.hid (HB11.out.trans (HX.out.mono HB11.out.size))
        have hwlt : w.heap.size < wr.heap.size := by omega
        have h11c : w11.heap.size ≤ pq.to.heap.size := HX.out.size
        have HSZ := Lib.hid (fun W (hb : Below wr.heap.size wr W) => rsize_any p l A c wr.heap.size W (HM.out ▸ HAR.out.below hb (Nat.le_refl _)) hb.size)
        rw [← HM.out] at HSZ
        obtain ⟨sz, hszz⟩ : ∃ sz, sz = Tm.sizeB l := ⟨_, rfl⟩
        rw [← hszz] at HSZ
        have hsz1 : sz ≤ 2001 := by rw [hszz]; unfold Tm.sizeB; omega
        have hszd : (2000 < 1 + Tm.size l + 3 + 0) ↔ 2000 < sz + 3 + 0 := by rw [hszz]; unfold Tm.sizeB; omega
        have t0 : ∀ o, (pq.to.alloc o).cell? ⟨w.heap.size, 0, none⟩ = some (.int .i64 p.1) := fun o => (HT5.out.below (HWR.out.alloc HWR.out.size o) hwlt).kind
        have t1 : ∀ o, (pq.to.alloc o).cell? ⟨w.heap.size, 1, none⟩ = some (.int .i64 p.2.1) := fun o => (HT5.out.below (HWR.out.alloc HWR.out.size o) hwlt).num
        have t2 : ∀ o, (pq.to.alloc o).cell? ⟨w.heap.size, 2, none⟩ = some (.string p.2.2) := fun o => (HT5.out.below (HWR.out.alloc HWR.out.size o) hwlt).name
        have t3 : ∀ o, (pq.to.alloc o).cell? ⟨w.heap.size, 3, none⟩ = some (.slice A m c) := fun o => (HT5.out.below (HWR.out.alloc HWR.out.size o) hwlt).args
        by_cases hbig : 2000 < 1 + Tm.size l + 3 + 0
        · have hL := last_big HLL.out hbig
          obtain ⟨rfl, rfl⟩ := Prod.mk.inj hL
          have d0' : pq.to.cell? ⟨b4, o4, none⟩ = some (.int .i64 2) := (HD0.out.on HX.out h4lt).kind
          have d1' : pq.to.cell? ⟨b4, o4 + 1, none⟩ = some (.int .i64 0) := (HD0.out.on HX.out h4lt).num
          have d2' : pq.to.cell? ⟨b4, o4 + 2, none⟩ = some (.string ⟨#[46, 46, 46]⟩) := (HD0.out.on HX.out h4lt).name
          have d3' : pq.to.cell? ⟨b4, o4 + 3, none⟩ = some (.slice B0 0 d0) := (HD0.out.on HX.out h4lt).args
          have hq0 : (2000 : Int) < (sz : Int) + 3 + 0 := by have := hszd.1 hbig; omega
          have q1 : (2000 : Int) < (sz : Int) + 3 + 0 := by omega
          have q2 : (2000 : Int) < (sz : Int) + 3 := by omega
          clear hq0
          clear hbig hL hszd hszz
          go_wp2_with fail
          refine (HSZ.out _ (HWR.out.alloc HWR.out.size _)).mono ?_
          rintro e w21 ⟨rfl, hb21⟩
          have hs21 := hb21.size
          simp only [World.size_alloc] at hs21
          have HB15 := Lib.hid (show TermAt w21 pq.to.heap.size Tm.dots B0 0 d0 from TermAt.below (TermAt.new pq.to Tm.dots B0 0 d0 24) hb21 (by simp))
          have HX := Lib.hid ((HX.out.alloc HX.out.size _).trans (hb21.mono (HX.out.alloc HX.out.size _).size))
          have HWR := Lib.hid ((HWR.out.alloc HWR.out.size _).trans (hb21.mono (HWR.out.alloc HWR.out.size _).size))
          have h15 : pq.to.heap.size < w21.heap.size := by omega
          clear hb21 hs21 d0' d1' d2' d3' t0 t1 t2 t3 g3 HSZ
          have e0 : ∀ q : Bw w21, q.to.cell? ⟨pq.to.heap.size, 0, none⟩ = some (.int .i64 2) := fun q => (HB15.out.below q.ok h15).kind
          have e1 : ∀ q : Bw w21, q.to.cell? ⟨pq.to.heap.size, 1, none⟩ = some (.int .i64 0) := fun q => (HB15.out.below q.ok h15).num
          have e2 : ∀ q : Bw w21, q.to.cell? ⟨pq.to.heap.size, 2, none⟩ = some (.string ⟨#[46, 46, 46]⟩) := fun q => (HB15.out.below q.ok h15).name
          have e3 : ∀ q : Bw w21, q.to.cell? ⟨pq.to.heap.size, 3, none⟩ = some (.slice B0 0 d0) := fun q => (HB15.out.below q.ok h15).args
          have t0 : ∀ q : Bw w21, q.to.cell? ⟨w.heap.size, 0, none⟩ = some (.int .i64 p.1) := fun q => (HT5.out.below (HWR.out.trans (q.ok.mono HWR.out.size)) hwlt).kind
          have t1 : ∀ q : Bw w21, q.to.cell? ⟨w.heap.size, 1, none⟩ = some (.int .i64 p.2.1) := fun q => (HT5.out.below (HWR.out.trans (q.ok.mono HWR.out.size)) hwlt).num
          have t2 : ∀ q : Bw w21, q.to.cell? ⟨w.heap.size, 2, none⟩ = some (.string p.2.2) := fun q => (HT5.out.below (HWR.out.trans (q.ok.mono HWR.out.size)) hwlt).name
          have t3 : ∀ q : Bw w21, q.to.cell? ⟨w.heap.size, 3, none⟩ = some (.slice A m c) := fun q => (HT5.out.below (HWR.out.trans (q.ok.mono HWR.out.size)) hwlt).args
          have hX := fun q : Bw w21 => a_any ⟨#[46, 46, 46]⟩ q.to
          have hS := fun q : Bw w21 => sameV_self (2, 0, ⟨#[46, 46, 46]⟩) .nil (by kernel_rfl) rfl (A := B0) (A' := none) (c := d0) (c' := 0) (ArgsIn.nil _ q.to _) (ArgsIn.nil _ q.to _)
          go_wp2_with fail
          refine wp_region_bw hm11 (by kernel_rfl) ?_
          repeat (go_big_quiet_step (fail))
          go_big_quiet_step (exact calls_bw (hX _))
          repeat (go_big_quiet_step (fail))
          go_big_quiet_step (exact calls_bw (hS _))
          repeat (go_big_quiet_step (fail))
          refine wpQuiet_nil ?_
          intro _ hw'
          obtain ⟨pz, hw''⟩ := hw'
          subst hw''
          clear e0 e1 e2 e3 t0 t1 t2 t3 hS hX
          go_wp2_with fail
          have HX := Lib.hid (HX.out.trans (pz.ok.mono HX.out.size))
          have HWR := Lib.hid (HWR.out.trans (pz.ok.mono HWR.out.size))
          have HB15 := Lib.hid (HB15.out.below pz.ok h15)
          have h15 : pq.to.heap.size < pz.to.heap.size := Nat.lt_of_lt_of_le h15 pz.ok.size
          have h6lt : b6 < w11.heap.size := HS6.out.1.2.1
          have h6n : b6 < w8.heap.size := HS6.out.2
          have h6w : wr.heap.size ≤ b6 := HS6.out.1.1
          have h811 := HRD.out.n8l
          have h11c : w11.heap.size ≤ pq.to.heap.size := h11c
          refine sh24_walk (by kernel_rfl) s0 s1 0 r b1 o c' b6 o6 1 c1 pz.to (by omega) (Nat.lt_of_lt_of_le HRD.out.rlt HX.out.size) (Nat.lt_of_lt_of_le HRD.out.blt HX.out.size) (HRD.out.on HX.out).made.args (HRD.out.on HX.out).k3 rfl (Nat.lt_of_lt_of_le h6lt HX.out.size) (HF6.out.on HX.out h6lt) (HS6.out.1.2.2.same (HX.out.block _ h6lt)) ?_
          intro u w25 hbl hbk hsz25
          have HWR := Lib.hid (HWR.out.trans (hbl _ h6w HWR.out.size))
          have HB15 := Lib.hid (HB15.out.same (hbk pq.to.heap.size h15 (by omega)))
          have h15 : pq.to.heap.size < w25.heap.size := Nat.lt_of_lt_of_le h15 hsz25
          have HSE := Lib.hid (fun W (hb : Below wr.heap.size wr W) => sameV_self p l HVB.out HM.out.symm (A := A) (A' := A2) (c := c) (c' := c2) ((HAR.out.below hb (Nat.le_refl _)).up hb.size) ((HAW.out.below hb (Nat.le_refl _)).up hb.size))
          have e3 : w25.cell? ⟨pq.to.heap.size, 3, none⟩ = some (.slice B0 0 d0) := HB15.out.args
          have t0 : w25.cell? ⟨w.heap.size, 0, none⟩ = some (.int .i64 p.1) := (HT5.out.below HWR.out hwlt).kind
          have t1 : w25.cell? ⟨w.heap.size, 1, none⟩ = some (.int .i64 p.2.1) := (HT5.out.below HWR.out hwlt).num
          have t2 : w25.cell? ⟨w.heap.size, 2, none⟩ = some (.string p.2.2) := (HT5.out.below HWR.out hwlt).name
          have t3 : w25.cell? ⟨w.heap.size, 3, none⟩ = some (.slice A m c) := (HT5.out.below HWR.out hwlt).args
          have s0' : w25.cell? ⟨w2.heap.size, 0, none⟩ = some (.int .i64 p.1) := (HTW.out.below HWR.out hsz).kind
          have s1' : w25.cell? ⟨w2.heap.size, 1, none⟩ = some (.int .i64 p.2.1) := (HTW.out.below HWR.out hsz).num
          have s2' : w25.cell? ⟨w2.heap.size, 2, none⟩ = some (.string p.2.2) := (HTW.out.below HWR.out hsz).name
          have s3' : w25.cell? ⟨w2.heap.size, 3, none⟩ = some (.slice A2 m c2) := (HTW.out.below HWR.out hsz).args
          go_wp2_with fail
          refine (HSE.out _ HWR.out).mono ?_
          rintro e w28 ⟨rfl, hb28⟩
          have HWR := Lib.hid (HWR.out.trans (hb28.mono HWR.out.size))
          go_wp2_with fail
          exact ⟨⟨1, by omega, rfl, HBR.out.trans (HWR.out.mono HBR.out.size), HT5.out.below HWR.out hwlt, HTW.out.below HWR.out hsz, Nat.lt_of_lt_of_le hsz HWR.out.size, (HAR.out.below HWR.out (Nat.le_refl _)).up HWR.out.size, (HAW.out.below HWR.out (Nat.le_refl _)).up HWR.out.size⟩, by simp [intOf]⟩
        · have hL := last_small HLL.out hbig
          obtain ⟨e1, e2⟩ := Prod.mk.inj hL
          replace e1 := e1.symm
          replace e2 := e2.symm
          subst e1 e2
          have d0' : pq.to.cell? ⟨b4, o4, none⟩ = some (.int .i64 p.1) := (HD0.out.on HX.out h4lt).kind
          have d1' : pq.to.cell? ⟨b4, o4 + 1, none⟩ = some (.int .i64 p.2.1) := (HD0.out.on HX.out h4lt).num
          have d2' : pq.to.cell? ⟨b4, o4 + 2, none⟩ = some (.string p.2.2) := (HD0.out.on HX.out h4lt).name
          have d3' : pq.to.cell? ⟨b4, o4 + 3, none⟩ = some (.slice B0 m d0) := (HD0.out.on HX.out h4lt).args.trans (by rw [HM.out])
          have hq0 : ¬ (2000 : Int) < (sz : Int) + 3 + 0 := by have := hszd; omega
          have q1 : decide ((2000 : Int) < (sz : Int) + 3 + 0) = false := by rw [decide_eq_false_iff_not]; omega
          have q2 : decide ((2000 : Int) < (sz : Int) + 3) = false := by rw [decide_eq_false_iff_not]; omega
          clear hq0
          clear hbig hL hszd hszz
          go_wp2_with fail
          refine (HSZ.out _ (HWR.out.alloc HWR.out.size _)).mono ?_
          rintro e w21 ⟨rfl, hb21⟩
          have hs21 := hb21.size
          simp only [World.size_alloc] at hs21
          have HB15 := Lib.hid (show TermAt w21 pq.to.heap.size p B0 m d0 from TermAt.below (TermAt.new pq.to p B0 m d0 24) hb21 (by simp))
          have HX := Lib.hid ((HX.out.alloc HX.out.size _).trans (hb21.mono (HX.out.alloc HX.out.size _).size))
          have HWR := Lib.hid ((HWR.out.alloc HWR.out.size _).trans (hb21.mono (HWR.out.alloc HWR.out.size _).size))
          have h15 : pq.to.heap.size < w21.heap.size := by omega
          clear hb21 hs21 d0' d1' d2' d3' t0 t1 t2 t3 g3 HSZ
          have e0 : ∀ q : Bw w21, q.to.cell? ⟨pq.to.heap.size, 0, none⟩ = some (.int .i64 p.1) := fun q => (HB15.out.below q.ok h15).kind
          have e1 : ∀ q : Bw w21, q.to.cell? ⟨pq.to.heap.size, 1, none⟩ = some (.int .i64 p.2.1) := fun q => (HB15.out.below q.ok h15).num
          have e2 : ∀ q : Bw w21, q.to.cell? ⟨pq.to.heap.size, 2, none⟩ = some (.string p.2.2) := fun q => (HB15.out.below q.ok h15).name
          have e3 : ∀ q : Bw w21, q.to.cell? ⟨pq.to.heap.size, 3, none⟩ = some (.slice B0 m d0) := fun q => (HB15.out.below q.ok h15).args
          have t0 : ∀ q : Bw w21, q.to.cell? ⟨w.heap.size, 0, none⟩ = some (.int .i64 p.1) := fun q => (HT5.out.below (HWR.out.trans (q.ok.mono HWR.out.size)) hwlt).kind
          have t1 : ∀ q : Bw w21, q.to.cell? ⟨w.heap.size, 1, none⟩ = some (.int .i64 p.2.1) := fun q => (HT5.out.below (HWR.out.trans (q.ok.mono HWR.out.size)) hwlt).num
          have t2 : ∀ q : Bw w21, q.to.cell? ⟨w.heap.size, 2, none⟩ = some (.string p.2.2) := fun q => (HT5.out.below (HWR.out.trans (q.ok.mono HWR.out.size)) hwlt).name
          have t3 : ∀ q : Bw w21, q.to.cell? ⟨w.heap.size, 3, none⟩ = some (.slice A m c) := fun q => (HT5.out.below (HWR.out.trans (q.ok.mono HWR.out.size)) hwlt).args
          have hS := fun q : Bw w21 => sameV_self p l HVB.out HM.out.symm (A := B0) (A' := A) (c := d0) (c' := c) (HM.out ▸ ((HD0.out.on (HX.out.trans (q.ok.mono HX.out.size)) h4lt).inn.mono fun b hb => hb.2.1)) ((HAR.out.below (HWR.out.trans (q.ok.mono HWR.out.size)) (Nat.le_refl _)).up (HWR.out.trans (q.ok.mono HWR.out.size)).size)
          go_wp2_with fail
          refine wp_region_bw hm11 (by kernel_rfl) ?_
          repeat (go_big_quiet_step (fail))
          go_big_quiet_step (exact calls_bw (hS _))
          repeat (go_big_quiet_step (fail))
          refine wpQuiet_nil ?_
          intro _ hw'
          obtain ⟨pz, hw''⟩ := hw'
          subst hw''
          clear e0 e1 e2 e3 t0 t1 t2 t3 hS
          go_wp2_with fail
          have HX := Lib.hid (HX.out.trans (pz.ok.mono HX.out.size))
          have HWR := Lib.hid (HWR.out.trans (pz.ok.mono HWR.out.size))
          have HB15 := Lib.hid (HB15.out.below pz.ok h15)
          have h15 : pq.to.heap.size < pz.to.heap.size := Nat.lt_of_lt_of_le h15 pz.ok.size
          have h6lt : b6 < w11.heap.size := HS6.out.1.2.1
          have h6n : b6 < w8.heap.size := HS6.out.2
          have h6w : wr.heap.size ≤ b6 := HS6.out.1.1
          have h811 := HRD.out.n8l
          have h11c : w11.heap.size ≤ pq.to.heap.size := h11c
          refine sh24_walk (by kernel_rfl) s0 s1 0 r b1 o c' b6 o6 1 c1 pz.to (by omega) (Nat.lt_of_lt_of_le HRD.out.rlt HX.out.size) (Nat.lt_of_lt_of_le HRD.out.blt HX.out.size) (HRD.out.on HX.out).made.args (HRD.out.on HX.out).k3 rfl (Nat.lt_of_lt_of_le h6lt HX.out.size) (HF6.out.on HX.out h6lt) (HS6.out.1.2.2.same (HX.out.block _ h6lt)) ?_
          intro u w25 hbl hbk hsz25
          have HWR := Lib.hid (HWR.out.trans (hbl _ h6w HWR.out.size))
          have HB15 := Lib.hid (HB15.out.same (hbk pq.to.heap.size h15 (by omega)))
          have h15 : pq.to.heap.size < w25.heap.size := Nat.lt_of_lt_of_le h15 hsz25
          have HSE := Lib.hid (fun W (hb : Below wr.heap.size wr W) => sameV_self p l HVB.out HM.out.symm (A := A) (A' := A2) (c := c) (c' := c2) ((HAR.out.below hb (Nat.le_refl _)).up hb.size) ((HAW.out.below hb (Nat.le_refl _)).up hb.size))
          by_cases hm0 : m = 0
          · subst hm0
            have e3 : w25.cell? ⟨pq.to.heap.size, 3, none⟩ = some (.slice B0 0 d0) := HB15.out.args
            have t0 : w25.cell? ⟨w.heap.size, 0, none⟩ = some (.int .i64 p.1) := (HT5.out.below HWR.out hwlt).kind
            have t1 : w25.cell? ⟨w.heap.size, 1, none⟩ = some (.int .i64 p.2.1) := (HT5.out.below HWR.out hwlt).num
            have t2 : w25.cell? ⟨w.heap.size, 2, none⟩ = some (.string p.2.2) := (HT5.out.below HWR.out hwlt).name
            have t3 : w25.cell? ⟨w.heap.size, 3, none⟩ = some (.slice A 0 c) := (HT5.out.below HWR.out hwlt).args
            have s0' : w25.cell? ⟨w2.heap.size, 0, none⟩ = some (.int .i64 p.1) := (HTW.out.below HWR.out hsz).kind
            have s1' : w25.cell? ⟨w2.heap.size, 1, none⟩ = some (.int .i64 p.2.1) := (HTW.out.below HWR.out hsz).num
            have s2' : w25.cell? ⟨w2.heap.size, 2, none⟩ = some (.string p.2.2) := (HTW.out.below HWR.out hsz).name
            have s3' : w25.cell? ⟨w2.heap.size, 3, none⟩ = some (.slice A2 0 c2) := (HTW.out.below HWR.out hsz).args
            go_wp2_with fail
            refine (HSE.out _ HWR.out).mono ?_
            rintro e w28 ⟨rfl, hb28⟩
            have HWR := Lib.hid (HWR.out.trans (hb28.mono HWR.out.size))
            go_wp2_with fail
            exact ⟨⟨1, by omega, rfl, HBR.out.trans (HWR.out.mono HBR.out.size), HT5.out.below HWR.out hwlt, HTW.out.below HWR.out hsz, Nat.lt_of_lt_of_le hsz HWR.out.size, (HAR.out.below HWR.out (Nat.le_refl _)).up HWR.out.size, (HAW.out.below HWR.out (Nat.le_refl _)).up HWR.out.size⟩, by simp [intOf]⟩
          · have hmp : 0 < m := by omega
            have hmq : (0 : Int) < (m : Int) := by omega
            have hml : 0 < Tm.len l := by rw [← HM.out]; exact hmp
            obtain ⟨b7, o7, p7, l7, r7, C7, f7, eB, hS7, _, hd7⟩ := (HD0.out.on HX.out h4lt).inn.at (k := 0) hml
            subst eB
            have h7lt : b7 < pz.to.heap.size := hS7.2.1
            have h7n : w8.heap.size ≤ b7 := hS7.1
            have hne : b7 ≠ b6 := by omega
            have hk7 := hbk b7 h7lt hne
            have hf7 := hS7.2.2.same hk7
            have x0 : w25.cell? ⟨b7, o7, none⟩ = some (.int .i64 p7.1) := (cell_of_block (p := ⟨b7, o7, none⟩) hk7).trans hd7.kind
            have x1 : w25.cell? ⟨b7, o7 + 1, none⟩ = some (.int .i64 p7.2.1) := (cell_of_block (p := ⟨b7, o7 + 1, none⟩) hk7).trans hd7.num
            have x2 : w25.cell? ⟨b7, o7 + 2, none⟩ = some (.string p7.2.2) := (cell_of_block (p := ⟨b7, o7 + 2, none⟩) hk7).trans hd7.name
            have x3 : w25.cell? ⟨b7, o7 + 3, none⟩ = some (.slice C7 (Tm.len l7) f7) := (cell_of_block (p := ⟨b7, o7 + 3, none⟩) hk7).trans hd7.args
            have z0 : w25.frozen? ⟨b7, o7, none⟩ = false := hf7 o7
            have z1 : w25.frozen? ⟨b7, o7 + 1, none⟩ = false := hf7 (o7 + 1)
            have z2 : w25.frozen? ⟨b7, o7 + 2, none⟩ = false := hf7 (o7 + 2)
            have z3 : w25.frozen? ⟨b7, o7 + 3, none⟩ = false := hf7 (o7 + 3)
            have hn1 : ¬ w.heap.size = b7 := by omega
            have hn2 : ¬ w2.heap.size = b7 := by omega
            have hn3 : ¬ b7 = w.heap.size := by omega
            have hn4 : ¬ b7 = w2.heap.size := by omega
            clear hd7 hS7 hk7 hf7
            have e3 : w25.cell? ⟨pq.to.heap.size, 3, none⟩ = some (.slice (some ⟨b7, o7, none⟩) m d0) := HB15.out.args
            have t0 : w25.cell? ⟨w.heap.size, 0, none⟩ = some (.int .i64 p.1) := (HT5.out.below HWR.out hwlt).kind
            have t1 : w25.cell? ⟨w.heap.size, 1, none⟩ = some (.int .i64 p.2.1) := (HT5.out.below HWR.out hwlt).num
            have t2 : w25.cell? ⟨w.heap.size, 2, none⟩ = some (.string p.2.2) := (HT5.out.below HWR.out hwlt).name
            have t3 : w25.cell? ⟨w.heap.size, 3, none⟩ = some (.slice A m c) := (HT5.out.below HWR.out hwlt).args
            have s0' : w25.cell? ⟨w2.heap.size, 0, none⟩ = some (.int .i64 p.1) := (HTW.out.below HWR.out hsz).kind
            have s1' : w25.cell? ⟨w2.heap.size, 1, none⟩ = some (.int .i64 p.2.1) := (HTW.out.below HWR.out hsz).num
            have s2' : w25.cell? ⟨w2.heap.size, 2, none⟩ = some (.string p.2.2) := (HTW.out.below HWR.out hsz).name
            have s3' : w25.cell? ⟨w2.heap.size, 3, none⟩ = some (.slice A2 m c2) := (HTW.out.below HWR.out hsz).args
            go_wp2_with fail
            have hend : Below wr.heap.size wr (set4 w25 b7 o7 (7, 0, ByteArray.empty) none 0 0) := below_set4 HWR.out (by omega)
            have HEND := Lib.hid hend
            clear hend
            refine (HSE.out _ HEND.out).mono ?_
            rintro e w28 ⟨rfl, hb28⟩
            have HWR := Lib.hid (HEND.out.trans (hb28.mono HEND.out.size))
            go_wp2_with fail
            exact ⟨⟨1, by omega, rfl, HBR.out.trans (HWR.out.mono HBR.out.size), HT5.out.below HWR.out hwlt, HTW.out.below HWR.out hsz, Nat.lt_of_lt_of_le hsz HWR.out.size, (HAR.out.below HWR.out (Nat.le_refl _)).up HWR.out.size, (HAW.out.below HWR.out (Nat.le_refl _)).up HWR.out.size⟩, by simp [intOf]⟩
      · clear hk hlt
        go_wp2_with (simp only [ixs1])
        refine sh8_walk (by kernel_rfl) s0 s1 p l A m c 1 w.heap.size (Bl.EE Bl.tyN [s0] (Bl.lastOf 1 p l)) HM.out (Bl.q1 s0 s1 HS0.out HVB.out) rfl HT5.out (by omega) HAR.out ?_
        intro r A' c' u w8 hb8 hr hr8 ht8 ha8
        have hFO := formal_call (c' := c') (ks := [s0]) (n := 1) rfl (by decide) (by simp) (fun k h => by simp at h; subst h; exact HS0.out) HVB.out (ha8.mono fun b hb => hb.1.2.1)
        have HVL := Lib.hid (Bl.last_valid (n := 1) HVB.out)
        have HVE := Lib.hid (Bl.EE_valid (s := Bl.tyN) (ks := [s0]) (by decide) (by simp) (fun k h => by simp at h; subst h; exact HS0.out) HVB.out)
        generalize hLL : Bl.lastOf 1 p l = L at hFO HVL HVE ht8 ha8
        obtain ⟨Lp, Ll⟩ := L
        have HLL := Lib.hid hLL
        clear hLL
        have HZ := Lib.hid (four_below w8)
        have x0 : ∀ o1 o2 o3 o4, ((((w8.alloc o1).alloc o2).alloc o3).alloc o4).cell? ⟨r, 0, none⟩ = some (.int .i64 3) := fun o1 o2 o3 o4 => ((HZ.out o1 o2 o3 o4).cell (p := ⟨r, 0, none⟩) hr8).trans ht8.kind
        have x1 : ∀ o1 o2 o3 o4, ((((w8.alloc o1).alloc o2).alloc o3).alloc o4).cell? ⟨r, 1, none⟩ = some (.int .i64 0) := fun o1 o2 o3 o4 => ((HZ.out o1 o2 o3 o4).cell (p := ⟨r, 1, none⟩) hr8).trans ht8.num
        have x2 : ∀ o1 o2 o3 o4, ((((w8.alloc o1).alloc o2).alloc o3).alloc o4).cell? ⟨r, 2, none⟩ = some (.string Tm.errName) := fun o1 o2 o3 o4 => ((HZ.out o1 o2 o3 o4).cell (p := ⟨r, 2, none⟩) hr8).trans ht8.name
        have x3 : ∀ o1 o2 o3 o4, ((((w8.alloc o1).alloc o2).alloc o3).alloc o4).cell? ⟨r, 3, none⟩ = some (.slice A' 2 c') := fun o1 o2 o3 o4 => ((HZ.out o1 o2 o3 o4).cell (p := ⟨r, 3, none⟩) hr8).trans ht8.args
        have HFO := Lib.hid hFO
        have HT8 := Lib.hid ht8
        have HA8 := Lib.hid ha8
        clear hFO ht8 ha8
        go_wp2_with (simp only [ixr1])
        refine (HFO.out _ ?_).mono ?_
        · exact HZ.out _ _ _ _
        rintro e w10 ⟨A4, c4, rfl, ha4, hb10⟩
        have hmk := Rd.mk0 (c4 := c4) (n1 := 2) (by simp [Bl.namesF_len]) hr8 (HZ.out _ _ _ _) hb10 HT8.out HA8.out ha4 rfl
        obtain ⟨b1, o, A1, c1, A3, c3, rfl, hrd⟩ := hmk
        have HRD := Lib.hid hrd
        have HB10 := Lib.hid (hb8.trans (((HZ.out _ _ _ _).trans (hb10.mono (HZ.out _ _ _ _).size)).mono hb8.size))
        have HN0 := Lib.hid (show w10.cell? ⟨w8.heap.size, 0, none⟩ = some (.string s0) from (hb10.cell (p := ⟨w8.heap.size, 0, none⟩) (by simp; try omega)).trans (four_cells0 w8 _ _ _ _ _ _ _ _ 0))
        have hnlt : w8.heap.size < w10.heap.size := by have := hb10.size; simp at this; omega
        clear hrd hb10 ha4 x0 x1 x2 x3
        try simp only [Nat.zero_add, Nat.reduceAdd]
        go_wp2_with fail
        refine at_world (P := fun x => Code.wp _ _ _ _ x) _ ?_
        intro w11 hw11
        have hrd := HRD.out
        rw [← hw11] at hrd
        have HRD := Lib.hid hrd
        have HB11 := Lib.hid (show Below wr.heap.size wr w11 by rw [hw11]; exact HB10.out.alloc HB10.out.size _)
        have hb11 : Below w10.heap.size w10 w11 := by rw [hw11]; exact box_below _ _
        have HN0 := Lib.hid (show w11.cell? ⟨w8.heap.size, 0, none⟩ = some (.string s0) from (hb11.cell (p := ⟨w8.heap.size, 0, none⟩) hnlt).trans HN0.out)
        have hnlt : w8.heap.size < w11.heap.size := Nat.lt_of_lt_of_le hnlt hb11.size
        obtain ⟨b4, o4, B0, d0, B1, d1, rfl, hS4, hd0, hd1⟩ := two_at hrd.a4
        have HD0 := Lib.hid hd0
        have HD1 := Lib.hid hd1
        obtain ⟨b6, o6, C0, f0, C1, f1, rfl, hS6, he0, he1⟩ := two_at hrd.a1
        have HF6 := Lib.hid (show Four w11 b6 (o6 + 1 * 4) from he1.four)
        have HS6 := Lib.hid hS6
        have HRD := Lib.hid hrd
        clear hrd hw11 HB10 hb11 hS6 hd0 he0 hd1 he1
        have h4lt : b4 < w11.heap.size := hS4.2.1
        have HFV := Lib.hid (show Tm.validB (3, 0, Bl.tyN) (Bl.namesF [s0] Lp Ll) = true from Bl.valid_arg0 HVE.out rfl)
        have z0 : ∀ q : Bw w11, q.to.cell? ⟨r, 0, none⟩ = some (.int .i64 3) := fun q => (HRD.out.on q.ok).made.kind
        have z1 : ∀ q : Bw w11, q.to.cell? ⟨r, 1, none⟩ = some (.int .i64 0) := fun q => (HRD.out.on q.ok).made.num
        have z2 : ∀ q : Bw w11, q.to.cell? ⟨r, 2, none⟩ = some (.string ⟨#[101, 114, 114, 111, 114]⟩) := fun q => (HRD.out.on q.ok).made.name
        have z3 : ∀ q : Bw w11, q.to.cell? ⟨r, 3, none⟩ = some (.slice (some ⟨b1, o, none⟩) 2 c') := fun q => (HRD.out.on q.ok).made.args
        have k0 : ∀ q : Bw w11, q.to.cell? ⟨b1, o, none⟩ = some (.int .i64 3) := fun q => (HRD.out.on q.ok).k0
        have k1 : ∀ q : Bw w11, q.to.cell? ⟨b1, o + 1, none⟩ = some (.int .i64 0) := fun q => (HRD.out.on q.ok).k1
        have k2 : ∀ q : Bw w11, q.to.cell? ⟨b1, o + 2, none⟩ = some (.string Bl.tyN) := fun q => (HRD.out.on q.ok).k2
        have k3 : ∀ q : Bw w11, q.to.cell? ⟨b1, o + 3, none⟩ = some (.slice (some ⟨b6, o6, none⟩) 2 c1) := fun q => (HRD.out.on q.ok).k3
        have j0 : ∀ q : Bw w11, q.to.cell? ⟨b1, o + 4, none⟩ = some (.int .i64 2) := fun q => (HRD.out.on q.ok).j0
        have j1 : ∀ q : Bw w11, q.to.cell? ⟨b1, o + 4 + 1, none⟩ = some (.int .i64 0) := fun q => (HRD.out.on q.ok).j1
        have j2 : ∀ q : Bw w11, q.to.cell? ⟨b1, o + 4 + 2, none⟩ = some (.string ⟨#[91, 93]⟩) := fun q => (HRD.out.on q.ok).j2
        have j3 : ∀ q : Bw w11, q.to.cell? ⟨b1, o + 4 + 3, none⟩ = some (.slice A3 0 c3) := fun q => (HRD.out.on q.ok).j3
        have g0 : ∀ q : Bw w11, q.to.cell? ⟨w10.heap.size, 0, none⟩ = some (.int .i64 3) := fun q => (HRD.out.on q.ok).box.kind
        have g1 : ∀ q : Bw w11, q.to.cell? ⟨w10.heap.size, 1, none⟩ = some (.int .i64 0) := fun q => (HRD.out.on q.ok).box.num
        have g2 : ∀ q : Bw w11, q.to.cell? ⟨w10.heap.size, 2, none⟩ = some (.string Bl.tyN) := fun q => (HRD.out.on q.ok).box.name
        have g3 : ∀ q : Bw w11, q.to.cell? ⟨w10.heap.size, 3, none⟩ = some (.slice (some ⟨b4, o4, none⟩) 2 c4) := fun q => (HRD.out.on q.ok).box.args
        have hV := fun q : Bw w11 => valid_self (3, 0, Tm.errName) _ HVE.out rfl (c := c') (HRD.out.on q.ok).am
        have hS1 := fun q : Bw w11 => sameV_self (3, 0, Bl.tyN) (Bl.namesF [s0] Lp Ll) (n := 2) HFV.out (by simp [Bl.namesF_len]) (c := c1) (c' := c4) ((HRD.out.on q.ok).a1.mono fun b hb => hb.1.2.1) ((HRD.out.on q.ok).a4.mono fun b hb => hb.2.1)
        have hX := fun q : Bw w11 => a_any ⟨#[91, 93]⟩ q.to
        have hS2 := fun q : Bw w11 => sameV_self (2, 0, ⟨#[91, 93]⟩) .nil (by kernel_rfl) rfl (A := A3) (A' := none) (c := c3) (c' := 0) (ArgsIn.nil _ q.to _) (ArgsIn.nil _ q.to _)
        refine wp_region_bw hm11 (by kernel_rfl) ?_
        repeat (go_big_quiet_step (fail))
        go_big_quiet_step (exact calls_bw (hV _))
        repeat (go_big_quiet_step (fail))
        go_big_quiet_step (exact calls_bw (hS1 _))
        repeat (go_big_quiet_step (fail))
        go_big_quiet_step (exact calls_bw (hX _))
        repeat (go_big_quiet_step (fail))
        go_big_quiet_step (exact calls_bw (hS2 _))
        repeat (go_big_quiet_step (fail))
        refine wpQuiet_nil ?_
        intro _ hw'
        obtain ⟨pq, hw''⟩ := hw'
        subst hw''
        have HX := Lib.hid pq.ok
        clear z0 z1 z2 z3 k0 k1 k2 k3 j0 j1 j2 j3 g0 g1 g2 g3 hV hS1 hX hS2
        have g2 : pq.to.cell? ⟨w10.heap.size, 2, none⟩ = some (.string ⟨#[116, 121, 112, 101, 95, 101, 114, 114, 111, 114]⟩) := (HRD.out.on HX.out).box.name
        have g3 : pq.to.cell? ⟨w10.heap.size, 3, none⟩ = some (.slice (some ⟨b4, o4, none⟩) 2 c4) := (HRD.out.on HX.out).box.args
        go_wp2_with fail
        refine wp_loop_rounds 2 ?_
        rw [rounds_succ]
        go_wp2_with fail
        clear g2 g3
        have g3 : ∀ q : Bw pq.to, q.to.cell? ⟨w10.heap.size, 3, none⟩ = some (.slice (some ⟨b4, o4, none⟩) 2 c4) := fun q => (HRD.out.on (HX.out.trans (q.ok.mono HX.out.size))).box.args
        have nm : ∀ q : Bw pq.to, q.to.cell? ⟨w8.heap.size, 0, none⟩ = some (.string s0) := fun q => ((HX.out.trans (q.ok.mono HX.out.size)).cell (p := ⟨w8.heap.size, 0, none⟩) hnlt).trans HN0.out
        have dx0 : ∀ q : Bw pq.to, q.to.cell? ⟨b4, o4, none⟩ = some (.int .i64 2) := fun q => (HD0.out.on (HX.out.trans (q.ok.mono HX.out.size)) h4lt).kind
        have dx1 : ∀ q : Bw pq.to, q.to.cell? ⟨b4, o4 + 1, none⟩ = some (.int .i64 0) := fun q => (HD0.out.on (HX.out.trans (q.ok.mono HX.out.size)) h4lt).num
        have dx2 : ∀ q : Bw pq.to, q.to.cell? ⟨b4, o4 + 2, none⟩ = some (.string s0) := fun q => (HD0.out.on (HX.out.trans (q.ok.mono HX.out.size)) h4lt).name
        have dx3 : ∀ q : Bw pq.to, q.to.cell? ⟨b4, o4 + 3, none⟩ = some (.slice B0 0 d0) := fun q => (HD0.out.on (HX.out.trans (q.ok.mono HX.out.size)) h4lt).args
        have hX := fun q : Bw pq.to => a_any s0 q.to
        have hS := fun q : Bw pq.to => sameV_self (2, 0, s0) .nil (Bl.name_valid HS0.out) rfl (A := B0) (A' := none) (c := d0) (c' := 0) (ArgsIn.nil _ q.to _) (ArgsIn.nil _ q.to _)
        refine wp_region_bw hm11 (by kernel_rfl) ?_
        repeat (go_big_quiet_step (fail))
        go_big_quiet_step (exact calls_bw (hX _))
        repeat (go_big_quiet_step (fail))
        go_big_quiet_step (exact calls_bw (hS _))
        repeat (go_big_quiet_step (fail))
        refine wpQuiet_nil ?_
        intro _ hw'
        obtain ⟨pq0, hw''⟩ := hw'
        subst hw''
        have HX := Lib.hid (HX.out.trans (pq0.ok.mono HX.out.size))
        clear g3 nm dx0 dx1 dx2 dx3 hX hS
        go_wp2_with fail
        rw [rounds_succ]
        have g3 : pq0.to.cell? ⟨w10.heap.size, 3, none⟩ = some (.slice (some ⟨b4, o4, none⟩) 2 c4) := (HRD.out.on HX.out).box.args
        have HWR := Lib.hid (HB11.out.trans (HX.out.mono HB11.out.size))
        have hwlt : w.heap.size < wr.heap.size := by omega
        have h11c : w11.heap.size ≤ pq0.to.heap.size := HX.out.size
        have HSZ := Lib.hid (fun W (hb : Below wr.heap.size wr W) => rsize_any p l A c wr.heap.size W (HM.out ▸ HAR.out.below hb (Nat.le_refl _)) hb.size)
        rw [← HM.out] at HSZ
        obtain ⟨sz, hszz⟩ : ∃ sz, sz = Tm.sizeB l := ⟨_, rfl⟩
        rw [← hszz] at HSZ
        have hsz1 : sz ≤ 2001 := by rw [hszz]; unfold Tm.sizeB; omega
        have hszd : (2000 < 1 + Tm.size l + 3 + 1) ↔ 2000 < sz + 3 + 1 := by rw [hszz]; unfold Tm.sizeB; omega
        have t0 : ∀ o, (pq0.to.alloc o).cell? ⟨w.heap.size, 0, none⟩ = some (.int .i64 p.1) := fun o => (HT5.out.below (HWR.out.alloc HWR.out.size o) hwlt).kind
        have t1 : ∀ o, (pq0.to.alloc o).cell? ⟨w.heap.size, 1, none⟩ = some (.int .i64 p.2.1) := fun o => (HT5.out.below (HWR.out.alloc HWR.out.size o) hwlt).num
        have t2 : ∀ o, (pq0.to.alloc o).cell? ⟨w.heap.size, 2, none⟩ = some (.string p.2.2) := fun o => (HT5.out.below (HWR.out.alloc HWR.out.size o) hwlt).name
        have t3 : ∀ o, (pq0.to.alloc o).cell? ⟨w.heap.size, 3, none⟩ = some (.slice A m c) := fun o => (HT5.out.below (HWR.out.alloc HWR.out.size o) hwlt).args
        by_cases hbig : 2000 < 1 + Tm.size l + 3 + 1
        · have hL := last_big HLL.out hbig
          obtain ⟨rfl, rfl⟩ := Prod.mk.inj hL
          have d0' : pq0.to.cell? ⟨b4, o4 + 4, none⟩ = some (.int .i64 2) := (HD1.out.on HX.out h4lt).kind
          have d1' : pq0.to.cell? ⟨b4, o4 + 4 + 1, none⟩ = some (.int .i64 0) := (HD1.out.on HX.out h4lt).num
          have d2' : pq0.to.cell? ⟨b4, o4 + 4 + 2, none⟩ = some (.string ⟨#[46, 46, 46]⟩) := (HD1.out.on HX.out h4lt).name
          have d3' : pq0.to.cell? ⟨b4, o4 + 4 + 3, none⟩ = some (.slice B1 0 d1) := (HD1.out.on HX.out h4lt).args
          have hq0 : (2000 : Int) < (sz : Int) + 3 + 1 := by have := hszd.1 hbig; omega
          have q1 : (2000 : Int) < (sz : Int) + 3 + 1 := by omega
          have q2 : (2000 : Int) < (sz : Int) + 4 := by omega
          clear hq0
          clear hbig hL hszd hszz
          go_wp2_with fail
          refine (HSZ.out _ (HWR.out.alloc HWR.out.size _)).mono ?_
          rintro e w21 ⟨rfl, hb21⟩
          have hs21 := hb21.size
          simp only [World.size_alloc] at hs21
          have HB15 := Lib.hid (show TermAt w21 pq0.to.heap.size Tm.dots B1 0 d1 from TermAt.below (TermAt.new pq0.to Tm.dots B1 0 d1 24) hb21 (by simp))
          have HX := Lib.hid ((HX.out.alloc HX.out.size _).trans (hb21.mono (HX.out.alloc HX.out.size _).size))
          have HWR := Lib.hid ((HWR.out.alloc HWR.out.size _).trans (hb21.mono (HWR.out.alloc HWR.out.size _).size))
          have h15 : pq0.to.heap.size < w21.heap.size := by omega
          clear hb21 hs21 d0' d1' d2' d3' t0 t1 t2 t3 g3 HSZ
          have e0 : ∀ q : Bw w21, q.to.cell? ⟨pq0.to.heap.size, 0, none⟩ = some (.int .i64 2) := fun q => (HB15.out.below q.ok h15).kind
          have e1 : ∀ q : Bw w21, q.to.cell? ⟨pq0.to.heap.size, 1, none⟩ = some (.int .i64 0) := fun q => (HB15.out.below q.ok h15).num
          have e2 : ∀ q : Bw w21, q.to.cell? ⟨pq0.to.heap.size, 2, none⟩ = some (.string ⟨#[46, 46, 46]⟩) := fun q => (HB15.out.below q.ok h15).name
          have e3 : ∀ q : Bw w21, q.to.cell? ⟨pq0.to.heap.size, 3, none⟩ = some (.slice B1 0 d1) := fun q => (HB15.out.below q.ok h15).args
          have t0 : ∀ q : Bw w21, q.to.cell? ⟨w.heap.size, 0, none⟩ = some (.int .i64 p.1) := fun q => (HT5.out.below (HWR.out.trans (q.ok.mono HWR.out.size)) hwlt).kind
          have t1 : ∀ q : Bw w21, q.to.cell? ⟨w.heap.size, 1, none⟩ = some (.int .i64 p.2.1) := fun q => (HT5.out.below (HWR.out.trans (q.ok.mono HWR.out.size)) hwlt).num
          have t2 : ∀ q : Bw w21, q.to.cell? ⟨w.heap.size, 2, none⟩ = some (.string p.2.2) := fun q => (HT5.out.below (HWR.out.trans (q.ok.mono HWR.out.size)) hwlt).name
          have t3 : ∀ q : Bw w21, q.to.cell? ⟨w.heap.size, 3, none⟩ = some (.slice A m c) := fun q => (HT5.out.below (HWR.out.trans (q.ok.mono HWR.out.size)) hwlt).args
          have hX := fun q : Bw w21 => a_any ⟨#[46, 46, 46]⟩ q.to
          have hS := fun q : Bw w21 => sameV_self (2, 0, ⟨#[46, 46, 46]⟩) .nil (by kernel_rfl) rfl (A := B1) (A' := none) (c := d1) (c' := 0) (ArgsIn.nil _ q.to _) (ArgsIn.nil _ q.to _)
          go_wp2_with fail
          refine wp_region_bw hm11 (by kernel_rfl) ?_
          repeat (go_big_quiet_step (fail))
          go_big_quiet_step (exact calls_bw (hX _))
          repeat (go_big_quiet_step (fail))
          go_big_quiet_step (exact calls_bw (hS _))
          repeat (go_big_quiet_step (fail))
          refine wpQuiet_nil ?_
          intro _ hw'
          obtain ⟨pz, hw''⟩ := hw'
          subst hw''
          clear e0 e1 e2 e3 t0 t1 t2 t3 hS hX
          go_wp2_with fail
          have HX := Lib.hid (HX.out.trans (pz.ok.mono HX.out.size))
          have HWR := Lib.hid (HWR.out.trans (pz.ok.mono HWR.out.size))
          have HB15 := Lib.hid (HB15.out.below pz.ok h15)
          have h15 : pq0.to.heap.size < pz.to.heap.size := Nat.lt_of_lt_of_le h15 pz.ok.size
          have h6lt : b6 < w11.heap.size := HS6.out.1.2.1
          have h6n : b6 < w8.heap.size := HS6.out.2
          have h6w : wr.heap.size ≤ b6 := HS6.out.1.1
          have h811 := HRD.out.n8l
          have h11c : w11.heap.size ≤ pq0.to.heap.size := h11c
          refine sh24_walk (by kernel_rfl) s0 s1 1 r b1 o c' b6 o6 2 c1 pz.to (by omega) (Nat.lt_of_lt_of_le HRD.out.rlt HX.out.size) (Nat.lt_of_lt_of_le HRD.out.blt HX.out.size) (HRD.out.on HX.out).made.args (HRD.out.on HX.out).k3 rfl (Nat.lt_of_lt_of_le h6lt HX.out.size) (HF6.out.on HX.out h6lt) (HS6.out.1.2.2.same (HX.out.block _ h6lt)) ?_
          intro u w25 hbl hbk hsz25
          have HWR := Lib.hid (HWR.out.trans (hbl _ h6w HWR.out.size))
          have HB15 := Lib.hid (HB15.out.same (hbk pq0.to.heap.size h15 (by omega)))
          have h15 : pq0.to.heap.size < w25.heap.size := Nat.lt_of_lt_of_le h15 hsz25
          have HSE := Lib.hid (fun W (hb : Below wr.heap.size wr W) => sameV_self p l HVB.out HM.out.symm (A := A) (A' := A2) (c := c) (c' := c2) ((HAR.out.below hb (Nat.le_refl _)).up hb.size) ((HAW.out.below hb (Nat.le_refl _)).up hb.size))
          have e3 : w25.cell? ⟨pq0.to.heap.size, 3, none⟩ = some (.slice B1 0 d1) := HB15.out.args
          have t0 : w25.cell? ⟨w.heap.size, 0, none⟩ = some (.int .i64 p.1) := (HT5.out.below HWR.out hwlt).kind
          have t1 : w25.cell? ⟨w.heap.size, 1, none⟩ = some (.int .i64 p.2.1) := (HT5.out.below HWR.out hwlt).num
          have t2 : w25.cell? ⟨w.heap.size, 2, none⟩ = some (.string p.2.2) := (HT5.out.below HWR.out hwlt).name
          have t3 : w25.cell? ⟨w.heap.size, 3, none⟩ = some (.slice A m c) := (HT5.out.below HWR.out hwlt).args
          have s0' : w25.cell? ⟨w2.heap.size, 0, none⟩ = some (.int .i64 p.1) := (HTW.out.below HWR.out hsz).kind
          have s1' : w25.cell? ⟨w2.heap.size, 1, none⟩ = some (.int .i64 p.2.1) := (HTW.out.below HWR.out hsz).num
          have s2' : w25.cell? ⟨w2.heap.size, 2, none⟩ = some (.string p.2.2) := (HTW.out.below HWR.out hsz).name
          have s3' : w25.cell? ⟨w2.heap.size, 3, none⟩ = some (.slice A2 m c2) := (HTW.out.below HWR.out hsz).args
          go_wp2_with fail
          refine (HSE.out _ HWR.out).mono ?_
          rintro e w28 ⟨rfl, hb28⟩
          have HWR := Lib.hid (HWR.out.trans (hb28.mono HWR.out.size))
          go_wp2_with fail
          exact ⟨⟨2, by omega, rfl, HBR.out.trans (HWR.out.mono HBR.out.size), HT5.out.below HWR.out hwlt, HTW.out.below HWR.out hsz, Nat.lt_of_lt_of_le hsz HWR.out.size, (HAR.out.below HWR.out (Nat.le_refl _)).up HWR.out.size, (HAW.out.below HWR.out (Nat.le_refl _)).up HWR.out.size⟩, by simp [intOf]⟩
        · have hL := last_small HLL.out hbig
          obtain ⟨e1, e2⟩ := Prod.mk.inj hL
          replace e1 := e1.symm
          replace e2 := e2.symm
          subst e1 e2
          have d0' : pq0.to.cell? ⟨b4, o4 + 4, none⟩ = some (.int .i64 p.1) := (HD1.out.on HX.out h4lt).kind
          have d1' : pq0.to.cell? ⟨b4, o4 + 4 + 1, none⟩ = some (.int .i64 p.2.1) := (HD1.out.on HX.out h4lt).num
          have d2' : pq0.to.cell? ⟨b4, o4 + 4 + 2, none⟩ = some (.string p.2.2) := (HD1.out.on HX.out h4lt).name
          have d3' : pq0.to.cell? ⟨b4, o4 + 4 + 3, none⟩ = some (.slice B1 m d1) := (HD1.out.on HX.out h4lt).args.trans (by rw [HM.out])
          have hq0 : ¬ (2000 : Int) < (sz : Int) + 3 + 1 := by have := hszd; omega
          have q1 : decide ((2000 : Int) < (sz : Int) + 3 + 1) = false := by rw [decide_eq_false_iff_not]; omega
          have q2 : decide ((2000 : Int) < (sz : Int) + 4) = false := by rw [decide_eq_false_iff_not]; omega
          clear hq0
          clear hbig hL hszd hszz
          go_wp2_with fail
          refine (HSZ.out _ (HWR.out.alloc HWR.out.size _)).mono ?_
          rintro e w21 ⟨rfl, hb21⟩
          have hs21 := hb21.size
          simp only [World.size_alloc] at hs21
          have HB15 := Lib.hid (show TermAt w21 pq0.to.heap.size p B1 m d1 from TermAt.below (TermAt.new pq0.to p B1 m d1 24) hb21 (by simp))
          have HX := Lib.hid ((HX.out.alloc HX.out.size _).trans (hb21.mono (HX.out.alloc HX.out.size _).size))
          have HWR := Lib.hid ((HWR.out.alloc HWR.out.size _).trans (hb21.mono (HWR.out.alloc HWR.out.size _).size))
          have h15 : pq0.to.heap.size < w21.heap.size := by omega
          clear hb21 hs21 d0' d1' d2' d3' t0 t1 t2 t3 g3 HSZ
          have e0 : ∀ q : Bw w21, q.to.cell? ⟨pq0.to.heap.size, 0, none⟩ = some (.int .i64 p.1) := fun q => (HB15.out.below q.ok h15).kind
          have e1 : ∀ q : Bw w21, q.to.cell? ⟨pq0.to.heap.size, 1, none⟩ = some (.int .i64 p.2.1) := fun q => (HB15.out.below q.ok h15).num
          have e2 : ∀ q : Bw w21, q.to.cell? ⟨pq0.to.heap.size, 2, none⟩ = some (.string p.2.2) := fun q => (HB15.out.below q.ok h15).name
          have e3 : ∀ q : Bw w21, q.to.cell? ⟨pq0.to.heap.size, 3, none⟩ = some (.slice B1 m d1) := fun q => (HB15.out.below q.ok h15).args
          have t0 : ∀ q : Bw w21, q.to.cell? ⟨w.heap.size, 0, none⟩ = some (.int .i64 p.1) := fun q => (HT5.out.below (HWR.out.trans (q.ok.mono HWR.out.size)) hwlt).kind
          have t1 : ∀ q : Bw w21, q.to.cell? ⟨w.heap.size, 1, none⟩ = some (.int .i64 p.2.1) := fun q => (HT5.out.below (HWR.out.trans (q.ok.mono HWR.out.size)) hwlt).num
          have t2 : ∀ q : Bw w21, q.to.cell? ⟨w.heap.size, 2, none⟩ = some (.string p.2.2) := fun q => (HT5.out.below (HWR.out.trans (q.ok.mono HWR.out.size)) hwlt).name
          have t3 : ∀ q : Bw w21, q.to.cell? ⟨w.heap.size, 3, none⟩ = some (.slice A m c) := fun q => (HT5.out.below (HWR.out.trans (q.ok.mono HWR.out.size)) hwlt).args
          have hS := fun q : Bw w21 => sameV_self p l HVB.out HM.out.symm (A := B1) (A' := A) (c := d1) (c' := c) (HM.out ▸ ((HD1.out.on (HX.out.trans (q.ok.mono HX.out.size)) h4lt).inn.mono fun b hb => hb.2.1)) ((HAR.out.below (HWR.out.trans (q.ok.mono HWR.out.size)) (Nat.le_refl _)).up (HWR.out.trans (q.ok.mono HWR.out.size)).size)
          go_wp2_with fail
          refine wp_region_bw hm11 (by kernel_rfl) ?_
          repeat (go_big_quiet_step (fail))
          go_big_quiet_step (exact calls_bw (hS _))
          repeat (go_big_quiet_step (fail))
          refine wpQuiet_nil ?_
          intro _ hw'
          obtain ⟨pz, hw''⟩ := hw'
          subst hw''
          clear e0 e1 e2 e3 t0 t1 t2 t3 hS
          go_wp2_with fail
          have HX := Lib.hid (HX.out.trans (pz.ok.mono HX.out.size))
          have HWR := Lib.hid (HWR.out.trans (pz.ok.mono HWR.out.size))
          have HB15 := Lib.hid (HB15.out.below pz.ok h15)
          have h15 : pq0.to.heap.size < pz.to.heap.size := Nat.lt_of_lt_of_le h15 pz.ok.size
          have h6lt : b6 < w11.heap.size := HS6.out.1.2.1
          have h6n : b6 < w8.heap.size := HS6.out.2
          have h6w : wr.heap.size ≤ b6 := HS6.out.1.1
          have h811 := HRD.out.n8l
          have h11c : w11.heap.size ≤ pq0.to.heap.size := h11c
          refine sh24_walk (by kernel_rfl) s0 s1 1 r b1 o c' b6 o6 2 c1 pz.to (by omega) (Nat.lt_of_lt_of_le HRD.out.rlt HX.out.size) (Nat.lt_of_lt_of_le HRD.out.blt HX.out.size) (HRD.out.on HX.out).made.args (HRD.out.on HX.out).k3 rfl (Nat.lt_of_lt_of_le h6lt HX.out.size) (HF6.out.on HX.out h6lt) (HS6.out.1.2.2.same (HX.out.block _ h6lt)) ?_
          intro u w25 hbl hbk hsz25
          have HWR := Lib.hid (HWR.out.trans (hbl _ h6w HWR.out.size))
          have HB15 := Lib.hid (HB15.out.same (hbk pq0.to.heap.size h15 (by omega)))
          have h15 : pq0.to.heap.size < w25.heap.size := Nat.lt_of_lt_of_le h15 hsz25
          have HSE := Lib.hid (fun W (hb : Below wr.heap.size wr W) => sameV_self p l HVB.out HM.out.symm (A := A) (A' := A2) (c := c) (c' := c2) ((HAR.out.below hb (Nat.le_refl _)).up hb.size) ((HAW.out.below hb (Nat.le_refl _)).up hb.size))
          by_cases hm0 : m = 0
          · subst hm0
            have e3 : w25.cell? ⟨pq0.to.heap.size, 3, none⟩ = some (.slice B1 0 d1) := HB15.out.args
            have t0 : w25.cell? ⟨w.heap.size, 0, none⟩ = some (.int .i64 p.1) := (HT5.out.below HWR.out hwlt).kind
            have t1 : w25.cell? ⟨w.heap.size, 1, none⟩ = some (.int .i64 p.2.1) := (HT5.out.below HWR.out hwlt).num
            have t2 : w25.cell? ⟨w.heap.size, 2, none⟩ = some (.string p.2.2) := (HT5.out.below HWR.out hwlt).name
            have t3 : w25.cell? ⟨w.heap.size, 3, none⟩ = some (.slice A 0 c) := (HT5.out.below HWR.out hwlt).args
            have s0' : w25.cell? ⟨w2.heap.size, 0, none⟩ = some (.int .i64 p.1) := (HTW.out.below HWR.out hsz).kind
            have s1' : w25.cell? ⟨w2.heap.size, 1, none⟩ = some (.int .i64 p.2.1) := (HTW.out.below HWR.out hsz).num
            have s2' : w25.cell? ⟨w2.heap.size, 2, none⟩ = some (.string p.2.2) := (HTW.out.below HWR.out hsz).name
            have s3' : w25.cell? ⟨w2.heap.size, 3, none⟩ = some (.slice A2 0 c2) := (HTW.out.below HWR.out hsz).args
            go_wp2_with fail
            refine (HSE.out _ HWR.out).mono ?_
            rintro e w28 ⟨rfl, hb28⟩
            have HWR := Lib.hid (HWR.out.trans (hb28.mono HWR.out.size))
            go_wp2_with fail
            exact ⟨⟨2, by omega, rfl, HBR.out.trans (HWR.out.mono HBR.out.size), HT5.out.below HWR.out hwlt, HTW.out.below HWR.out hsz, Nat.lt_of_lt_of_le hsz HWR.out.size, (HAR.out.below HWR.out (Nat.le_refl _)).up HWR.out.size, (HAW.out.below HWR.out (Nat.le_refl _)).up HWR.out.size⟩, by simp [intOf]⟩
          · have hmp : 0 < m := by omega
            have hmq : (0 : Int) < (m : Int) := by omega
            have hml : 0 < Tm.len l := by rw [← HM.out]; exact hmp
            obtain ⟨b7, o7, p7, l7, r7, C7, f7, eB, hS7, _, hd7⟩ := (HD1.out.on HX.out h4lt).inn.at (k := 0) hml
            subst eB
            have h7lt : b7 < pz.to.heap.size := hS7.2.1
            have h7n : w8.heap.size ≤ b7 := hS7.1
            have hne : b7 ≠ b6 := by omega
            have hk7 := hbk b7 h7lt hne
            have hf7 := hS7.2.2.same hk7
            have x0 : w25.cell? ⟨b7, o7, none⟩ = some (.int .i64 p7.1) := (cell_of_block (p := ⟨b7, o7, none⟩) hk7).trans hd7.kind
            have x1 : w25.cell? ⟨b7, o7 + 1, none⟩ = some (.int .i64 p7.2.1) := (cell_of_block (p := ⟨b7, o7 + 1, none⟩) hk7).trans hd7.num
            have x2 : w25.cell? ⟨b7, o7 + 2, none⟩ = some (.string p7.2.2) := (cell_of_block (p := ⟨b7, o7 + 2, none⟩) hk7).trans hd7.name
            have x3 : w25.cell? ⟨b7, o7 + 3, none⟩ = some (.slice C7 (Tm.len l7) f7) := (cell_of_block (p := ⟨b7, o7 + 3, none⟩) hk7).trans hd7.args
            have z0 : w25.frozen? ⟨b7, o7, none⟩ = false := hf7 o7
            have z1 : w25.frozen? ⟨b7, o7 + 1, none⟩ = false := hf7 (o7 + 1)
            have z2 : w25.frozen? ⟨b7, o7 + 2, none⟩ = false := hf7 (o7 + 2)
            have z3 : w25.frozen? ⟨b7, o7 + 3, none⟩ = false := hf7 (o7 + 3)
            have hn1 : ¬ w.heap.size = b7 := by omega
            have hn2 : ¬ w2.heap.size = b7 := by omega
            have hn3 : ¬ b7 = w.heap.size := by omega
            have hn4 : ¬ b7 = w2.heap.size := by omega
            clear hd7 hS7 hk7 hf7
            have e3 : w25.cell? ⟨pq0.to.heap.size, 3, none⟩ = some (.slice (some ⟨b7, o7, none⟩) m d1) := HB15.out.args
            have t0 : w25.cell? ⟨w.heap.size, 0, none⟩ = some (.int .i64 p.1) := (HT5.out.below HWR.out hwlt).kind
            have t1 : w25.cell? ⟨w.heap.size, 1, none⟩ = some (.int .i64 p.2.1) := (HT5.out.below HWR.out hwlt).num
            have t2 : w25.cell? ⟨w.heap.size, 2, none⟩ = some (.string p.2.2) := (HT5.out.below HWR.out hwlt).name
            have t3 : w25.cell? ⟨w.heap.size, 3, none⟩ = some (.slice A m c) := (HT5.out.below HWR.out hwlt).args
            have s0' : w25.cell? ⟨w2.heap.size, 0, none⟩ = some (.int .i64 p.1) := (HTW.out.below HWR.out hsz).kind
            have s1' : w25.cell? ⟨w2.heap.size, 1, none⟩ = some (.int .i64 p.2.1) := (HTW.out.below HWR.out hsz).num
            have s2' : w25.cell? ⟨w2.heap.size, 2, none⟩ = some (.string p.2.2) := (HTW.out.below HWR.out hsz).name
            have s3' : w25.cell? ⟨w2.heap.size, 3, none⟩ = some (.slice A2 m c2) := (HTW.out.below HWR.out hsz).args
            go_wp2_with fail
            have hend : Below wr.heap.size wr (set4 w25 b7 o7 (7, 0, ByteArray.empty) none 0 0) := below_set4 HWR.out (by omega)
            have HEND := Lib.hid hend
            clear hend
            refine (HSE.out _ HEND.out).mono ?_
            rintro e w28 ⟨rfl, hb28⟩
            have HWR := Lib.hid (HEND.out.trans (hb28.mono HEND.out.size))
            go_wp2_with fail
            exact ⟨⟨2, by omega, rfl, HBR.out.trans (HWR.out.mono HBR.out.size), HT5.out.below HWR.out hwlt, HTW.out.below HWR.out hsz, Nat.lt_of_lt_of_le hsz HWR.out.size, (HAR.out.below HWR.out (Nat.le_refl _)).up HWR.out.size, (HAW.out.below HWR.out (Nat.le_refl _)).up HWR.out.size⟩, by simp [intOf]⟩
      · clear hk hlt
        go_wp2_with (simp only [ixs2])
        refine sh8_walk (by kernel_rfl) s0 s1 p l A m c 2 w.heap.size (Bl.EE Bl.domN [s0] (Bl.lastOf 1 p l)) HM.out (Bl.q2 s0 s1 HS0.out HVB.out) rfl HT5.out (by omega) HAR.out ?_
        intro r A' c' u w8 hb8 hr hr8 ht8 ha8
        have hFO := formal_call (c' := c') (ks := [s0]) (n := 1) rfl (by decide) (by simp) (fun k h => by simp at h; subst h; exact HS0.out) HVB.out (ha8.mono fun b hb => hb.1.2.1)
        have HVL := Lib.hid (Bl.last_valid (n := 1) HVB.out)
        have HVE := Lib.hid (Bl.EE_valid (s := Bl.domN) (ks := [s0]) (by decide) (by simp) (fun k h => by simp at h; subst h; exact HS0.out) HVB.out)
        generalize hLL : Bl.lastOf 1 p l = L at hFO HVL HVE ht8 ha8
        obtain ⟨Lp, Ll⟩ := L
        have HLL := Lib.hid hLL
        clear hLL
        have HZ := Lib.hid (four_below w8)
        have x0 : ∀ o1 o2 o3 o4, ((((w8.alloc o1).alloc o2).alloc o3).alloc o4).cell? ⟨r, 0, none⟩ = some (.int .i64 3) := fun o1 o2 o3 o4 => ((HZ.out o1 o2 o3 o4).cell (p := ⟨r, 0, none⟩) hr8).trans ht8.kind
        have x1 : ∀ o1 o2 o3 o4, ((((w8.alloc o1).alloc o2).alloc o3).alloc o4).cell? ⟨r, 1, none⟩ = some (.int .i64 0) := fun o1 o2 o3 o4 => ((HZ.out o1 o2 o3 o4).cell (p := ⟨r, 1, none⟩) hr8).trans ht8.num
        have x2 : ∀ o1 o2 o3 o4, ((((w8.alloc o1).alloc o2).alloc o3).alloc o4).cell? ⟨r, 2, none⟩ = some (.string Tm.errName) := fun o1 o2 o3 o4 => ((HZ.out o1 o2 o3 o4).cell (p := ⟨r, 2, none⟩) hr8).trans ht8.name
        have x3 : ∀ o1 o2 o3 o4, ((((w8.alloc o1).alloc o2).alloc o3).alloc o4).cell? ⟨r, 3, none⟩ = some (.slice A' 2 c') := fun o1 o2 o3 o4 => ((HZ.out o1 o2 o3 o4).cell (p := ⟨r, 3, none⟩) hr8).trans ht8.args
        have HFO := Lib.hid hFO
        have HT8 := Lib.hid ht8
        have HA8 := Lib.hid ha8
        clear hFO ht8 ha8
        go_wp2_with (simp only [ixr2])
        refine (HFO.out _ ?_).mono ?_
        · exact HZ.out _ _ _ _
        rintro e w10 ⟨A4, c4, rfl, ha4, hb10⟩
        have hmk := Rd.mk0 (c4 := c4) (n1 := 2) (by simp [Bl.namesF_len]) hr8 (HZ.out _ _ _ _) hb10 HT8.out HA8.out ha4 rfl
        obtain ⟨b1, o, A1, c1, A3, c3, rfl, hrd⟩ := hmk
        have HRD := Lib.hid hrd
        have HB10 := Lib.hid (hb8.trans (((HZ.out _ _ _ _).trans (hb10.mono (HZ.out _ _ _ _).size)).mono hb8.size))
        have HN0 := Lib.hid (show w10.cell? ⟨w8.heap.size + 1, 0, none⟩ = some (.string s0) from (hb10.cell (p := ⟨w8.heap.size + 1, 0, none⟩) (by simp; try omega)).trans (four_cells1 w8 _ _ _ _ _ _ _ _ 0))
        have hnlt : w8.heap.size + 1 < w10.heap.size := by have := hb10.size; simp at this; omega
        clear hrd hb10 ha4 x0 x1 x2 x3
        try simp only [Nat.zero_add, Nat.reduceAdd]
        go_wp2_with fail
        refine at_world (P := fun x => Code.wp _ _ _ _ x) _ ?_
        intro w11 hw11
        have hrd := HRD.out
        rw [← hw11] at hrd
        have HRD := Lib.hid hrd
        have HB11 := Lib.hid (show Below wr.heap.size wr w11 by rw [hw11]; exact HB10.out.alloc HB10.out.size _)
        have hb11 : Below w10.heap.size w10 w11 := by rw [hw11]; exact box_below _ _
        have HN0 := Lib.hid (show w11.cell? ⟨w8.heap.size + 1, 0, none⟩ = some (.string s0) from (hb11.cell (p := ⟨w8.heap.size + 1, 0, none⟩) hnlt).trans HN0.out)
        have hnlt : w8.heap.size + 1 < w11.heap.size := Nat.lt_of_lt_of_le hnlt hb11.size
        obtain ⟨b4, o4, B0, d0, B1, d1, rfl, hS4, hd0, hd1⟩ := two_at hrd.a4
        have HD0 := Lib.hid hd0
        have HD1 := Lib.hid hd1
        obtain ⟨b6, o6, C0, f0, C1, f1, rfl, hS6, he0, he1⟩ := two_at hrd.a1
        have HF6 := Lib.hid (show Four w11 b6 (o6 + 1 * 4) from he1.four)
        have HS6 := Lib.hid hS6
        have HRD := Lib.hid hrd
        clear hrd hw11 HB10 hb11 hS6 hd0 he0 hd1 he1
        have h4lt : b4 < w11.heap.size := hS4.2.1
        have HFV := Lib.hid (show Tm.validB (3, 0, Bl.domN) (Bl.namesF [s0] Lp Ll) = true from Bl.valid_arg0 HVE.out rfl)
        have z0 : ∀ q : Bw w11, q.to.cell? ⟨r, 0, none⟩ = some (.int .i64 3) := fun q => (HRD.out.on q.ok).made.kind
        have z1 : ∀ q : Bw w11, q.to.cell? ⟨r, 1, none⟩ = some (.int .i64 0) := fun q => (HRD.out.on q.ok).made.num
        have z2 : ∀ q : Bw w11, q.to.cell? ⟨r, 2, none⟩ = some (.string ⟨#[101, 114, 114, 111, 114]⟩) := fun q => (HRD.out.on q.ok).made.name
        have z3 : ∀ q : Bw w11, q.to.cell? ⟨r, 3, none⟩ = some (.slice (some ⟨b1, o, none⟩) 2 c') := fun q => (HRD.out.on q.ok).made.args
        have k0 : ∀ q : Bw w11, q.to.cell? ⟨b1, o, none⟩ = some (.int .i64 3) := fun q => (HRD.out.on q.ok).k0
        have k1 : ∀ q : Bw w11, q.to.cell? ⟨b1, o + 1, none⟩ = some (.int .i64 0) := fun q => (HRD.out.on q.ok).k1
        have k2 : ∀ q : Bw w11, q.to.cell? ⟨b1, o + 2, none⟩ = some (.string Bl.domN) := fun q => (HRD.out.on q.ok).k2
        have k3 : ∀ q : Bw w11, q.to.cell? ⟨b1, o + 3, none⟩ = some (.slice (some ⟨b6, o6, none⟩) 2 c1) := fun q => (HRD.out.on q.ok).k3
        have j0 : ∀ q : Bw w11, q.to.cell? ⟨b1, o + 4, none⟩ = some (.int .i64 2) := fun q => (HRD.out.on q.ok).j0
        have j1 : ∀ q : Bw w11, q.to.cell? ⟨b1, o + 4 + 1, none⟩ = some (.int .i64 0) := fun q => (HRD.out.on q.ok).j1
        have j2 : ∀ q : Bw w11, q.to.cell? ⟨b1, o + 4 + 2, none⟩ = some (.string ⟨#[91, 93]⟩) := fun q => (HRD.out.on q.ok).j2
        have j3 : ∀ q : Bw w11, q.to.cell? ⟨b1, o + 4 + 3, none⟩ = some (.slice A3 0 c3) := fun q => (HRD.out.on q.ok).j3
        have g0 : ∀ q : Bw w11, q.to.cell? ⟨w10.heap.size, 0, none⟩ = some (.int .i64 3) := fun q => (HRD.out.on q.ok).box.kind
        have g1 : ∀ q : Bw w11, q.to.cell? ⟨w10.heap.size, 1, none⟩ = some (.int .i64 0) := fun q => (HRD.out.on q.ok).box.num
        have g2 : ∀ q : Bw w11, q.to.cell? ⟨w10.heap.size, 2, none⟩ = some (.string Bl.domN) := fun q => (HRD.out.on q.ok).box.name
        have g3 : ∀ q : Bw w11, q.to.cell? ⟨w10.heap.size, 3, none⟩ = some (.slice (some ⟨b4, o4, none⟩) 2 c4) := fun q => (HRD.out.on q.ok).box.args
        have hV := fun q : Bw w11 => valid_self (3, 0, Tm.errName) _ HVE.out rfl (c := c') (HRD.out.on q.ok).am
        have hS1 := fun q : Bw w11 => sameV_self (3, 0, Bl.domN) (Bl.namesF [s0] Lp Ll) (n := 2) HFV.out (by simp [Bl.namesF_len]) (c := c1) (c' := c4) ((HRD.out.on q.ok).a1.mono fun b hb => hb.1.2.1) ((HRD.out.on q.ok).a4.mono fun b hb => hb.2.1)
        have hX := fun q : Bw w11 => a_any ⟨#[91, 93]⟩ q.to
        have hS2 := fun q : Bw w11 => sameV_self (2, 0, ⟨#[91, 93]⟩) .nil (by kernel_rfl) rfl (A := A3) (A' := none) (c := c3) (c' := 0) (ArgsIn.nil _ q.to _) (ArgsIn.nil _ q.to _)
        refine wp_region_bw hm11 (by kernel_rfl) ?_
        repeat (go_big_quiet_step (fail))
        go_big_quiet_step (exact calls_bw (hV _))
        repeat (go_big_quiet_step (fail))
        go_big_quiet_step (exact calls_bw (hS1 _))
        repeat (go_big_quiet_step (fail))
        go_big_quiet_step (exact calls_bw (hX _))
        repeat (go_big_quiet_step (fail))
        go_big_quiet_step (exact calls_bw (hS2 _))
        repeat (go_big_quiet_step (fail))
        refine wpQuiet_nil ?_
        intro _ hw'
        obtain ⟨pq, hw''⟩ := hw'
        subst hw''
        have HX := Lib.hid pq.ok
        clear z0 z1 z2 z3 k0 k1 k2 k3 j0 j1 j2 j3 g0 g1 g2 g3 hV hS1 hX hS2
        have g2 : pq.to.cell? ⟨w10.heap.size, 2, none⟩ = some (.string ⟨#[100, 111, 109, 97, 105, 110, 95, 101, 114, 114, 111, 114]⟩) := (HRD.out.on HX.out).box.name
        have g3 : pq.to.cell? ⟨w10.heap.size, 3, none⟩ = some (.slice (some ⟨b4, o4, none⟩) 2 c4) := (HRD.out.on HX.out).box.args
        go_wp2_with fail
        refine wp_loop_rounds 2 ?_
        rw [rounds_succ]
        go_wp2_with fail
        clear g2 g3
        have g3 : ∀ q : Bw pq.to, q.to.cell? ⟨w10.heap.size, 3, none⟩ = some (.slice (some ⟨b4, o4, none⟩) 2 c4) := fun q => (HRD.out.on (HX.out.trans (q.ok.mono HX.out.size))).box.args
        have nm : ∀ q : Bw pq.to, q.to.cell? ⟨w8.heap.size + 1, 0, none⟩ = some (.string s0) := fun q => ((HX.out.trans (q.ok.mono HX.out.size)).cell (p := ⟨w8.heap.size + 1, 0, none⟩) hnlt).trans HN0.out
        have dx0 : ∀ q : Bw pq.to, q.to.cell? ⟨b4, o4, none⟩ = some (.int .i64 2) := fun q => (HD0.out.on (HX.out.trans (q.ok.mono HX.out.size)) h4lt).kind
        have dx1 : ∀ q : Bw pq.to, q.to.cell? ⟨b4, o4 + 1, none⟩ = some (.int .i64 0) := fun q => (HD0.out.on (HX.out.trans (q.ok.mono HX.out.size)) h4lt).num
        have dx2 : ∀ q : Bw pq.to, q.to.cell? ⟨b4, o4 + 2, none⟩ = some (.string s0) := fun q => (HD0.out.on (HX.out.trans (q.ok.mono HX.out.size)) h4lt).name
        have dx3 : ∀ q : Bw pq.to, q.to.cell? ⟨b4, o4 + 3, none⟩ = some (.slice B0 0 d0) := fun q => (HD0.out.on (HX.out.trans (q.ok.mono HX.out.size)) h4lt).args
        have hX := fun q : Bw pq.to => a_any s0 q.to
        have hS := fun q : Bw pq.to => sameV_self (2, 0, s0) .nil (Bl.name_valid HS0.out) rfl (A := B0) (A' := none) (c := d0) (c' := 0) (ArgsIn.nil _ q.to _) (ArgsIn.nil _ q.to _)
        refine wp_region_bw hm11 (by kernel_rfl) ?_
        repeat (go_big_quiet_step (fail))
        go_big_quiet_step (exact calls_bw (hX _))
        repeat (go_big_quiet_step (fail))
        go_big_quiet_step (exact calls_bw (hS _))
        repeat (go_big_quiet_step (fail))
        refine wpQuiet_nil ?_
        intro _ hw'
        obtain ⟨pq0, hw''⟩ := hw'
        subst hw''
        have HX := Lib.hid (HX.out.trans (pq0.ok.mono HX.out.size))
        clear g3 nm dx0 dx1 dx2 dx3 hX hS
        go_wp2_with fail
        rw [rounds_succ]
        have g3 : pq0.to.cell? ⟨w10.heap.size, 3, none⟩ = some (.slice (some ⟨b4, o4, none⟩) 2 c4) := (HRD.out.on HX.out).box.args
        have HWR := Lib.hid (HB11.out.trans (HX.out.mono HB11.out.size))
        have hwlt : w.heap.size < wr.heap.size := by omega
        have h11c : w11.heap.size ≤ pq0.to.heap.size := HX.out.size
        have HSZ := Lib.hid (fun W (hb : Below wr.heap.size wr W) => rsize_any p l A c wr.heap.size W (HM.out ▸ HAR.out.below hb (Nat.le_refl _)) hb.size)
        rw [← HM.out] at HSZ
        obtain ⟨sz, hszz⟩ : ∃ sz, sz = Tm.sizeB l := ⟨_, rfl⟩
        rw [← hszz] at HSZ
        have hsz1 : sz ≤ 2001 := by rw [hszz]; unfold Tm.sizeB; omega
        have hszd : (2000 < 1 + Tm.size l + 3 + 1) ↔ 2000 < sz + 3 + 1 := by rw [hszz]; unfold Tm.sizeB; omega
        have t0 : ∀ o, (pq0.to.alloc o).cell? ⟨w.heap.size, 0, none⟩ = some (.int .i64 p.1) := fun o => (HT5.out.below (HWR.out.alloc HWR.out.size o) hwlt).kind
        have t1 : ∀ o, (pq0.to.alloc o).cell? ⟨w.heap.size, 1, none⟩ = some (.int .i64 p.2.1) := fun o => (HT5.out.below (HWR.out.alloc HWR.out.size o) hwlt).num
        have t2 : ∀ o, (pq0.to.alloc o).cell? ⟨w.heap.size, 2, none⟩ = some (.string p.2.2) := fun o => (HT5.out.below (HWR.out.alloc HWR.out.size o) hwlt).name
        have t3 : ∀ o, (pq0.to.alloc o).cell? ⟨w.heap.size, 3, none⟩ = some (.slice A m c) := fun o => (HT5.out.below (HWR.out.alloc HWR.out.size o) hwlt).args
        by_cases hbig : 2000 < 1 + Tm.size l + 3 + 1
        · have hL := last_big HLL.out hbig
          obtain ⟨rfl, rfl⟩ := Prod.mk.inj hL
          have d0' : pq0.to.cell? ⟨b4, o4 + 4, none⟩ = some (.int .i64 2) := (HD1.out.on HX.out h4lt).kind
          have d1' : pq0.to.cell? ⟨b4, o4 + 4 + 1, none⟩ = some (.int .i64 0) := (HD1.out.on HX.out h4lt).num
          have d2' : pq0.to.cell? ⟨b4, o4 + 4 + 2, none⟩ = some (.string ⟨#[46, 46, 46]⟩) := (HD1.out.on HX.out h4lt).name
          have d3' : pq0.to.cell? ⟨b4, o4 + 4 + 3, none⟩ = some (.slice B1 0 d1) := (HD1.out.on HX.out h4lt).args
          have hq0 : (2000 : Int) < (sz : Int) + 3 + 1 := by have := hszd.1 hbig; omega
          have q1 : (2000 : Int) < (sz : Int) + 3 + 1 := by omega
          have q2 : (2000 : Int) < (sz : Int) + 4 := by omega
          clear hq0
          clear hbig hL hszd hszz
          go_wp2_with fail
          refine (HSZ.out _ (HWR.out.alloc HWR.out.size _)).mono ?_
          rintro e w21 ⟨rfl, hb21⟩
          have hs21 := hb21.size
          simp only [World.size_alloc] at hs21
          have HB15 := Lib.hid (show TermAt w21 pq0.to.heap.size Tm.dots B1 0 d1 from TermAt.below (TermAt.new pq0.to Tm.dots B1 0 d1 24) hb21 (by simp))
          have HX := Lib.hid ((HX.out.alloc HX.out.size _).trans (hb21.mono (HX.out.alloc HX.out.size _).size))
          have HWR := Lib.hid ((HWR.out.alloc HWR.out.size _).trans (hb21.mono (HWR.out.alloc HWR.out.size _).size))
          have h15 : pq0.to.heap.size < w21.heap.size := by omega
          clear hb21 hs21 d0' d1' d2' d3' t0 t1 t2 t3 g3 HSZ
          have e0 : ∀ q : Bw w21, q.to.cell? ⟨pq0.to.heap.size, 0, none⟩ = some (.int .i64 2) := fun q => (HB15.out.below q.ok h15).kind
          have e1 : ∀ q : Bw w21, q.to.cell? ⟨pq0.to.heap.size, 1, none⟩ = some (.int .i64 0) := fun q => (HB15.out.below q.ok h15).num
          have e2 : ∀ q : Bw w21, q.to.cell? ⟨pq0.to.heap.size, 2, none⟩ = some (.string ⟨#[46, 46, 46]⟩) := fun q => (HB15.out.below q.ok h15).name
          have e3 : ∀ q : Bw w21, q.to.cell? ⟨pq0.to.heap.size, 3, none⟩ = some (.slice B1 0 d1) := fun q => (HB15.out.below q.ok h15).args
          have t0 : ∀ q : Bw w21, q.to.cell? ⟨w.heap.size, 0, none⟩ = some (.int .i64 p.1) := fun q => (HT5.out.below (HWR.out.trans (q.ok.mono HWR.out.size)) hwlt).kind
          have t1 : ∀ q : Bw w21, q.to.cell? ⟨w.heap.size, 1, none⟩ = some (.int .i64 p.2.1) := fun q => (HT5.out.below (HWR.out.trans (q.ok.mono HWR.out.size)) hwlt).num
          have t2 : ∀ q : Bw w21, q.to.cell? ⟨w.heap.size, 2, none⟩ = some (.string p.2.2) := fun q => (HT5.out.below (HWR.out.trans (q.ok.mono HWR.out.size)) hwlt).name
          have t3 : ∀ q : Bw w21, q.to.cell? ⟨w.heap.size, 3, none⟩ = some (.slice A m c) := fun q => (HT5.out.below (HWR.out.trans (q.ok.mono HWR.out.size)) hwlt).args
          have hX := fun q : Bw w21 => a_any ⟨#[46, 46, 46]⟩ q.to
          have hS := fun q : Bw w21 => sameV_self (2, 0, ⟨#[46, 46, 46]⟩) .nil (by kernel_rfl) rfl (A := B1) (A' := none) (c := d1) (c' := 0) (ArgsIn.nil _ q.to _) (ArgsIn.nil _ q.to _)
          go_wp2_with fail
          refine wp_region_bw hm11 (by kernel_rfl) ?_
          repeat (go_big_quiet_step (fail))
          go_big_quiet_step (exact calls_bw (hX _))
          repeat (go_big_quiet_step (fail))
          go_big_quiet_step (exact calls_bw (hS _))
          repeat (go_big_quiet_step (fail))
          refine wpQuiet_nil ?_
          intro _ hw'
          obtain ⟨pz, hw''⟩ := hw'
          subst hw''
          clear e0 e1 e2 e3 t0 t1 t2 t3 hS hX
          go_wp2_with fail
          have HX := Lib.hid (HX.out.trans (pz.ok.mono HX.out.size))
          have HWR := Lib.hid (HWR.out.trans (pz.ok.mono HWR.out.size))
          have HB15 := Lib.hid (HB15.out.below pz.ok h15)
          have h15 : pq0.to.heap.size < pz.to.heap.size := Nat.lt_of_lt_of_le h15 pz.ok.size
          have h6lt : b6 < w11.heap.size := HS6.out.1.2.1
          have h6n : b6 < w8.heap.size := HS6.out.2
          have h6w : wr.heap.size ≤ b6 := HS6.out.1.1
          have h811 := HRD.out.n8l
          have h11c : w11.heap.size ≤ pq0.to.heap.size := h11c
          refine sh24_walk (by kernel_rfl) s0 s1 1 r b1 o c' b6 o6 2 c1 pz.to (by omega) (Nat.lt_of_lt_of_le HRD.out.rlt HX.out.size) (Nat.lt_of_lt_of_le HRD.out.blt HX.out.size) (HRD.out.on HX.out).made.args (HRD.out.on HX.out).k3 rfl (Nat.lt_of_lt_of_le h6lt HX.out.size) (HF6.out.on HX.out h6lt) (HS6.out.1.2.2.same (HX.out.block _ h6lt)) ?_
          intro u w25 hbl hbk hsz25
          have HWR := Lib.hid (HWR.out.trans (hbl _ h6w HWR.out.size))
          have HB15 := Lib.hid (HB15.out.same (hbk pq0.to.heap.size h15 (by omega)))
          have h15 : pq0.to.heap.size < w25.heap.size := Nat.lt_of_lt_of_le h15 hsz25
          have HSE := Lib.hid (fun W (hb : Below wr.heap.size wr W) => sameV_self p l HVB.out HM.out.symm (A := A) (A' := A2) (c := c) (c' := c2) ((HAR.out.below hb (Nat.le_refl _)).up hb.size) ((HAW.out.below hb (Nat.le_refl _)).up hb.size))
          have e3 : w25.cell? ⟨pq0.to.heap.size, 3, none⟩ = some (.slice B1 0 d1) := HB15.out.args
          have t0 : w25.cell? ⟨w.heap.size, 0, none⟩ = some (.int .i64 p.1) := (HT5.out.below HWR.out hwlt).kind
          have t1 : w25.cell? ⟨w.heap.size, 1, none⟩ = some (.int .i64 p.2.1) := (HT5.out.below HWR.out hwlt).num
          have t2 : w25.cell? ⟨w.heap.size, 2, none⟩ = some (.string p.2.2) := (HT5.out.below HWR.out hwlt).name
          have t3 : w25.cell? ⟨w.heap.size, 3, none⟩ = some (.slice A m c) := (HT5.out.below HWR.out hwlt).args
          have s0' : w25.cell? ⟨w2.heap.size, 0, none⟩ = some (.int .i64 p.1) := (HTW.out.below HWR.out hsz).kind
          have s1' : w25.cell? ⟨w2.heap.size, 1, none⟩ = some (.int .i64 p.2.1) := (HTW.out.below HWR.out hsz).num
          have s2' : w25.cell? ⟨w2.heap.size, 2, none⟩ = some (.string p.2.2) := (HTW.out.below HWR.out hsz).name
          have s3' : w25.cell? ⟨w2.heap.size, 3, none⟩ = some (.slice A2 m c2) := (HTW.out.below HWR.out hsz).args
          go_wp2_with fail
          refine (HSE.out _ HWR.out).mono ?_
          rintro e w28 ⟨rfl, hb28⟩
          have HWR := Lib.hid (HWR.out.trans (hb28.mono HWR.out.size))
          go_wp2_with fail
          exact ⟨⟨3, by omega, rfl, HBR.out.trans (HWR.out.mono HBR.out.size), HT5.out.below HWR.out hwlt, HTW.out.below HWR.out hsz, Nat.lt_of_lt_of_le hsz HWR.out.size, (HAR.out.below HWR.out (Nat.le_refl _)).up HWR.out.size, (HAW.out.below HWR.out (Nat.le_refl _)).up HWR.out.size⟩, by simp [intOf]⟩
        · have hL := last_small HLL.out hbig
          obtain ⟨e1, e2⟩ := Prod.mk.inj hL
          replace e1 := e1.symm
          replace e2 := e2.symm
          subst e1 e2
          have d0' : pq0.to.cell? ⟨b4, o4 + 4, none⟩ = some (.int .i64 p.1) := (HD1.out.on HX.out h4lt).kind
          have d1' : pq0.to.cell? ⟨b4, o4 + 4 + 1, none⟩ = some (.int .i64 p.2.1) := (HD1.out.on HX.out h4lt).num
          have d2' : pq0.to.cell? ⟨b4, o4 + 4 + 2, none⟩ = some (.string p.2.2) := (HD1.out.on HX.out h4lt).name
          have d3' : pq0.to.cell? ⟨b4, o4 + 4 + 3, none⟩ = some (.slice B1 m d1) := (HD1.out.on HX.out h4lt).args.trans (by rw [HM.out])
          have hq0 : ¬ (2000 : Int) < (sz : Int) + 3 + 1 := by have := hszd; omega
          have q1 : decide ((2000 : Int) < (sz : Int) + 3 + 1) = false := by rw [decide_eq_false_iff_not]; omega
          have q2 : decide ((2000 : Int) < (sz : Int) + 4) = false := by rw [decide_eq_false_iff_not]; omega
          clear hq0
          clear hbig hL hszd hszz
          go_wp2_with fail
          refine (HSZ.out _ (HWR.out.alloc HWR.out.size _)).mono ?_
          rintro e w21 ⟨rfl, hb21⟩
          have hs21 := hb21.size
          simp only [World.size_alloc] at hs21
          have HB15 := Lib.hid (show TermAt w21 pq0.to.heap.size p B1 m d1 from TermAt.below (TermAt.new pq0.to p B1 m d1 24) hb21 (by simp))
          have HX := Lib.hid ((HX.out.alloc HX.out.size _).trans (hb21.mono (HX.out.alloc HX.out.size _).size))
          have HWR := Lib.hid ((HWR.out.alloc HWR.out.size _).trans (hb21.mono (HWR.out.alloc HWR.out.size _).size))
          have h15 : pq0.to.heap.size < w21.heap.size := by omega
          clear hb21 hs21 d0' d1' d2' d3' t0 t1 t2 t3 g3 HSZ
          have e0 : ∀ q : Bw w21, q.to.cell? ⟨pq0.to.heap.size, 0, none⟩ = some (.int .i64 p.1) := fun q => (HB15.out.below q.ok h15).kind
          have e1 : ∀ q : Bw w21, q.to.cell? ⟨pq0.to.heap.size, 1, none⟩ = some (.int .i64 p.2.1) := fun q => (HB15.out.below q.ok h15).num
          have e2 : ∀ q : Bw w21, q.to.cell? ⟨pq0.to.heap.size, 2, none⟩ = some (.string p.2.2) := fun q => (HB15.out.below q.ok h15).name
          have e3 : ∀ q : Bw w21, q.to.cell? ⟨pq0.to.heap.size, 3, none⟩ = some (.slice B1 m d1) := fun q => (HB15.out.below q.ok h15).args
          have t0 : ∀ q : Bw w21, q.to.cell? ⟨w.heap.size, 0, none⟩ = some (.int .i64 p.1) := fun q => (HT5.out.below (HWR.out.trans (q.ok.mono HWR.out.size)) hwlt).kind
          have t1 : ∀ q : Bw w21, q.to.cell? ⟨w.heap.size, 1, none⟩ = some (.int .i64 p.2.1) := fun q => (HT5.out.below (HWR.out.trans (q.ok.mono HWR.out.size)) hwlt).num
          have t2 : ∀ q : Bw w21, q.to.cell? ⟨w.heap.size, 2, none⟩ = some (.string p.2.2) := fun q => (HT5.out.below (HWR.out.trans (q.ok.mono HWR.out.size)) hwlt).name
          have t3 : ∀ q : Bw w21, q.to.cell? ⟨w.heap.size, 3, none⟩ = some (.slice A m c) := fun q => (HT5.out.below (HWR.out.trans (q.ok.mono HWR.out.size)) hwlt).args
          have hS := fun q : Bw w21 => sameV_self p l HVB.out HM.out.symm (A := B1) (A' := A) (c := d1) (c' := c) (HM.out ▸ ((HD1.out.on (HX.out.trans (q.ok.mono HX.out.size)) h4lt).inn.mono fun b hb => hb.2.1)) ((HAR.out.below (HWR.out.trans (q.ok.mono HWR.out.size)) (Nat.le_refl _)).up (HWR.out.trans (q.ok.mono HWR.out.size)).size)
          go_wp2_with fail
          refine wp_region_bw hm11 (by kernel_rfl) ?_
          repeat (go_big_quiet_step (fail))
          go_big_quiet_step (exact calls_bw (hS _))
          repeat (go_big_quiet_step (fail))
          refine wpQuiet_nil ?_
          intro _ hw'
          obtain ⟨pz, hw''⟩ := hw'
          subst hw''
          clear e0 e1 e2 e3 t0 t1 t2 t3 hS
          go_wp2_with fail
          have HX := Lib.hid (HX.out.trans (pz.ok.mono HX.out.size))
          have HWR := Lib.hid (HWR.out.trans (pz.ok.mono HWR.out.size))
          have HB15 := Lib.hid (HB15.out.below pz.ok h15)
          have h15 : pq0.to.heap.size < pz.to.heap.size := Nat.lt_of_lt_of_le h15 pz.ok.size
          have h6lt : b6 < w11.heap.size := HS6.out.1.2.1
          have h6n : b6 < w8.heap.size := HS6.out.2
          have h6w : wr.heap.size ≤ b6 := HS6.out.1.1
          have h811 := HRD.out.n8l
          have h11c : w11.heap.size ≤ pq0.to.heap.size := h11c
          refine sh24_walk (by kernel_rfl) s0 s1 1 r b1 o c' b6 o6 2 c1 pz.to (by omega) (Nat.lt_of_lt_of_le HRD.out.rlt HX.out.size) (Nat.lt_of_lt_of_le HRD.out.blt HX.out.size) (HRD.out.on HX.out).made.args (HRD.out.on HX.out).k3 rfl (Nat.lt_of_lt_of_le h6lt HX.out.size) (HF6.out.on HX.out h6lt) (HS6.out.1.2.2.same (HX.out.block _ h6lt)) ?_
          intro u w25 hbl hbk hsz25
          have HWR := Lib.hid (HWR.out.trans (hbl _ h6w HWR.out.size))
          have HB15 := Lib.hid (HB15.out.same (hbk pq0.to.heap.size h15 (by omega)))
          have h15 : pq0.to.heap.size < w25.heap.size := Nat.lt_of_lt_of_le h15 hsz25
          have HSE := Lib.hid (fun W (hb : Below wr.heap.size wr W) => sameV_self p l HVB.out HM.out.symm (A := A) (A' := A2) (c := c) (c' := c2) ((HAR.out.below hb (Nat.le_refl _)).up hb.size) ((HAW.out.below hb (Nat.le_refl _)).up hb.size))
          by_cases hm0 : m = 0
          · subst hm0
            have e3 : w25.cell? ⟨pq0.to.heap.size, 3, none⟩ = some (.slice B1 0 d1) := HB15.out.args
            have t0 : w25.cell? ⟨w.heap.size, 0, none⟩ = some (.int .i64 p.1) := (HT5.out.below HWR.out hwlt).kind
            have t1 : w25.cell? ⟨w.heap.size, 1, none⟩ = some (.int .i64 p.2.1) := (HT5.out.below HWR.out hwlt).num
            have t2 : w25.cell? ⟨w.heap.size, 2, none⟩ = some (.string p.2.2) := (HT5.out.below HWR.out hwlt).name
            have t3 : w25.cell? ⟨w.heap.size, 3, none⟩ = some (.slice A 0 c) := (HT5.out.below HWR.out hwlt).args
            have s0' : w25.cell? ⟨w2.heap.size, 0, none⟩ = some (.int .i64 p.1) := (HTW.out.below HWR.out hsz).kind
            have s1' : w25.cell? ⟨w2.heap.size, 1, none⟩ = some (.int .i64 p.2.1) := (HTW.out.below HWR.out hsz).num
            have s2' : w25.cell? ⟨w2.heap.size, 2, none⟩ = some (.string p.2.2) := (HTW.out.below HWR.out hsz).name
            have s3' : w25.cell? ⟨w2.heap.size, 3, none⟩ = some (.slice A2 0 c2) := (HTW.out.below HWR.out hsz).args
            go_wp2_with fail
            refine (HSE.out _ HWR.out).mono ?_
            rintro e w28 ⟨rfl, hb28⟩
            have HWR := Lib.hid (HWR.out.trans (hb28.mono HWR.out.size))
            go_wp2_with fail
            exact ⟨⟨3, by omega, rfl, HBR.out.trans (HWR.out.mono HBR.out.size), HT5.out.below HWR.out hwlt, HTW.out.below HWR.out hsz, Nat.lt_of_lt_of_le hsz HWR.out.size, (HAR.out.below HWR.out (Nat.le_refl _)).up HWR.out.size, (HAW.out.below HWR.out (Nat.le_refl _)).up HWR.out.size⟩, by simp [intOf]⟩
          · have hmp : 0 < m := by omega
            have hmq : (0 : Int) < (m : Int) := by omega
            have hml : 0 < Tm.len l := by rw [← HM.out]; exact hmp
            obtain ⟨b7, o7, p7, l7, r7, C7, f7, eB, hS7, _, hd7⟩ := (HD1.out.on HX.out h4lt).inn.at (k := 0) hml
            subst eB
            have h7lt : b7 < pz.to.heap.size := hS7.2.1
            have h7n : w8.heap.size ≤ b7 := hS7.1
            have hne : b7 ≠ b6 := by omega
            have hk7 := hbk b7 h7lt hne
            have hf7 := hS7.2.2.same hk7
            have x0 : w25.cell? ⟨b7, o7, none⟩ = some (.int .i64 p7.1) := (cell_of_block (p := ⟨b7, o7, none⟩) hk7).trans hd7.kind
            have x1 : w25.cell? ⟨b7, o7 + 1, none⟩ = some (.int .i64 p7.2.1) := (cell_of_block (p := ⟨b7, o7 + 1, none⟩) hk7).trans hd7.num
            have x2 : w25.cell? ⟨b7, o7 + 2, none⟩ = some (.string p7.2.2) := (cell_of_block (p := ⟨b7, o7 + 2, none⟩) hk7).trans hd7.name
            have x3 : w25.cell? ⟨b7, o7 + 3, none⟩ = some (.slice C7 (Tm.len l7) f7) := (cell_of_block (p := ⟨b7, o7 + 3, none⟩) hk7).trans hd7.args
            have z0 : w25.frozen? ⟨b7, o7, none⟩ = false := hf7 o7
            have z1 : w25.frozen? ⟨b7, o7 + 1, none⟩ = false := hf7 (o7 + 1)
            have z2 : w25.frozen? ⟨b7, o7 + 2, none⟩ = false := hf7 (o7 + 2)
            have z3 : w25.frozen? ⟨b7, o7 + 3, none⟩ = false := hf7 (o7 + 3)
            have hn1 : ¬ w.heap.size = b7 := by omega
            have hn2 : ¬ w2.heap.size = b7 := by omega
            have hn3 : ¬ b7 = w.heap.size := by omega
            have hn4 : ¬ b7 = w2.heap.size := by omega
            clear hd7 hS7 hk7 hf7
            have e3 : w25.cell? ⟨pq0.to.heap.size, 3, none⟩ = some (.slice (some ⟨b7, o7, none⟩) m d1) := HB15.out.args
            have t0 : w25.cell? ⟨w.heap.size, 0, none⟩ = some (.int .i64 p.1) := (HT5.out.below HWR.out hwlt).kind
            have t1 : w25.cell? ⟨w.heap.size, 1, none⟩ = some (.int .i64 p.2.1) := (HT5.out.below HWR.out hwlt).num
            have t2 : w25.cell? ⟨w.heap.size, 2, none⟩ = some (.string p.2.2) := (HT5.out.below HWR.out hwlt).name
            have t3 : w25.cell? ⟨w.heap.size, 3, none⟩ = some (.slice A m c) := (HT5.out.below HWR.out hwlt).args
            have s0' : w25.cell? ⟨w2.heap.size, 0, none⟩ = some (.int .i64 p.1) := (HTW.out.below HWR.out hsz).kind
            have s1' : w25.cell? ⟨w2.heap.size, 1, none⟩ = some (.int .i64 p.2.1) := (HTW.out.below HWR.out hsz).num
            have s2' : w25.cell? ⟨w2.heap.size, 2, none⟩ = some (.string p.2.2) := (HTW.out.below HWR.out hsz).name
            have s3' : w25.cell? ⟨w2.heap.size, 3, none⟩ = some (.slice A2 m c2) := (HTW.out.below HWR.out hsz).args
            go_wp2_with fail
            have hend : Below wr.heap.size wr (set4 w25 b7 o7 (7, 0, ByteArray.empty) none 0 0) := below_set4 HWR.out (by omega)
            have HEND := Lib.hid hend
            clear hend
            refine (HSE.out _ HEND.out).mono ?_
            rintro e w28 ⟨rfl, hb28⟩
            have HWR := Lib.hid (HEND.out.trans (hb28.mono HEND.out.size))
            go_wp2_with fail
            exact ⟨⟨3, by omega, rfl, HBR.out.trans (HWR.out.mono HBR.out.size), HT5.out.below HWR.out hwlt, HTW.out.below HWR.out hsz, Nat.lt_of_lt_of_le hsz HWR.out.size, (HAR.out.below HWR.out (Nat.le_refl _)).up HWR.out.size, (HAW.out.below HWR.out (Nat.le_refl _)).up HWR.out.size⟩, by simp [intOf]⟩
      · clear hk hlt
        go_wp2_with (simp only [ixs3])
        refine sh8_walk (by kernel_rfl) s0 s1 p l A m c 3 w.heap.size (Bl.EE Bl.extN [s0] (Bl.lastOf 1 p l)) HM.out (Bl.q3 s0 s1 HS0.out HVB.out) rfl HT5.out (by omega) HAR.out ?_
        intro r A' c' u w8 hb8 hr hr8 ht8 ha8
        have hFO := formal_call (c' := c') (ks := [s0]) (n := 1) rfl (by decide) (by simp) (fun k h => by simp at h; subst h; exact HS0.out) HVB.out (ha8.mono fun b hb => hb.1.2.1)
        have HVL := Lib.hid (Bl.last_valid (n := 1) HVB.out)
        have HVE := Lib.hid (Bl.EE_valid (s := Bl.extN) (ks := [s0]) (by decide) (by simp) (fun k h => by simp at h; subst h; exact HS0.out) HVB.out)
        generalize hLL : Bl.lastOf 1 p l = L at hFO HVL HVE ht8 ha8
        obtain ⟨Lp, Ll⟩ := L
        have HLL := Lib.hid hLL
        clear hLL
        have HZ := Lib.hid (four_below w8)
        have x0 : ∀ o1 o2 o3 o4, ((((w8.alloc o1).alloc o2).alloc o3).alloc o4).cell? ⟨r, 0, none⟩ = some (.int .i64 3) := fun o1 o2 o3 o4 => ((HZ.out o1 o2 o3 o4).cell (p := ⟨r, 0, none⟩) hr8).trans ht8.kind
        have x1 : ∀ o1 o2 o3 o4, ((((w8.alloc o1).alloc o2).alloc o3).alloc o4).cell? ⟨r, 1, none⟩ = some (.int .i64 0) := fun o1 o2 o3 o4 => ((HZ.out o1 o2 o3 o4).cell (p := ⟨r, 1, none⟩) hr8).trans ht8.num
        have x2 : ∀ o1 o2 o3 o4, ((((w8.alloc o1).alloc o2).alloc o3).alloc o4).cell? ⟨r, 2, none⟩ = some (.string Tm.errName) := fun o1 o2 o3 o4 => ((HZ.out o1 o2 o3 o4).cell (p := ⟨r, 2, none⟩) hr8).trans ht8.name
        have x3 : ∀ o1 o2 o3 o4, ((((w8.alloc o1).alloc o2).alloc o3).alloc o4).cell? ⟨r, 3, none⟩ = some (.slice A' 2 c') := fun o1 o2 o3 o4 => ((HZ.out o1 o2 o3 o4).cell (p := ⟨r, 3, none⟩) hr8).trans ht8.args
        have HFO := Lib.hid hFO
        have HT8 := Lib.hid ht8
        have HA8 := Lib.hid ha8
        clear hFO ht8 ha8
        go_wp2_with (simp only [ixr3])
        refine (HFO.out _ ?_).mono ?_
        · exact HZ.out _ _ _ _
        rintro e w10 ⟨A4, c4, rfl, ha4, hb10⟩
        have hmk := Rd.mk0 (c4 := c4) (n1 := 2) (by simp [Bl.namesF_len]) hr8 (HZ.out _ _ _ _) hb10 HT8.out HA8.out ha4 rfl
        obtain ⟨b1, o, A1, c1, A3, c3, rfl, hrd⟩ := hmk
        have HRD := Lib.hid hrd
        have HB10 := Lib.hid (hb8.trans (((HZ.out _ _ _ _).trans (hb10.mono (HZ.out _ _ _ _).size)).mono hb8.size))
        have HN0 := Lib.hid (show w10.cell? ⟨w8.heap.size + 2, 0, none⟩ = some (.string s0) from (hb10.cell (p := ⟨w8.heap.size + 2, 0, none⟩) (by simp; try omega)).trans (four_cells2 w8 _ _ _ _ _ _ _ _ 0))
        have hnlt : w8.heap.size + 2 < w10.heap.size := by have := hb10.size; simp at this; omega
        clear hrd hb10 ha4 x0 x1 x2 x3
        try simp only [Nat.zero_add, Nat.reduceAdd]
        go_wp2_with fail
        refine at_world (P := fun x => Code.wp _ _ _ _ x) _ ?_
        intro w11 hw11
        have hrd := HRD.out
        rw [← hw11] at hrd
        have HRD := Lib.hid hrd
        have HB11 := Lib.hid (show Below wr.heap.size wr w11 by rw [hw11]; exact HB10.out.alloc HB10.out.size _)
        have hb11 : Below w10.heap.size w10 w11 := by rw [hw11]; exact box_below _ _
        have HN0 := Lib.hid (show w11.cell? ⟨w8.heap.size + 2, 0, none⟩ = some (.string s0) from (hb11.cell (p := ⟨w8.heap.size + 2, 0, none⟩) hnlt).trans HN0.out)
        have hnlt : w8.heap.size + 2 < w11.heap.size := Nat.lt_of_lt_of_le hnlt hb11.size
        obtain ⟨b4, o4, B0, d0, B1, d1, rfl, hS4, hd0, hd1⟩ := two_at hrd.a4
        have HD0 := Lib.hid hd0
        have HD1 := Lib.hid hd1
        obtain ⟨b6, o6, C0, f0, C1, f1, rfl, hS6, he0, he1⟩ := two_at hrd.a1
        have HF6 := Lib.hid (show Four w11 b6 (o6 + 1 * 4) from he1.four)
        have HS6 := Lib.hid hS6
        have HRD := Lib.hid hrd
        clear hrd hw11 HB10 hb11 hS6 hd0 he0 hd1 he1
        have h4lt : b4 < w11.heap.size := hS4.2.1
        have HFV := Lib.hid (show Tm.validB (3, 0, Bl.extN) (Bl.namesF [s0] Lp Ll) = true from Bl.valid_arg0 HVE.out rfl)
        have z0 : ∀ q : Bw w11, q.to.cell? ⟨r, 0, none⟩ = some (.int .i64 3) := fun q => (HRD.out.on q.ok).made.kind
        have z1 : ∀ q : Bw w11, q.to.cell? ⟨r, 1, none⟩ = some (.int .i64 0) := fun q => (HRD.out.on q.ok).made.num
        have z2 : ∀ q : Bw w11, q.to.cell? ⟨r, 2, none⟩ = some (.string ⟨#[101, 114, 114, 111, 114]⟩) := fun q => (HRD.out.on q.ok).made.name
        have z3 : ∀ q : Bw w11, q.to.cell? ⟨r, 3, none⟩ = some (.slice (some ⟨b1, o, none⟩) 2 c') := fun q => (HRD.out.on q.ok).made.args
        have k0 : ∀ q : Bw w11, q.to.cell? ⟨b1, o, none⟩ = some (.int .i64 3) := fun q => (HRD.out.on q.ok).k0
        have k1 : ∀ q : Bw w11, q.to.cell? ⟨b1, o + 1, none⟩ = some (.int .i64 0) := fun q => (HRD.out.on q.ok).k1
        have k2 : ∀ q : Bw w11, q.to.cell? ⟨b1, o + 2, none⟩ = some (.string Bl.extN) := fun q => (HRD.out.on q.ok).k2
        have k3 : ∀ q : Bw w11, q.to.cell? ⟨b1, o + 3, none⟩ = some (.slice (some ⟨b6, o6, none⟩) 2 c1) := fun q => (HRD.out.on q.ok).k3
        have j0 : ∀ q : Bw w11, q.to.cell? ⟨b1, o + 4, none⟩ = some (.int .i64 2) := fun q => (HRD.out.on q.ok).j0
        have j1 : ∀ q : Bw w11, q.to.cell? ⟨b1, o + 4 + 1, none⟩ = some (.int .i64 0) := fun q => (HRD.out.on q.ok).j1
        have j2 : ∀ q : Bw w11, q.to.cell? ⟨b1, o + 4 + 2, none⟩ = some (.string ⟨#[91, 93]⟩) := fun q => (HRD.out.on q.ok).j2
        have j3 : ∀ q : Bw w11, q.to.cell? ⟨b1, o + 4 + 3, none⟩ = some (.slice A3 0 c3) := fun q => (HRD.out.on q.ok).j3
        have g0 : ∀ q : Bw w11, q.to.cell? ⟨w10.heap.size, 0, none⟩ = some (.int .i64 3) := fun q => (HRD.out.on q.ok).box.kind
        have g1 : ∀ q : Bw w11, q.to.cell? ⟨w10.heap.size, 1, none⟩ = some (.int .i64 0) := fun q => (HRD.out.on q.ok).box.num
        have g2 : ∀ q : Bw w11, q.to.cell? ⟨w10.heap.size, 2, none⟩ = some (.string Bl.extN) := fun q => (HRD.out.on q.ok).box.name
        have g3 : ∀ q : Bw w11, q.to.cell? ⟨w10.heap.size, 3, none⟩ = some (.slice (some ⟨b4, o4, none⟩) 2 c4) := fun q => (HRD.out.on q.ok).box.args
        have hV := fun q : Bw w11 => valid_self (3, 0, Tm.errName) _ HVE.out rfl (c := c') (HRD.out.on q.ok).am
        have hS1 := fun q : Bw w11 => sameV_self (3, 0, Bl.extN) (Bl.namesF [s0] Lp Ll) (n := 2) HFV.out (by simp [Bl.namesF_len]) (c := c1) (c' := c4) ((HRD.out.on q.ok).a1.mono fun b hb => hb.1.2.1) ((HRD.out.on q.ok).a4.mono fun b hb => hb.2.1)
        have hX := fun q : Bw w11 => a_any ⟨#[91, 93]⟩ q.to
        have hS2 := fun q : Bw w11 => sameV_self (2, 0, ⟨#[91, 93]⟩) .nil (by kernel_rfl) rfl (A := A3) (A' := none) (c := c3) (c' := 0) (ArgsIn.nil _ q.to _) (ArgsIn.nil _ q.to _)
        refine wp_region_bw hm11 (by kernel_rfl) ?_
        repeat (go_big_quiet_step (fail))
        go_big_quiet_step (exact calls_bw (hV _))
        repeat (go_big_quiet_step (fail))
        go_big_quiet_step (exact calls_bw (hS1 _))
        repeat (go_big_quiet_step (fail))
        go_big_quiet_step (exact calls_bw (hX _))
        repeat (go_big_quiet_step (fail))
        go_big_quiet_step (exact calls_bw (hS2 _))
        repeat (go_big_quiet_step (fail))
        refine wpQuiet_nil ?_
        intro _ hw'
        obtain ⟨pq, hw''⟩ := hw'
        subst hw''
        have HX := Lib.hid pq.ok
        clear z0 z1 z2 z3 k0 k1 k2 k3 j0 j1 j2 j3 g0 g1 g2 g3 hV hS1 hX hS2
        have g2 : pq.to.cell? ⟨w10.heap.size, 2, none⟩ = some (.string ⟨#[101, 120, 105, 115, 116, 101, 110, 99, 101, 95, 101, 114, 114, 111, 114]⟩) := (HRD.out.on HX.out).box.name
        have g3 : pq.to.cell? ⟨w10.heap.size, 3, none⟩ = some (.slice (some ⟨b4, o4, none⟩) 2 c4) := (HRD.out.on HX.out).box.args
        go_wp2_with fail
        refine wp_loop_rounds 2 ?_
        rw [rounds_succ]
        go_wp2_with fail
        clear g2 g3
        have g3 : ∀ q : Bw pq.to, q.to.cell? ⟨w10.heap.size, 3, none⟩ = some (.slice (some ⟨b4, o4, none⟩) 2 c4) := fun q => (HRD.out.on (HX.out.trans (q.ok.mono HX.out.size))).box.args
        have nm : ∀ q : Bw pq.to, q.to.cell? ⟨w8.heap.size + 2, 0, none⟩ = some (.string s0) := fun q => ((HX.out.trans (q.ok.mono HX.out.size)).cell (p := ⟨w8.heap.size + 2, 0, none⟩) hnlt).trans HN0.out
        have dx0 : ∀ q : Bw pq.to, q.to.cell? ⟨b4, o4, none⟩ = some (.int .i64 2) := fun q => (HD0.out.on (HX.out.trans (q.ok.mono HX.out.size)) h4lt).kind
        have dx1 : ∀ q : Bw pq.to, q.to.cell? ⟨b4, o4 + 1, none⟩ = some (.int .i64 0) := fun q => (HD0.out.on (HX.out.trans (q.ok.mono HX.out.size)) h4lt).num
        have dx2 : ∀ q : Bw pq.to, q.to.cell? ⟨b4, o4 + 2, none⟩ = some (.string s0) := fun q => (HD0.out.on (HX.out.trans (q.ok.mono HX.out.size)) h4lt).name
        have dx3 : ∀ q : Bw pq.to, q.to.cell? ⟨b4, o4 + 3, none⟩ = some (.slice B0 0 d0) := fun q => (HD0.out.on (HX.out.trans (q.ok.mono HX.out.size)) h4lt).args
        have hX := fun q : Bw pq.to => a_any s0 q.to
        have hS := fun q : Bw pq.to => sameV_self (2, 0, s0) .nil (Bl.name_valid HS0.out) rfl (A := B0) (A' := none) (c := d0) (c' := 0) (ArgsIn.nil _ q.to _) (ArgsIn.nil _ q.to _)
        refine wp_region_bw hm11 (by kernel_rfl) ?_
        repeat (go_big_quiet_step (fail))
        go_big_quiet_step (exact calls_bw (hX _))
        repeat (go_big_quiet_step (fail))
        go_big_quiet_step (exact calls_bw (hS _))
        repeat (go_big_quiet_step (fail))
        refine wpQuiet_nil ?_
        intro _ hw'
        obtain ⟨pq0, hw''⟩ := hw'
        subst hw''
        have HX := Lib.hid (HX.out.trans (pq0.ok.mono HX.out.size))
        clear g3 nm dx0 dx1 dx2 dx3 hX hS
        go_wp2_with fail
        rw [rounds_succ]
        have g3 : pq0.to.cell? ⟨w10.heap.size, 3, none⟩ = some (.slice (some ⟨b4, o4, none⟩) 2 c4) := (HRD.out.on HX.out).box.args
        have HWR := Lib.hid (HB11.out.trans (HX.out.mono HB11.out.size))
        have hwlt : w.heap.size < wr.heap.size := by omega
        have h11c : w11.heap.size ≤ pq0.to.heap.size := HX.out.size
        have HSZ := Lib.hid (fun W (hb : Below wr.heap.size wr W) => rsize_any p l A c wr.heap.size W (HM.out ▸ HAR.out.below hb (Nat.le_refl _)) hb.size)
        rw [← HM.out] at HSZ
        obtain ⟨sz, hszz⟩ : ∃ sz, sz = Tm.sizeB l := ⟨_, rfl⟩
        rw [← hszz] at HSZ
        have hsz1 : sz ≤ 2001 := by rw [hszz]; unfold Tm.sizeB; omega
        have hszd : (2000 < 1 + Tm.size l + 3 + 1) ↔ 2000 < sz + 3 + 1 := by rw [hszz]; unfold Tm.sizeB; omega
        have t0 : ∀ o, (pq0.to.alloc o).cell? ⟨w.heap.size, 0, none⟩ = some (.int .i64 p.1) := fun o => (HT5.out.below (HWR.out.alloc HWR.out.size o) hwlt).kind
        have t1 : ∀ o, (pq0.to.alloc o).cell? ⟨w.heap.size, 1, none⟩ = some (.int .i64 p.2.1) := fun o => (HT5.out.below (HWR.out.alloc HWR.out.size o) hwlt).num
        have t2 : ∀ o, (pq0.to.alloc o).cell? ⟨w.heap.size, 2, none⟩ = some (.string p.2.2) := fun o => (HT5.out.below (HWR.out.alloc HWR.out.size o) hwlt).name
        have t3 : ∀ o, (pq0.to.alloc o).cell? ⟨w.heap.size, 3, none⟩ = some (.slice A m c) := fun o => (HT5.out.below (HWR.out.alloc HWR.out.size o) hwlt).args
        by_cases hbig : 2000 < 1 + Tm.size l + 3 + 1
        · have hL := last_big HLL.out hbig
          obtain ⟨rfl, rfl⟩ := Prod.mk.inj hL
          have d0' : pq0.to.cell? ⟨b4, o4 + 4, none⟩ = some (.int .i64 2) := (HD1.out.on HX.out h4lt).kind
          have d1' : pq0.to.cell? ⟨b4, o4 + 4 + 1, none⟩ = some (.int .i64 0) := (HD1.out.on HX.out h4lt).num
          have d2' : pq0.to.cell? ⟨b4, o4 + 4 + 2, none⟩ = some (.string ⟨#[46, 46, 46]⟩) := (HD1.out.on HX.out h4lt).name
          have d3' : pq0.to.cell? ⟨b4, o4 + 4 + 3, none⟩ = some (.slice B1 0 d1) := (HD1.out.on HX.out h4lt).args
          have hq0 : (2000 : Int) < (sz : Int) + 3 + 1 := by have := hszd.1 hbig; omega
          have q1 : (2000 : Int) < (sz : Int) + 3 + 1 := by omega
          have q2 : (2000 : Int) < (sz : Int) + 4 := by omega
          clear hq0
          clear hbig hL hszd hszz
          go_wp2_with fail
          refine (HSZ.out _ (HWR.out.alloc HWR.out.size _)).mono ?_
          rintro e w21 ⟨rfl, hb21⟩
          have hs21 := hb21.size
          simp only [World.size_alloc] at hs21
          have HB15 := Lib.hid (show TermAt w21 pq0.to.heap.size Tm.dots B1 0 d1 from TermAt.below (TermAt.new pq0.to Tm.dots B1 0 d1 24) hb21 (by simp))
          have HX := Lib.hid ((HX.out.alloc HX.out.size _).trans (hb21.mono (HX.out.alloc HX.out.size _).size))
          have HWR := Lib.hid ((HWR.out.alloc HWR.out.size _).trans (hb21.mono (HWR.out.alloc HWR.out.size _).size))
          have h15 : pq0.to.heap.size < w21.heap.size := by omega
          clear hb21 hs21 d0' d1' d2' d3' t0 t1 t2 t3 g3 HSZ
          have e0 : ∀ q : Bw w21, q.to.cell? ⟨pq0.to.heap.size, 0, none⟩ = some (.int .i64 2) := fun q => (HB15.out.below q.ok h15).kind
          have e1 : ∀ q : Bw w21, q.to.cell? ⟨pq0.to.heap.size, 1, none⟩ = some (.int .i64 0) := fun q => (HB15.out.below q.ok h15).num
          have e2 : ∀ q : Bw w21, q.to.cell? ⟨pq0.to.heap.size, 2, none⟩ = some (.string ⟨#[46, 46, 46]⟩) := fun q => (HB15.out.below q.ok h15).name
          have e3 : ∀ q : Bw w21, q.to.cell? ⟨pq0.to.heap.size, 3, none⟩ = some (.slice B1 0 d1) := fun q => (HB15.out.below q.ok h15).args
          have t0 : ∀ q : Bw w21, q.to.cell? ⟨w.heap.size, 0, none⟩ = some (.int .i64 p.1) := fun q => (HT5.out.below (HWR.out.trans (q.ok.mono HWR.out.size)) hwlt).kind
          have t1 : ∀ q : Bw w21, q.to.cell? ⟨w.heap.size, 1, none⟩ = some (.int .i64 p.2.1) := fun q => (HT5.out.below (HWR.out.trans (q.ok.mono HWR.out.size)) hwlt).num
          have t2 : ∀ q : Bw w21, q.to.cell? ⟨w.heap.size, 2, none⟩ = some (.string p.2.2) := fun q => (HT5.out.below (HWR.out.trans (q.ok.mono HWR.out.size)) hwlt).name
          have t3 : ∀ q : Bw w21, q.to.cell? ⟨w.heap.size, 3, none⟩ = some (.slice A m c) := fun q => (HT5.out.below (HWR.out.trans (q.ok.mono HWR.out.size)) hwlt).args
          have hX := fun q : Bw w21 => a_any ⟨#[46, 46, 46]⟩ q.to
          have hS := fun q : Bw w21 => sameV_self (2, 0, ⟨#[46, 46, 46]⟩) .nil (by kernel_rfl) rfl (A := B1) (A' := none) (c := d1) (c' := 0) (ArgsIn.nil _ q.to _) (ArgsIn.nil _ q.to _)
          go_wp2_with fail
          refine wp_region_bw hm11 (by kernel_rfl) ?_
          repeat (go_big_quiet_step (fail))
          go_big_quiet_step (exact calls_bw (hX _))
          repeat (go_big_quiet_step (fail))
          go_big_quiet_step (exact calls_bw (hS _))
          repeat (go_big_quiet_step (fail))
          refine wpQuiet_nil ?_
          intro _ hw'
          obtain ⟨pz, hw''⟩ := hw'
          subst hw''
          clear e0 e1 e2 e3 t0 t1 t2 t3 hS hX
          go_wp2_with fail
          have HX := Lib.hid (HX.out.trans (pz.ok.mono HX.out.size))
          have HWR := Lib.hid (HWR.out.trans (pz.ok.mono HWR.out.size))
          have HB15 := Lib.hid (HB15.out.below pz.ok h15)
          have h15 : pq0.to.heap.size < pz.to.heap.size := Nat.lt_of_lt_of_le h15 pz.ok.size
          have h6lt : b6 < w11.heap.size := HS6.out.1.2.1
          have h6n : b6 < w8.heap.size := HS6.out.2
          have h6w : wr.heap.size ≤ b6 := HS6.out.1.1
          have h811 := HRD.out.n8l
          have h11c : w11.heap.size ≤ pq0.to.heap.size := h11c
          refine sh24_walk (by kernel_rfl) s0 s1 1 r b1 o c' b6 o6 2 c1 pz.to (by omega) (Nat.lt_of_lt_of_le HRD.out.rlt HX.out.size) (Nat.lt_of_lt_of_le HRD.out.blt HX.out.size) (HRD.out.on HX.out).made.args (HRD.out.on HX.out).k3 rfl (Nat.lt_of_lt_of_le h6lt HX.out.size) (HF6.out.on HX.out h6lt) (HS6.out.1.2.2.same (HX.out.block _ h6lt)) ?_
          intro u w25 hbl hbk hsz25
          have HWR := Lib.hid (HWR.out.trans (hbl _ h6w HWR.out.size))
          have HB15 := Lib.hid (HB15.out.same (hbk pq0.to.heap.size h15 (by omega)))
          have h15 : pq0.to.heap.size < w25.heap.size := Nat.lt_of_lt_of_le h15 hsz25
          have HSE := Lib.hid (fun W (hb : Below wr.heap.size wr W) => sameV_self p l HVB.out HM.out.symm (A := A) (A' := A2) (c := c) (c' := c2) ((HAR.out.below hb (Nat.le_refl _)).up hb.size) ((HAW.out.below hb (Nat.le_refl _)).up hb.size))
          have e3 : w25.cell? ⟨pq0.to.heap.size, 3, none⟩ = some (.slice B1 0 d1) := HB15.out.args
          have t0 : w25.cell? ⟨w.heap.size, 0, none⟩ = some (.int .i64 p.1) := (HT5.out.below HWR.out hwlt).kind
          have t1 : w25.cell? ⟨w.heap.size, 1, none⟩ = some (.int .i64 p.2.1) := (HT5.out.below HWR.out hwlt).num
          have t2 : w25.cell? ⟨w.heap.size, 2, none⟩ = some (.string p.2.2) := (HT5.out.below HWR.out hwlt).name
          have t3 : w25.cell? ⟨w.heap.size, 3, none⟩ = some (.slice A m c) := (HT5.out.below HWR.out hwlt).args
          have s0' : w25.cell? ⟨w2.heap.size, 0, none⟩ = some (.int .i64 p.1) := (HTW.out.below HWR.out hsz).kind
          have s1' : w25.cell? ⟨w2.heap.size, 1, none⟩ = some (.int .i64 p.2.1) := (HTW.out.below HWR.out hsz).num
          have s2' : w25.cell? ⟨w2.heap.size, 2, none⟩ = some (.string p.2.2) := (HTW.out.below HWR.out hsz).name
          have s3' : w25.cell? ⟨w2.heap.size, 3, none⟩ = some (.slice A2 m c2) := (HTW.out.below HWR.out hsz).args
          go_wp2_with fail
          refine (HSE.out _ HWR.out).mono ?_
          rintro e w28 ⟨rfl, hb28⟩
          have HWR := Lib.hid (HWR.out.trans (hb28.mono HWR.out.size))
          go_wp2_with fail
          exact ⟨⟨4, by omega, rfl, HBR.out.trans (HWR.out.mono HBR.out.size), HT5.out.below HWR.out hwlt, HTW.out.below HWR.out hsz, Nat.lt_of_lt_of_le hsz HWR.out.size, (HAR.out.below HWR.out (Nat.le_refl _)).up HWR.out.size, (HAW.out.below HWR.out (Nat.le_refl _)).up HWR.out.size⟩, by simp [intOf]⟩
        · have hL := last_small HLL.out hbig
          obtain ⟨e1, e2⟩ := Prod.mk.inj hL
          replace e1 := e1.symm
          replace e2 := e2.symm
          subst e1 e2
          have d0' : pq0.to.cell? ⟨b4, o4 + 4, none⟩ = some (.int .i64 p.1) := (HD1.out.on HX.out h4lt).kind
          have d1' : pq0.to.cell? ⟨b4, o4 + 4 + 1, none⟩ = some (.int .i64 p.2.1) := (HD1.out.on HX.out h4lt).num
          have d2' : pq0.to.cell? ⟨b4, o4 + 4 + 2, none⟩ = some (.string p.2.2) := (HD1.out.on HX.out h4lt).name
          have d3' : pq0.to.cell? ⟨b4, o4 + 4 + 3, none⟩ = some (.slice B1 m d1) := (HD1.out.on HX.out h4lt).args.trans (by rw [HM.out])
          have hq0 : ¬ (2000 : Int) < (sz : Int) + 3 + 1 := by have := hszd; omega
          have q1 : decide ((2000 : Int) < (sz : Int) + 3 + 1) = false := by rw [decide_eq_false_iff_not]; omega
          have q2 : decide ((2000 : Int) < (sz : Int) + 4) = false := by rw [decide_eq_false_iff_not]; omega
          clear hq0
          clear hbig hL hszd hszz
          go_wp2_with fail
          refine (HSZ.out _ (HWR.out.alloc HWR.out.size _)).mono ?_
          rintro e w21 ⟨rfl, hb21⟩
          have hs21 := hb21.size
          simp only [World.size_alloc] at hs21
          have HB15 := Lib.hid (show TermAt w21 pq0.to.heap.size p B1 m d1 from TermAt.below (TermAt.new pq0.to p B1 m d1 24) hb21 (by simp))
          have HX := Lib.hid ((HX.out.alloc HX.out.size _).trans (hb21.mono (HX.out.alloc HX.out.size _).size))
          have HWR := Lib.hid ((HWR.out.alloc HWR.out.size _).trans (hb21.mono (HWR.out.alloc HWR.out.size _).size))
          have h15 : pq0.to.heap.size < w21.heap.size := by omega
          clear hb21 hs21 d0' d1' d2' d3' t0 t1 t2 t3 g3 HSZ
          have e0 : ∀ q : Bw w21, q.to.cell? ⟨pq0.to.heap.size, 0, none⟩ = some (.int .i64 p.1) := fun q => (HB15.out.below q.ok h15).kind
          have e1 : ∀ q : Bw w21, q.to.cell? ⟨pq0.to.heap.size, 1, none⟩ = some (.int .i64 p.2.1) := fun q => (HB15.out.below q.ok h15).num
          have e2 : ∀ q : Bw w21, q.to.cell? ⟨pq0.to.heap.size, 2, none⟩ = some (.string p.2.2) := fun q => (HB15.out.below q.ok h15).name
          have e3 : ∀ q : Bw w21, q.to.cell? ⟨pq0.to.heap.size, 3, none⟩ = some (.slice B1 m d1) := fun q => (HB15.out.below q.ok h15).args
          have t0 : ∀ q : Bw w21, q.to.cell? ⟨w.heap.size, 0, none⟩ = some (.int .i64 p.1) := fun q => (HT5.out.below (HWR.out.trans (q.ok.mono HWR.out.size)) hwlt).kind
          have t1 : ∀ q : Bw w21, q.to.cell? ⟨w.heap.size, 1, none⟩ = some (.int .i64 p.2.1) := fun q => (HT5.out.below (HWR.out.trans (q.ok.mono HWR.out.size)) hwlt).num
          have t2 : ∀ q : Bw w21, q.to.cell? ⟨w.heap.size, 2, none⟩ = some (.string p.2.2) := fun q => (HT5.out.below (HWR.out.trans (q.ok.mono HWR.out.size)) hwlt).name
          have t3 : ∀ q : Bw w21, q.to.cell? ⟨w.heap.size, 3, none⟩ = some (.slice A m c) := fun q => (HT5.out.below (HWR.out.trans (q.ok.mono HWR.out.size)) hwlt).args
          have hS := fun q : Bw w21 => sameV_self p l HVB.out HM.out.symm (A := B1) (A' := A) (c := d1) (c' := c) (HM.out ▸ ((HD1.out.on (HX.out.trans (q.ok.mono HX.out.size)) h4lt).inn.mono fun b hb => hb.2.1)) ((HAR.out.below (HWR.out.trans (q.ok.mono HWR.out.size)) (Nat.le_refl _)).up (HWR.out.trans (q.ok.mono HWR.out.size)).size)
          go_wp2_with fail
          refine wp_region_bw hm11 (by kernel_rfl) ?_
          repeat (go_big_quiet_step (fail))
          go_big_quiet_step (exact calls_bw (hS _))
          repeat (go_big_quiet_step (fail))
          refine wpQuiet_nil ?_
          intro _ hw'
          obtain ⟨pz, hw''⟩ := hw'
          subst hw''
          clear e0 e1 e2 e3 t0 t1 t2 t3 hS
          go_wp2_with fail
          have HX := Lib.hid (HX.out.trans (pz.ok.mono HX.out.size))
          have HWR := Lib.hid (HWR.out.trans (pz.ok.mono HWR.out.size))
          have HB15 := Lib.hid (HB15.out.below pz.ok h15)
          have h15 : pq0.to.heap.size < pz.to.heap.size := Nat.lt_of_lt_of_le h15 pz.ok.size
          have h6lt : b6 < w11.heap.size := HS6.out.1.2.1
          have h6n : b6 < w8.heap.size := HS6.out.2
          have h6w : wr.heap.size ≤ b6 := HS6.out.1.1
          have h811 := HRD.out.n8l
          have h11c : w11.heap.size ≤ pq0.to.heap.size := h11c
          refine sh24_walk (by kernel_rfl) s0 s1 1 r b1 o c' b6 o6 2 c1 pz.to (by omega) (Nat.lt_of_lt_of_le HRD.out.rlt HX.out.size) (Nat.lt_of_lt_of_le HRD.out.blt HX.out.size) (HRD.out.on HX.out).made.args (HRD.out.on HX.out).k3 rfl (Nat.lt_of_lt_of_le h6lt HX.out.size) (HF6.out.on HX.out h6lt) (HS6.out.1.2.2.same (HX.out.block _ h6lt)) ?_
          intro u w25 hbl hbk hsz25
          have HWR := Lib.hid (HWR.out.trans (hbl _ h6w HWR.out.size))
          have HB15 := Lib.hid (HB15.out.same (hbk pq0.to.heap.size h15 (by omega)))
          have h15 : pq0.to.heap.size < w25.heap.size := Nat.lt_of_lt_of_le h15 hsz25
          have HSE := Lib.hid (fun W (hb : Below wr.heap.size wr W) => sameV_self p l HVB.out HM.out.symm (A := A) (A' := A2) (c := c) (c' := c2) ((HAR.out.below hb (Nat.le_refl _)).up hb.size) ((HAW.out.below hb (Nat.le_refl _)).up hb.size))
          by_cases hm0 : m = 0
          · subst hm0
            have e3 : w25.cell? ⟨pq0.to.heap.size, 3, none⟩ = some (.slice B1 0 d1) := HB15.out.args
            have t0 : w25.cell? ⟨w.heap.size, 0, none⟩ = some (.int .i64 p.1) := (HT5.out.below HWR.out hwlt).kind
            have t1 : w25.cell? ⟨w.heap.size, 1, none⟩ = some (.int .i64 p.2.1) := (HT5.out.below HWR.out hwlt).num
            have t2 : w25.cell? ⟨w.heap.size, 2, none⟩ = some (.string p.2.2) := (HT5.out.below HWR.out hwlt).name
            have t3 : w25.cell? ⟨w.heap.size, 3, none⟩ = some (.slice A 0 c) := (HT5.out.below HWR.out hwlt).args
            have s0' : w25.cell? ⟨w2.heap.size, 0, none⟩ = some (.int .i64 p.1) := (HTW.out.below HWR.out hsz).kind
            have s1' : w25.cell? ⟨w2.heap.size, 1, none⟩ = some (.int .i64 p.2.1) := (HTW.out.below HWR.out hsz).num
            have s2' : w25.cell? ⟨w2.heap.size, 2, none⟩ = some (.string p.2.2) := (HTW.out.below HWR.out hsz).name
            have s3' : w25.cell? ⟨w2.heap.size, 3, none⟩ = some (.slice A2 0 c2) := (HTW.out.below HWR.out hsz).args
            go_wp2_with fail
            refine (HSE.out _ HWR.out).mono ?_
            rintro e w28 ⟨rfl, hb28⟩
            have HWR := Lib.hid (HWR.out.trans (hb28.mono HWR.out.size))
            go_wp2_with fail
            exact ⟨⟨4, by omega, rfl, HBR.out.trans (HWR.out.mono HBR.out.size), HT5.out.below HWR.out hwlt, HTW.out.below HWR.out hsz, Nat.lt_of_lt_of_le hsz HWR.out.size, (HAR.out.below HWR.out (Nat.le_refl _)).up HWR.out.size, (HAW.out.below HWR.out (Nat.le_refl _)).up HWR.out.size⟩, by simp [intOf]⟩
          · have hmp : 0 < m := by omega
            have hmq : (0 : Int) < (m : Int) := by omega
            have hml : 0 < Tm.len l := by rw [← HM.out]; exact hmp
            obtain ⟨b7, o7, p7, l7, r7, C7, f7, eB, hS7, _, hd7⟩ := (HD1.out.on HX.out h4lt).inn.at (k := 0) hml
            subst eB
            have h7lt : b7 < pz.to.heap.size := hS7.2.1
            have h7n : w8.heap.size ≤ b7 := hS7.1
            have hne : b7 ≠ b6 := by omega
            have hk7 := hbk b7 h7lt hne
            have hf7 := hS7.2.2.same hk7
            have x0 : w25.cell? ⟨b7, o7, none⟩ = some (.int .i64 p7.1) := (cell_of_block (p := ⟨b7, o7, none⟩) hk7).trans hd7.kind
            have x1 : w25.cell? ⟨b7, o7 + 1, none⟩ = some (.int .i64 p7.2.1) := (cell_of_block (p := ⟨b7, o7 + 1, none⟩) hk7).trans hd7.num
            have x2 : w25.cell? ⟨b7, o7 + 2, none⟩ = some (.string p7.2.2) := (cell_of_block (p := ⟨b7, o7 + 2, none⟩) hk7).trans hd7.name
            have x3 : w25.cell? ⟨b7, o7 + 3, none⟩ = some (.slice C7 (Tm.len l7) f7) := (cell_of_block (p := ⟨b7, o7 + 3, none⟩) hk7).trans hd7.args
            have z0 : w25.frozen? ⟨b7, o7, none⟩ = false := hf7 o7
            have z1 : w25.frozen? ⟨b7, o7 + 1, none⟩ = false := hf7 (o7 + 1)
            have z2 : w25.frozen? ⟨b7, o7 + 2, none⟩ = false := hf7 (o7 + 2)
            have z3 : w25.frozen? ⟨b7, o7 + 3, none⟩ = false := hf7 (o7 + 3)
            have hn1 : ¬ w.heap.size = b7 := by omega
            have hn2 : ¬ w2.heap.size = b7 := by omega
            have hn3 : ¬ b7 = w.heap.size := by omega
            have hn4 : ¬ b7 = w2.heap.size := by omega
            clear hd7 hS7 hk7 hf7
            have e3 : w25.cell? ⟨pq0.to.heap.size, 3, none⟩ = some (.slice (some ⟨b7, o7, none⟩) m d1) := HB15.out.args
            have t0 : w25.cell? ⟨w.heap.size, 0, none⟩ = some (.int .i64 p.1) := (HT5.out.below HWR.out hwlt).kind
            have t1 : w25.cell? ⟨w.heap.size, 1, none⟩ = some (.int .i64 p.2.1) := (HT5.out.below HWR.out hwlt).num
            have t2 : w25.cell? ⟨w.heap.size, 2, none⟩ = some (.string p.2.2) := (HT5.out.below HWR.out hwlt).name
            have t3 : w25.cell? ⟨w.heap.size, 3, none⟩ = some (.slice A m c) := (HT5.out.below HWR.out hwlt).args
            have s0' : w25.cell? ⟨w2.heap.size, 0, none⟩ = some (.int .i64 p.1) := (HTW.out.below HWR.out hsz).kind
            have s1' : w25.cell? ⟨w2.heap.size, 1, none⟩ = some (.int .i64 p.2.1) := (HTW.out.below HWR.out hsz).num
            have s2' : w25.cell? ⟨w2.heap.size, 2, none⟩ = some (.string p.2.2) := (HTW.out.below HWR.out hsz).name
            have s3' : w25.cell? ⟨w2.heap.size, 3, none⟩ = some (.slice A2 m c2) := (HTW.out.below HWR.out hsz).args
            go_wp2_with fail
            have hend : Below wr.heap.size wr (set4 w25 b7 o7 (7, 0, ByteArray.empty) none 0 0) := below_set4 HWR.out (by omega)
            have HEND := Lib.hid hend
            clear hend
            refine (HSE.out _ HEND.out).mono ?_
            rintro e w28 ⟨rfl, hb28⟩
            have HWR := Lib.hid (HEND.out.trans (hb28.mono HEND.out.size))
            go_wp2_with fail
            exact ⟨⟨4, by omega, rfl, HBR.out.trans (HWR.out.mono HBR.out.size), HT5.out.below HWR.out hwlt, HTW.out.below HWR.out hsz, Nat.lt_of_lt_of_le hsz HWR.out.size, (HAR.out.below HWR.out (Nat.le_refl _)).up HWR.out.size, (HAW.out.below HWR.out (Nat.le_refl _)).up HWR.out.size⟩, by simp [intOf]⟩
      · clear hk hlt
        go_wp2_with (simp only [ixs4])
        refine sh8_walk (by kernel_rfl) s0 s1 p l A m c 4 w.heap.size (Bl.EE Bl.permN [s1, s0] (Bl.lastOf 2 p l)) HM.out (Bl.q4 s0 s1 HS0.out HS1.out HVB.out) rfl HT5.out (by omega) HAR.out ?_
        intro r A' c' u w8 hb8 hr hr8 ht8 ha8
        have hFO := formal_call (c' := c') (ks := [s1, s0]) (n := 2) rfl (by decide) (by simp) (fun k h => by simp at h; rcases h with rfl | rfl; exact HS1.out; exact HS0.out) HVB.out (ha8.mono fun b hb => hb.1.2.1)
        have HVL := Lib.hid (Bl.last_valid (n := 2) HVB.out)
        have HVE := Lib.hid (Bl.EE_valid (s := Bl.permN) (ks := [s1, s0]) (by decide) (by simp) (fun k h => by simp at h; rcases h with rfl | rfl; exact HS1.out; exact HS0.out) HVB.out)
        generalize hLL : Bl.lastOf 2 p l = L at hFO HVL HVE ht8 ha8
        obtain ⟨Lp, Ll⟩ := L
        have HLL := Lib.hid hLL
        clear hLL
        have HZ := Lib.hid (four_below w8)
        have x0 : ∀ o1 o2 o3 o4, ((((w8.alloc o1).alloc o2).alloc o3).alloc o4).cell? ⟨r, 0, none⟩ = some (.int .i64 3) := fun o1 o2 o3 o4 => ((HZ.out o1 o2 o3 o4).cell (p := ⟨r, 0, none⟩) hr8).trans ht8.kind
        have x1 : ∀ o1 o2 o3 o4, ((((w8.alloc o1).alloc o2).alloc o3).alloc o4).cell? ⟨r, 1, none⟩ = some (.int .i64 0) := fun o1 o2 o3 o4 => ((HZ.out o1 o2 o3 o4).cell (p := ⟨r, 1, none⟩) hr8).trans ht8.num
        have x2 : ∀ o1 o2 o3 o4, ((((w8.alloc o1).alloc o2).alloc o3).alloc o4).cell? ⟨r, 2, none⟩ = some (.string Tm.errName) := fun o1 o2 o3 o4 => ((HZ.out o1 o2 o3 o4).cell (p := ⟨r, 2, none⟩) hr8).trans ht8.name
        have x3 : ∀ o1 o2 o3 o4, ((((w8.alloc o1).alloc o2).alloc o3).alloc o4).cell? ⟨r, 3, none⟩ = some (.slice A' 2 c') := fun o1 o2 o3 o4 => ((HZ.out o1 o2 o3 o4).cell (p := ⟨r, 3, none⟩) hr8).trans ht8.args
        have HFO := Lib.hid hFO
        have HT8 := Lib.hid ht8
        have HA8 := Lib.hid ha8
        clear hFO ht8 ha8
        go_wp2_with (simp only [ixr4])
        refine (HFO.out _ ?_).mono ?_
        · exact HZ.out _ _ _ _
        rintro e w10 ⟨A4, c4, rfl, ha4, hb10⟩
        have hmk := Rd.mk0 (c4 := c4) (n1 := 3) (by simp [Bl.namesF_len]) hr8 (HZ.out _ _ _ _) hb10 HT8.out HA8.out ha4 rfl
        obtain ⟨b1, o, A1, c1, A3, c3, rfl, hrd⟩ := hmk
        have HRD := Lib.hid hrd
        have HB10 := Lib.hid (hb8.trans (((HZ.out _ _ _ _).trans (hb10.mono (HZ.out _ _ _ _).size)).mono hb8.size))
        have HN0 := Lib.hid (show w10.cell? ⟨w8.heap.size + 3, 0, none⟩ = some (.string s1) from (hb10.cell (p := ⟨w8.heap.size + 3, 0, none⟩) (by simp; try omega)).trans (four_cells3 w8 _ _ _ _ _ _ _ _ 0))
        have HN1 := Lib.hid (show w10.cell? ⟨w8.heap.size + 3, 1, none⟩ = some (.string s0) from (hb10.cell (p := ⟨w8.heap.size + 3, 1, none⟩) (by simp; try omega)).trans (four_cells3 w8 _ _ _ _ _ _ _ _ 1))
        have hnlt : w8.heap.size + 3 < w10.heap.size := by have := hb10.size; simp at this; omega
        clear hrd hb10 ha4 x0 x1 x2 x3
        try simp only [Nat.zero_add, Nat.reduceAdd]
        go_wp2_with fail
        refine at_world (P := fun x => Code.wp _ _ _ _ x) _ ?_
        intro w11 hw11
        have hrd := HRD.out
        rw [← hw11] at hrd
        have HRD := Lib.hid hrd
        have HB11 := Lib.hid (show Below wr.heap.size wr w11 by rw [hw11]; exact HB10.out.alloc HB10.out.size _)
        have hb11 : Below w10.heap.size w10 w11 := by rw [hw11]; exact box_below _ _
        have HN0 := Lib.hid (show w11.cell? ⟨w8.heap.size + 3, 0, none⟩ = some (.string s1) from (hb11.cell (p := ⟨w8.heap.size + 3, 0, none⟩) hnlt).trans HN0.out)
        have HN1 := Lib.hid (show w11.cell? ⟨w8.heap.size + 3, 1, none⟩ = some (.string s0) from (hb11.cell (p := ⟨w8.heap.size + 3, 1, none⟩) hnlt).trans HN1.out)
        have hnlt : w8.heap.size + 3 < w11.heap.size := Nat.lt_of_lt_of_le hnlt hb11.size
        obtain ⟨b4, o4, B0, d0, B1, d1, B2, d2, rfl, hS4, hd0, hd1, hd2⟩ := three_at hrd.a4
        have HD0 := Lib.hid hd0
        have HD1 := Lib.hid hd1
        have HD2 := Lib.hid hd2
        obtain ⟨b6, o6, C0, f0, C1, f1, C2, f2, rfl, hS6, he0, he1, he2⟩ := three_at hrd.a1
        have HF6 := Lib.hid (show Four w11 b6 (o6 + 2 * 4) from he2.four)
        have HS6 := Lib.hid hS6
        have HRD := Lib.hid hrd
        clear hrd hw11 HB10 hb11 hS6 hd0 he0 hd1 he1 hd2 he2
        have h4lt : b4 < w11.heap.size := hS4.2.1
        have HFV := Lib.hid (show Tm.validB (3, 0, Bl.permN) (Bl.namesF [s1, s0] Lp Ll) = true from Bl.valid_arg0 HVE.out rfl)
        have z0 : ∀ q : Bw w11, q.to.cell? ⟨r, 0, none⟩ = some (.int .i64 3) := fun q => (HRD.out.on q.ok).made.kind
        have z1 : ∀ q : Bw w11, q.to.cell? ⟨r, 1, none⟩ = some (.int .i64 0) := fun q => (HRD.out.on q.ok).made.num
        have z2 : ∀ q : Bw w11, q.to.cell? ⟨r, 2, none⟩ = some (.string ⟨#[101, 114, 114, 111, 114]⟩) := fun q => (HRD.out.on q.ok).made.name
        have z3 : ∀ q : Bw w11, q.to.cell? ⟨r, 3, none⟩ = some (.slice (some ⟨b1, o, none⟩) 2 c') := fun q => (HRD.out.on q.ok).made.args
        have k0 : ∀ q : Bw w11, q.to.cell? ⟨b1, o, none⟩ = some (.int .i64 3) := fun q => (HRD.out.on q.ok).k0
        have k1 : ∀ q : Bw w11, q.to.cell? ⟨b1, o + 1, none⟩ = some (.int .i64 0) := fun q => (HRD.out.on q.ok).k1
        have k2 : ∀ q : Bw w11, q.to.cell? ⟨b1, o + 2, none⟩ = some (.string Bl.permN) := fun q => (HRD.out.on q.ok).k2
        have k3 : ∀ q : Bw w11, q.to.cell? ⟨b1, o + 3, none⟩ = some (.slice (some ⟨b6, o6, none⟩) 3 c1) := fun q => (HRD.out.on q.ok).k3
        have j0 : ∀ q : Bw w11, q.to.cell? ⟨b1, o + 4, none⟩ = some (.int .i64 2) := fun q => (HRD.out.on q.ok).j0
        have j1 : ∀ q : Bw w11, q.to.cell? ⟨b1, o + 4 + 1, none⟩ = some (.int .i64 0) := fun q => (HRD.out.on q.ok).j1
        have j2 : ∀ q : Bw w11, q.to.cell? ⟨b1, o + 4 + 2, none⟩ = some (.string ⟨#[91, 93]⟩) := fun q => (HRD.out.on q.ok).j2
        have j3 : ∀ q : Bw w11, q.to.cell? ⟨b1, o + 4 + 3, none⟩ = some (.slice A3 0 c3) := fun q => (HRD.out.on q.ok).j3
        have g0 : ∀ q : Bw w11, q.to.cell? ⟨w10.heap.size, 0, none⟩ = some (.int .i64 3) := fun q => (HRD.out.on q.ok).box.kind
        have g1 : ∀ q : Bw w11, q.to.cell? ⟨w10.heap.size, 1, none⟩ = some (.int .i64 0) := fun q => (HRD.out.on q.ok).box.num
        have g2 : ∀ q : Bw w11, q.to.cell? ⟨w10.heap.size, 2, none⟩ = some (.string Bl.permN) := fun q => (HRD.out.on q.ok).box.name
        have g3 : ∀ q : Bw w11, q.to.cell? ⟨w10.heap.size, 3, none⟩ = some (.slice (some ⟨b4, o4, none⟩) 3 c4) := fun q => (HRD.out.on q.ok).box.args
        have hV := fun q : Bw w11 => valid_self (3, 0, Tm.errName) _ HVE.out rfl (c := c') (HRD.out.on q.ok).am
        have hS1 := fun q : Bw w11 => sameV_self (3, 0, Bl.permN) (Bl.namesF [s1, s0] Lp Ll) (n := 3) HFV.out (by simp [Bl.namesF_len]) (c := c1) (c' := c4) ((HRD.out.on q.ok).a1.mono fun b hb => hb.1.2.1) ((HRD.out.on q.ok).a4.mono fun b hb => hb.2.1)
        have hX := fun q : Bw w11 => a_any ⟨#[91, 93]⟩ q.to
        have hS2 := fun q : Bw w11 => sameV_self (2, 0, ⟨#[91, 93]⟩) .nil (by kernel_rfl) rfl (A := A3) (A' := none) (c := c3) (c' := 0) (ArgsIn.nil _ q.to _) (ArgsIn.nil _ q.to _)
        refine wp_region_bw hm11 (by kernel_rfl) ?_
        repeat (go_big_quiet_step (fail))
        go_big_quiet_step (exact calls_bw (hV _))
        repeat (go_big_quiet_step (fail))
        go_big_quiet_step (exact calls_bw (hS1 _))
        repeat (go_big_quiet_step (fail))
        go_big_quiet_step (exact calls_bw (hX _))
        repeat (go_big_quiet_step (fail))
        go_big_quiet_step (exact calls_bw (hS2 _))
        repeat (go_big_quiet_step (fail))
        refine wpQuiet_nil ?_
        intro _ hw'
        obtain ⟨pq, hw''⟩ := hw'
        subst hw''
        have HX := Lib.hid pq.ok
        clear z0 z1 z2 z3 k0 k1 k2 k3 j0 j1 j2 j3 g0 g1 g2 g3 hV hS1 hX hS2
        have g2 : pq.to.cell? ⟨w10.heap.size, 2, none⟩ = some (.string ⟨#[112, 101, 114, 109, 105, 115, 115, 105, 111, 110, 95, 101, 114, 114, 111, 114]⟩) := (HRD.out.on HX.out).box.name
        have g3 : pq.to.cell? ⟨w10.heap.size, 3, none⟩ = some (.slice (some ⟨b4, o4, none⟩) 3 c4) := (HRD.out.on HX.out).box.args
        go_wp2_with fail
        refine wp_loop_rounds 3 ?_
        rw [rounds_succ]
        go_wp2_with fail
        clear g2 g3
        have g3 : ∀ q : Bw pq.to, q.to.cell? ⟨w10.heap.size, 3, none⟩ = some (.slice (some ⟨b4, o4, none⟩) 3 c4) := fun q => (HRD.out.on (HX.out.trans (q.ok.mono HX.out.size))).box.args
        have nm : ∀ q : Bw pq.to, q.to.cell? ⟨w8.heap.size + 3, 0, none⟩ = some (.string s1) := fun q => ((HX.out.trans (q.ok.mono HX.out.size)).cell (p := ⟨w8.heap.size + 3, 0, none⟩) hnlt).trans HN0.out
        have dx0 : ∀ q : Bw pq.to, q.to.cell? ⟨b4, o4, none⟩ = some (.int .i64 2) := fun q => (HD0.out.on (HX.out.trans (q.ok.mono HX.out.size)) h4lt).kind
        have dx1 : ∀ q : Bw pq.to, q.to.cell? ⟨b4, o4 + 1, none⟩ = some (.int .i64 0) := fun q => (HD0.out.on (HX.out.trans (q.ok.mono HX.out.size)) h4lt).num
        have dx2 : ∀ q : Bw pq.to, q.to.cell? ⟨b4, o4 + 2, none⟩ = some (.string s1) := fun q => (HD0.out.on (HX.out.trans (q.ok.mono HX.out.size)) h4lt).name
        have dx3 : ∀ q : Bw pq.to, q.to.cell? ⟨b4, o4 + 3, none⟩ = some (.slice B0 0 d0) := fun q => (HD0.out.on (HX.out.trans (q.ok.mono HX.out.size)) h4lt).args
        have hX := fun q : Bw pq.to => a_any s1 q.to
        have hS := fun q : Bw pq.to => sameV_self (2, 0, s1) .nil (Bl.name_valid HS1.out) rfl (A := B0) (A' := none) (c := d0) (c' := 0) (ArgsIn.nil _ q.to _) (ArgsIn.nil _ q.to _)
        refine wp_region_bw hm11 (by kernel_rfl) ?_
        repeat (go_big_quiet_step (fail))
        go_big_quiet_step (exact calls_bw (hX _))
        repeat (go_big_quiet_step (fail))
        go_big_quiet_step (exact calls_bw (hS _))
        repeat (go_big_quiet_step (fail))
        refine wpQuiet_nil ?_
        intro _ hw'
        obtain ⟨pq0, hw''⟩ := hw'
        subst hw''
        have HX := Lib.hid (HX.out.trans (pq0.ok.mono HX.out.size))
        clear g3 nm dx0 dx1 dx2 dx3 hX hS
        go_wp2_with fail
        rw [rounds_succ]
        go_wp2_with fail
        have g3 : ∀ q : Bw pq0.to, q.to.cell? ⟨w10.heap.size, 3, none⟩ = some (.slice (some ⟨b4, o4, none⟩) 3 c4) := fun q => (HRD.out.on (HX.out.trans (q.ok.mono HX.out.size))).box.args
        have nm : ∀ q : Bw pq0.to, q.to.cell? ⟨w8.heap.size + 3, 1, none⟩ = some (.string s0) := fun q => ((HX.out.trans (q.ok.mono HX.out.size)).cell (p := ⟨w8.heap.size + 3, 1, none⟩) hnlt).trans HN1.out
        have dx0 : ∀ q : Bw pq0.to, q.to.cell? ⟨b4, o4 + 4, none⟩ = some (.int .i64 2) := fun q => (HD1.out.on (HX.out.trans (q.ok.mono HX.out.size)) h4lt).kind
        have dx1 : ∀ q : Bw pq0.to, q.to.cell? ⟨b4, o4 + 4 + 1, none⟩ = some (.int .i64 0) := fun q => (HD1.out.on (HX.out.trans (q.ok.mono HX.out.size)) h4lt).num
        have dx2 : ∀ q : Bw pq0.to, q.to.cell? ⟨b4, o4 + 4 + 2, none⟩ = some (.string s0) := fun q => (HD1.out.on (HX.out.trans (q.ok.mono HX.out.size)) h4lt).name
        have dx3 : ∀ q : Bw pq0.to, q.to.cell? ⟨b4, o4 + 4 + 3, none⟩ = some (.slice B1 0 d1) := fun q => (HD1.out.on (HX.out.trans (q.ok.mono HX.out.size)) h4lt).args
        have hX := fun q : Bw pq0.to => a_any s0 q.to
        have hS := fun q : Bw pq0.to => sameV_self (2, 0, s0) .nil (Bl.name_valid HS0.out) rfl (A := B1) (A' := none) (c := d1) (c' := 0) (ArgsIn.nil _ q.to _) (ArgsIn.nil _ q.to _)
        refine wp_region_bw hm11 (by kernel_rfl) ?_
        repeat (go_big_quiet_step (fail))
        go_big_quiet_step (exact calls_bw (hX _))
        repeat (go_big_quiet_step (fail))
        go_big_quiet_step (exact calls_bw (hS _))
        repeat (go_big_quiet_step (fail))
        refine wpQuiet_nil ?_
        intro _ hw'
        obtain ⟨pq1, hw''⟩ := hw'
        subst hw''
        have HX := Lib.hid (HX.out.trans (pq1.ok.mono HX.out.size))
        clear g3 nm dx0 dx1 dx2 dx3 hX hS
        go_wp2_with fail
        rw [rounds_succ]
        have g3 : pq1.to.cell? ⟨w10.heap.size, 3, none⟩ = some (.slice (some ⟨b4, o4, none⟩) 3 c4) := (HRD.out.on HX.out).box.args
        have HWR := Lib.hid (HB11.out.trans (HX.out.mono HB11.out.size))
        have hwlt : w.heap.size < wr.heap.size := by omega
        have h11c : w11.heap.size ≤ pq1.to.heap.size := HX.out.size
        have HSZ := Lib.hid (fun W (hb : Below wr.heap.size wr W) => rsize_any p l A c wr.heap.size W (HM.out ▸ HAR.out.below hb (Nat.le_refl _)) hb.size)
        rw [← HM.out] at HSZ
        obtain ⟨sz, hszz⟩ : ∃ sz, sz = Tm.sizeB l := ⟨_, rfl⟩
        rw [← hszz] at HSZ
        have hsz1 : sz ≤ 2001 := by rw [hszz]; unfold Tm.sizeB; omega
        have hszd : (2000 < 1 + Tm.size l + 3 + 2) ↔ 2000 < sz + 3 + 2 := by rw [hszz]; unfold Tm.sizeB; omega
        have t0 : ∀ o, (pq1.to.alloc o).cell? ⟨w.heap.size, 0, none⟩ = some (.int .i64 p.1) := fun o => (HT5.out.below (HWR.out.alloc HWR.out.size o) hwlt).kind
        have t1 : ∀ o, (pq1.to.alloc o).cell? ⟨w.heap.size, 1, none⟩ = some (.int .i64 p.2.1) := fun o => (HT5.out.below (HWR.out.alloc HWR.out.size o) hwlt).num
        have t2 : ∀ o, (pq1.to.alloc o).cell? ⟨w.heap.size, 2, none⟩ = some (.string p.2.2) := fun o => (HT5.out.below (HWR.out.alloc HWR.out.size o) hwlt).name
        have t3 : ∀ o, (pq1.to.alloc o).cell? ⟨w.heap.size, 3, none⟩ = some (.slice A m c) := fun o => (HT5.out.below (HWR.out.alloc HWR.out.size o) hwlt).args
        by_cases hbig : 2000 < 1 + Tm.size l + 3 + 2
        · have hL := last_big HLL.out hbig
          obtain ⟨rfl, rfl⟩ := Prod.mk.inj hL
          have d0' : pq1.to.cell? ⟨b4, o4 + 8, none⟩ = some (.int .i64 2) := (HD2.out.on HX.out h4lt).kind
          have d1' : pq1.to.cell? ⟨b4, o4 + 8 + 1, none⟩ = some (.int .i64 0) := (HD2.out.on HX.out h4lt).num
          have d2' : pq1.to.cell? ⟨b4, o4 + 8 + 2, none⟩ = some (.string ⟨#[46, 46, 46]⟩) := (HD2.out.on HX.out h4lt).name
          have d3' : pq1.to.cell? ⟨b4, o4 + 8 + 3, none⟩ = some (.slice B2 0 d2) := (HD2.out.on HX.out h4lt).args
          have hq0 : (2000 : Int) < (sz : Int) + 3 + 2 := by have := hszd.1 hbig; omega
          have q1 : (2000 : Int) < (sz : Int) + 3 + 2 := by omega
          have q2 : (2000 : Int) < (sz : Int) + 5 := by omega
          clear hq0
          clear hbig hL hszd hszz
          go_wp2_with fail
          refine (HSZ.out _ (HWR.out.alloc HWR.out.size _)).mono ?_
          rintro e w21 ⟨rfl, hb21⟩
          have hs21 := hb21.size
          simp only [World.size_alloc] at hs21
          have HB15 := Lib.hid (show TermAt w21 pq1.to.heap.size Tm.dots B2 0 d2 from TermAt.below (TermAt.new pq1.to Tm.dots B2 0 d2 24) hb21 (by simp))
          have HX := Lib.hid ((HX.out.alloc HX.out.size _).trans (hb21.mono (HX.out.alloc HX.out.size _).size))
          have HWR := Lib.hid ((HWR.out.alloc HWR.out.size _).trans (hb21.mono (HWR.out.alloc HWR.out.size _).size))
          have h15 : pq1.to.heap.size < w21.heap.size := by omega
          clear hb21 hs21 d0' d1' d2' d3' t0 t1 t2 t3 g3 HSZ
          have e0 : ∀ q : Bw w21, q.to.cell? ⟨pq1.to.heap.size, 0, none⟩ = some (.int .i64 2) := fun q => (HB15.out.below q.ok h15).kind
          have e1 : ∀ q : Bw w21, q.to.cell? ⟨pq1.to.heap.size, 1, none⟩ = some (.int .i64 0) := fun q => (HB15.out.below q.ok h15).num
          have e2 : ∀ q : Bw w21, q.to.cell? ⟨pq1.to.heap.size, 2, none⟩ = some (.string ⟨#[46, 46, 46]⟩) := fun q => (HB15.out.below q.ok h15).name
          have e3 : ∀ q : Bw w21, q.to.cell? ⟨pq1.to.heap.size, 3, none⟩ = some (.slice B2 0 d2) := fun q => (HB15.out.below q.ok h15).args
          have t0 : ∀ q : Bw w21, q.to.cell? ⟨w.heap.size, 0, none⟩ = some (.int .i64 p.1) := fun q => (HT5.out.below (HWR.out.trans (q.ok.mono HWR.out.size)) hwlt).kind
          have t1 : ∀ q : Bw w21, q.to.cell? ⟨w.heap.size, 1, none⟩ = some (.int .i64 p.2.1) := fun q => (HT5.out.below (HWR.out.trans (q.ok.mono HWR.out.size)) hwlt).num
          have t2 : ∀ q : Bw w21, q.to.cell? ⟨w.heap.size, 2, none⟩ = some (.string p.2.2) := fun q => (HT5.out.below (HWR.out.trans (q.ok.mono HWR.out.size)) hwlt).name
          have t3 : ∀ q : Bw w21, q.to.cell? ⟨w.heap.size, 3, none⟩ = some (.slice A m c) := fun q => (HT5.out.below (HWR.out.trans (q.ok.mono HWR.out.size)) hwlt).args
          have hX := fun q : Bw w21 => a_any ⟨#[46, 46, 46]⟩ q.to
          have hS := fun q : Bw w21 => sameV_self (2, 0, ⟨#[46, 46, 46]⟩) .nil (by kernel_rfl) rfl (A := B2) (A' := none) (c := d2) (c' := 0) (ArgsIn.nil _ q.to _) (ArgsIn.nil _ q.to _)
          go_wp2_with fail
          refine wp_region_bw hm11 (by kernel_rfl) ?_
          repeat (go_big_quiet_step (fail))
          go_big_quiet_step (exact calls_bw (hX _))
          repeat (go_big_quiet_step (fail))
          go_big_quiet_step (exact calls_bw (hS _))
          repeat (go_big_quiet_step (fail))
          refine wpQuiet_nil ?_
          intro _ hw'
          obtain ⟨pz, hw''⟩ := hw'
          subst hw''
          clear e0 e1 e2 e3 t0 t1 t2 t3 hS hX
          go_wp2_with fail
          have HX := Lib.hid (HX.out.trans (pz.ok.mono HX.out.size))
          have HWR := Lib.hid (HWR.out.trans (pz.ok.mono HWR.out.size))
          have HB15 := Lib.hid (HB15.out.below pz.ok h15)
          have h15 : pq1.to.heap.size < pz.to.heap.size := Nat.lt_of_lt_of_le h15 pz.ok.size
          have h6lt : b6 < w11.heap.size := HS6.out.1.2.1
          have h6n : b6 < w8.heap.size := HS6.out.2
          have h6w : wr.heap.size ≤ b6 := HS6.out.1.1
          have h811 := HRD.out.n8l
          have h11c : w11.heap.size ≤ pq1.to.heap.size := h11c
          refine sh24_walk (by kernel_rfl) s0 s1 2 r b1 o c' b6 o6 3 c1 pz.to (by omega) (Nat.lt_of_lt_of_le HRD.out.rlt HX.out.size) (Nat.lt_of_lt_of_le HRD.out.blt HX.out.size) (HRD.out.on HX.out).made.args (HRD.out.on HX.out).k3 rfl (Nat.lt_of_lt_of_le h6lt HX.out.size) (HF6.out.on HX.out h6lt) (HS6.out.1.2.2.same (HX.out.block _ h6lt)) ?_
          intro u w25 hbl hbk hsz25
          have HWR := Lib.hid (HWR.out.trans (hbl _ h6w HWR.out.size))
          have HB15 := Lib.hid (HB15.out.same (hbk pq1.to.heap.size h15 (by omega)))
          have h15 : pq1.to.heap.size < w25.heap.size := Nat.lt_of_lt_of_le h15 hsz25
          have HSE := Lib.hid (fun W (hb : Below wr.heap.size wr W) => sameV_self p l HVB.out HM.out.symm (A := A) (A' := A2) (c := c) (c' := c2) ((HAR.out.below hb (Nat.le_refl _)).up hb.size) ((HAW.out.below hb (Nat.le_refl _)).up hb.size))
          have e3 : w25.cell? ⟨pq1.to.heap.size, 3, none⟩ = some (.slice B2 0 d2) := HB15.out.args
          have t0 : w25.cell? ⟨w.heap.size, 0, none⟩ = some (.int .i64 p.1) := (HT5.out.below HWR.out hwlt).kind
          have t1 : w25.cell? ⟨w.heap.size, 1, none⟩ = some (.int .i64 p.2.1) := (HT5.out.below HWR.out hwlt).num
          have t2 : w25.cell? ⟨w.heap.size, 2, none⟩ = some (.string p.2.2) := (HT5.out.below HWR.out hwlt).name
          have t3 : w25.cell? ⟨w.heap.size, 3, none⟩ = some (.slice A m c) := (HT5.out.below HWR.out hwlt).args
          have s0' : w25.cell? ⟨w2.heap.size, 0, none⟩ = some (.int .i64 p.1) := (HTW.out.below HWR.out hsz).kind
          have s1' : w25.cell? ⟨w2.heap.size, 1, none⟩ = some (.int .i64 p.2.1) := (HTW.out.below HWR.out hsz).num
          have s2' : w25.cell? ⟨w2.heap.size, 2, none⟩ = some (.string p.2.2) := (HTW.out.below HWR.out hsz).name
          have s3' : w25.cell? ⟨w2.heap.size, 3, none⟩ = some (.slice A2 m c2) := (HTW.out.below HWR.out hsz).args
          go_wp2_with fail
          refine (HSE.out _ HWR.out).mono ?_
          rintro e w28 ⟨rfl, hb28⟩
          have HWR := Lib.hid (HWR.out.trans (hb28.mono HWR.out.size))
          go_wp2_with fail
          exact ⟨⟨5, by omega, rfl, HBR.out.trans (HWR.out.mono HBR.out.size), HT5.out.below HWR.out hwlt, HTW.out.below HWR.out hsz, Nat.lt_of_lt_of_le hsz HWR.out.size, (HAR.out.below HWR.out (Nat.le_refl _)).up HWR.out.size, (HAW.out.below HWR.out (Nat.le_refl _)).up HWR.out.size⟩, by simp [intOf]⟩
        · have hL := last_small HLL.out hbig
          obtain ⟨e1, e2⟩ := Prod.mk.inj hL
          replace e1 := e1.symm
          replace e2 := e2.symm
          subst e1 e2
          have d0' : pq1.to.cell? ⟨b4, o4 + 8, none⟩ = some (.int .i64 p.1) := (HD2.out.on HX.out h4lt).kind
          have d1' : pq1.to.cell? ⟨b4, o4 + 8 + 1, none⟩ = some (.int .i64 p.2.1) := (HD2.out.on HX.out h4lt).num
          have d2' : pq1.to.cell? ⟨b4, o4 + 8 + 2, none⟩ = some (.string p.2.2) := (HD2.out.on HX.out h4lt).name
          have d3' : pq1.to.cell? ⟨b4, o4 + 8 + 3, none⟩ = some (.slice B2 m d2) := (HD2.out.on HX.out h4lt).args.trans (by rw [HM.out])
          have hq0 : ¬ (2000 : Int) < (sz : Int) + 3 + 2 := by have := hszd; omega
          have q1 : decide ((2000 : Int) < (sz : Int) + 3 + 2) = false := by rw [decide_eq_false_iff_not]; omega
          have q2 : decide ((2000 : Int) < (sz : Int) + 5) = false := by rw [decide_eq_false_iff_not]; omega
          clear hq0
          clear hbig hL hszd hszz
          go_wp2_with fail
          refine (HSZ.out _ (HWR.out.alloc HWR.out.size _)).mono ?_
          rintro e w21 ⟨rfl, hb21⟩
          have hs21 := hb21.size
          simp only [World.size_alloc] at hs21
          have HB15 := Lib.hid (show TermAt w21 pq1.to.heap.size p B2 m d2 from TermAt.below (TermAt.new pq1.to p B2 m d2 24) hb21 (by simp))
          have HX := Lib.hid ((HX.out.alloc HX.out.size _).trans (hb21.mono (HX.out.alloc HX.out.size _).size))
          have HWR := Lib.hid ((HWR.out.alloc HWR.out.size _).trans (hb21.mono (HWR.out.alloc HWR.out.size _).size))
          have h15 : pq1.to.heap.size < w21.heap.size := by omega
          clear hb21 hs21 d0' d1' d2' d3' t0 t1 t2 t3 g3 HSZ
          have e0 : ∀ q : Bw w21, q.to.cell? ⟨pq1.to.heap.size, 0, none⟩ = some (.int .i64 p.1) := fun q => (HB15.out.below q.ok h15).kind
          have e1 : ∀ q : Bw w21, q.to.cell? ⟨pq1.to.heap.size, 1, none⟩ = some (.int .i64 p.2.1) := fun q => (HB15.out.below q.ok h15).num
          have e2 : ∀ q : Bw w21, q.to.cell? ⟨pq1.to.heap.size, 2, none⟩ = some (.string p.2.2) := fun q => (HB15.out.below q.ok h15).name
          have e3 : ∀ q : Bw w21, q.to.cell? ⟨pq1.to.heap.size, 3, none⟩ = some (.slice B2 m d2) := fun q => (HB15.out.below q.ok h15).args
          have t0 : ∀ q : Bw w21, q.to.cell? ⟨w.heap.size, 0, none⟩ = some (.int .i64 p.1) := fun q => (HT5.out.below (HWR.out.trans (q.ok.mono HWR.out.size)) hwlt).kind
          have t1 : ∀ q : Bw w21, q.to.cell? ⟨w.heap.size, 1, none⟩ = some (.int .i64 p.2.1) := fun q => (HT5.out.below (HWR.out.trans (q.ok.mono HWR.out.size)) hwlt).num
          have t2 : ∀ q : Bw w21, q.to.cell? ⟨w.heap.size, 2, none⟩ = some (.string p.2.2) := fun q => (HT5.out.below (HWR.out.trans (q.ok.mono HWR.out.size)) hwlt).name
          have t3 : ∀ q : Bw w21, q.to.cell? ⟨w.heap.size, 3, none⟩ = some (.slice A m c) := fun q => (HT5.out.below (HWR.out.trans (q.ok.mono HWR.out.size)) hwlt).args
          have hS := fun q : Bw w21 => sameV_self p l HVB.out HM.out.symm (A := B2) (A' := A) (c := d2) (c' := c) (HM.out ▸ ((HD2.out.on (HX.out.trans (q.ok.mono HX.out.size)) h4lt).inn.mono fun b hb => hb.2.1)) ((HAR.out.below (HWR.out.trans (q.ok.mono HWR.out.size)) (Nat.le_refl _)).up (HWR.out.trans (q.ok.mono HWR.out.size)).size)
          go_wp2_with fail
          refine wp_region_bw hm11 (by kernel_rfl) ?_
          repeat (go_big_quiet_step (fail))
          go_big_quiet_step (exact calls_bw (hS _))
          repeat (go_big_quiet_step (fail))
          refine wpQuiet_nil ?_
          intro _ hw'
          obtain ⟨pz, hw''⟩ := hw'
          subst hw''
          clear e0 e1 e2 e3 t0 t1 t2 t3 hS
          go_wp2_with fail
          have HX := Lib.hid (HX.out.trans (pz.ok.mono HX.out.size))
          have HWR := Lib.hid (HWR.out.trans (pz.ok.mono HWR.out.size))
          have HB15 := Lib.hid (HB15.out.below pz.ok h15)
          have h15 : pq1.to.heap.size < pz.to.heap.size := Nat.lt_of_lt_of_le h15 pz.ok.size
          have h6lt : b6 < w11.heap.size := HS6.out.1.2.1
          have h6n : b6 < w8.heap.size := HS6.out.2
          have h6w : wr.heap.size ≤ b6 := HS6.out.1.1
          have h811 := HRD.out.n8l
          have h11c : w11.heap.size ≤ pq1.to.heap.size := h11c
          refine sh24_walk (by kernel_rfl) s0 s1 2 r b1 o c' b6 o6 3 c1 pz.to (by omega) (Nat.lt_of_lt_of_le HRD.out.rlt HX.out.size) (Nat.lt_of_lt_of_le HRD.out.blt HX.out.size) (HRD.out.on HX.out).made.args (HRD.out.on HX.out).k3 rfl (Nat.lt_of_lt_of_le h6lt HX.out.size) (HF6.out.on HX.out h6lt) (HS6.out.1.2.2.same (HX.out.block _ h6lt)) ?_
          intro u w25 hbl hbk hsz25
          have HWR := Lib.hid (HWR.out.trans (hbl _ h6w HWR.out.size))
          have HB15 := Lib.hid (HB15.out.same (hbk pq1.to.heap.size h15 (by omega)))
          have h15 : pq1.to.heap.size < w25.heap.size := Nat.lt_of_lt_of_le h15 hsz25
          have HSE := Lib.hid (fun W (hb : Below wr.heap.size wr W) => sameV_self p l HVB.out HM.out.symm (A := A) (A' := A2) (c := c) (c' := c2) ((HAR.out.below hb (Nat.le_refl _)).up hb.size) ((HAW.out.below hb (Nat.le_refl _)).up hb.size))
          by_cases hm0 : m = 0
          · subst hm0
            have e3 : w25.cell? ⟨pq1.to.heap.size, 3, none⟩ = some (.slice B2 0 d2) := HB15.out.args
            have t0 : w25.cell? ⟨w.heap.size, 0, none⟩ = some (.int .i64 p.1) := (HT5.out.below HWR.out hwlt).kind
            have t1 : w25.cell? ⟨w.heap.size, 1, none⟩ = some (.int .i64 p.2.1) := (HT5.out.below HWR.out hwlt).num
            have t2 : w25.cell? ⟨w.heap.size, 2, none⟩ = some (.string p.2.2) := (HT5.out.below HWR.out hwlt).name
            have t3 : w25.cell? ⟨w.heap.size, 3, none⟩ = some (.slice A 0 c) := (HT5.out.below HWR.out hwlt).args
            have s0' : w25.cell? ⟨w2.heap.size, 0, none⟩ = some (.int .i64 p.1) := (HTW.out.below HWR.out hsz).kind
            have s1' : w25.cell? ⟨w2.heap.size, 1, none⟩ = some (.int .i64 p.2.1) := (HTW.out.below HWR.out hsz).num
            have s2' : w25.cell? ⟨w2.heap.size, 2, none⟩ = some (.string p.2.2) := (HTW.out.below HWR.out hsz).name
            have s3' : w25.cell? ⟨w2.heap.size, 3, none⟩ = some (.slice A2 0 c2) := (HTW.out.below HWR.out hsz).args
            go_wp2_with fail
            refine (HSE.out _ HWR.out).mono ?_
            rintro e w28 ⟨rfl, hb28⟩
            have HWR := Lib.hid (HWR.out.trans (hb28.mono HWR.out.size))
            go_wp2_with fail
            exact ⟨⟨5, by omega, rfl, HBR.out.trans (HWR.out.mono HBR.out.size), HT5.out.below HWR.out hwlt, HTW.out.below HWR.out hsz, Nat.lt_of_lt_of_le hsz HWR.out.size, (HAR.out.below HWR.out (Nat.le_refl _)).up HWR.out.size, (HAW.out.below HWR.out (Nat.le_refl _)).up HWR.out.size⟩, by simp [intOf]⟩
          · have hmp : 0 < m := by omega
            have hmq : (0 : Int) < (m : Int) := by omega
            have hml : 0 < Tm.len l := by rw [← HM.out]; exact hmp
            obtain ⟨b7, o7, p7, l7, r7, C7, f7, eB, hS7, _, hd7⟩ := (HD2.out.on HX.out h4lt).inn.at (k := 0) hml
            subst eB
            have h7lt : b7 < pz.to.heap.size := hS7.2.1
            have h7n : w8.heap.size ≤ b7 := hS7.1
            have hne : b7 ≠ b6 := by omega
            have hk7 := hbk b7 h7lt hne
            have hf7 := hS7.2.2.same hk7
            have x0 : w25.cell? ⟨b7, o7, none⟩ = some (.int .i64 p7.1) := (cell_of_block (p := ⟨b7, o7, none⟩) hk7).trans hd7.kind
            have x1 : w25.cell? ⟨b7, o7 + 1, none⟩ = some (.int .i64 p7.2.1) := (cell_of_block (p := ⟨b7, o7 + 1, none⟩) hk7).trans hd7.num
            have x2 : w25.cell? ⟨b7, o7 + 2, none⟩ = some (.string p7.2.2) := (cell_of_block (p := ⟨b7, o7 + 2, none⟩) hk7).trans hd7.name
            have x3 : w25.cell? ⟨b7, o7 + 3, none⟩ = some (.slice C7 (Tm.len l7) f7) := (cell_of_block (p := ⟨b7, o7 + 3, none⟩) hk7).trans hd7.args
            have z0 : w25.frozen? ⟨b7, o7, none⟩ = false := hf7 o7
            have z1 : w25.frozen? ⟨b7, o7 + 1, none⟩ = false := hf7 (o7 + 1)
            have z2 : w25.frozen? ⟨b7, o7 + 2, none⟩ = false := hf7 (o7 + 2)
            have z3 : w25.frozen? ⟨b7, o7 + 3, none⟩ = false := hf7 (o7 + 3)
            have hn1 : ¬ w.heap.size = b7 := by omega
            have hn2 : ¬ w2.heap.size = b7 := by omega
            have hn3 : ¬ b7 = w.heap.size := by omega
            have hn4 : ¬ b7 = w2.heap.size := by omega
            clear hd7 hS7 hk7 hf7
            have e3 : w25.cell? ⟨pq1.to.heap.size, 3, none⟩ = some (.slice (some ⟨b7, o7, none⟩) m d2) := HB15.out.args
            have t0 : w25.cell? ⟨w.heap.size, 0, none⟩ = some (.int .i64 p.1) := (HT5.out.below HWR.out hwlt).kind
            have t1 : w25.cell? ⟨w.heap.size, 1, none⟩ = some (.int .i64 p.2.1) := (HT5.out.below HWR.out hwlt).num
            have t2 : w25.cell? ⟨w.heap.size, 2, none⟩ = some (.string p.2.2) := (HT5.out.below HWR.out hwlt).name
            have t3 : w25.cell? ⟨w.heap.size, 3, none⟩ = some (.slice A m c) := (HT5.out.below HWR.out hwlt).args
            have s0' : w25.cell? ⟨w2.heap.size, 0, none⟩ = some (.int .i64 p.1) := (HTW.out.below HWR.out hsz).kind
            have s1' : w25.cell? ⟨w2.heap.size, 1, none⟩ = some (.int .i64 p.2.1) := (HTW.out.below HWR.out hsz).num
            have s2' : w25.cell? ⟨w2.heap.size, 2, none⟩ = some (.string p.2.2) := (HTW.out.below HWR.out hsz).name
            have s3' : w25.cell? ⟨w2.heap.size, 3, none⟩ = some (.slice A2 m c2) := (HTW.out.below HWR.out hsz).args
            go_wp2_with fail
            have hend : Below wr.heap.size wr (set4 w25 b7 o7 (7, 0, ByteArray.empty) none 0 0) := below_set4 HWR.out (by omega)
            have HEND := Lib.hid hend
            clear hend
            refine (HSE.out _ HEND.out).mono ?_
            rintro e w28 ⟨rfl, hb28⟩
            have HWR := Lib.hid (HEND.out.trans (hb28.mono HEND.out.size))
            go_wp2_with fail
            exact ⟨⟨5, by omega, rfl, HBR.out.trans (HWR.out.mono HBR.out.size), HT5.out.below HWR.out hwlt, HTW.out.below HWR.out hsz, Nat.lt_of_lt_of_le hsz HWR.out.size, (HAR.out.below HWR.out (Nat.le_refl _)).up HWR.out.size, (HAW.out.below HWR.out (Nat.le_refl _)).up HWR.out.size⟩, by simp [intOf]⟩
    · obtain rfl : k = 5 := by omega
      clear hk hlt
      go_wp2_with fail
      refine (HA.out _).mono ?_
      rintro e w4 ⟨rfl, hb4⟩
      go_wp2_with fail
      go_ret
      exact ⟨rfl, HBR.out.trans (hb4.mono HBR.out.size)⟩
theorem lShape_any (s0 s1 : ByteArray) (p2 : Pay) (l2 : Fo) (A2 : Option Addr) (c2 : Nat) (B : Nat) (w : World) (hA2 : ArgsB w B A2 (Tm.len l2) l2) (hB : B ≤ w.heap.size) :
    Calls Try.prog 7 #[.string s0, .string s1, tv p2 A2 (Tm.len l2) c2] w fun e w' => e = .returned (.bool true) ∧ Below w.heap.size w w' := by
  by_cases h0 : s0.size ≤ 100
  · by_cases h1 : s1.size ≤ 100
    · cases hv : Tm.validB p2 l2
      · exact shape_invalid s0 s1 p2 l2 A2 c2 w h0 h1 (hA2.up hB) hv
      · exact shape_main s0 s1 p2 l2 A2 c2 w h0 h1 (hA2.up hB) hv
    · exact shape_long1 s0 s1 p2 l2 A2 c2 w h0 (by omega)
  · exact shape_long0 s0 s1 p2 l2 A2 c2 w (by omega)
end Go.Proofs.Ytapcnehpechkpaa
