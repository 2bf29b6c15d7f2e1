/-
  Package balls: whether one of a row's terms is a variable.
-/
import Derived.Test.YtapcnehpechkpaaChk
namespace Go.Proofs.Ytapcnehpechkpaa
set_option linter.unusedVariables false
set_option linter.unusedSimpArgs false
set_option maxRecDepth 100000
open Go.RowKit

theorem Bl.anyVar_at {F : Fo} {k : Nat} {p : Pay} {l r : Fo} (hd : Tm.dropF F k = .node p l r) (h : p.1 = 0) : Bl.anyVar F = true := by
  induction F generalizing k with
  | nil => rw [Tm.drop_nil] at hd; cases hd
  | node p' l' r' _ ih => cases k with
    | zero => cases hd; simp [Bl.anyVar, h]
    | succ k => simp only [Bl.anyVar, ih hd, Bool.or_true]
theorem Bl.anyVar_next {F : Fo} {k : Nat} {p : Pay} {l r : Fo} (hd : Tm.dropF F k = .node p l r) (h : ¬ p.1 = 0) : Bl.anyVar (Tm.dropF F k) = Bl.anyVar (Tm.dropF F (k + 1)) := by
  rw [Tm.drop_succ hd, hd]
  simp [Bl.anyVar, h]
theorem enters_isVariable : ∀ (args : Array Value) (w : World), (callFunc 76 args).run Try.prog w = .ok (.enter 76 args) w := fun args w => by kernel_rfl

set_option maxHeartbeats 2000000 in
theorem index_any (F : Fo) (A : Option Addr) (n c B : Nat) (w : World) (hA : ArgsB w B A n F) (hn : n ≤ 4611686018427387904) (hB : B ≤ w.heap.size) :
    Calls Try.prog 90 #[.slice A n c, .func (.func 76) #[] #[]] w fun e w' => ∃ z : Int, e = .returned (.int .i64 z) ∧ decide (0 ≤ z) = Bl.anyVar F ∧ Below w.heap.size w w' := by
  have HA := Lib.hid hA
  have eg := enters_isVariable
  have hn2 : n ≤ 9223372036854775807 := by omega
  have HN := Lib.hid hA.len
  clear hA
  go_enter Try.func90, Try.ntmps90
  go_wp2_with fail
  go_loopw [8] (fun u wr => ∃ k : Nat, k ≤ n ∧ u = .int .i64 k ∧ Hid (Bl.anyVar F = Bl.anyVar (Tm.dropF F k)) ∧ Below w.heap.size w wr) (fun u _ => n - (intOf u).toNat)
  case atStart => exact ⟨0, Nat.zero_le _, rfl, by simp [Hid, Tm.drop_zero], Below.refl _ _⟩
  case round =>
    obtain ⟨k, hk, rfl, HP, hbl⟩ := hrel
    have HBL := Lib.hid hbl
    clear hbl
    by_cases hlt : k < n
    · obtain ⟨b, o, p1, l1, r1, A1, c1, rfl, hbB, hd, hnode⟩ := HA.out.at hlt
      have hbw : b < w.heap.size := Nat.lt_of_lt_of_le hbB hB
      have y0 := (HBL.out.cell (p := ⟨b, o + k * 4, none⟩) hbw).trans hnode.kind
      have y1 := (HBL.out.cell (p := ⟨b, o + k * 4 + 1, none⟩) hbw).trans hnode.num
      have y2 := (HBL.out.cell (p := ⟨b, o + k * 4 + 2, none⟩) hbw).trans hnode.name
      have y3 := (HBL.out.cell (p := ⟨b, o + k * 4 + 3, none⟩) hbw).trans hnode.args
      have HD := Lib.hid hd
      obtain ⟨m1, hm1⟩ : ∃ m1, m1 = Tm.len l1 := ⟨_, rfl⟩
      rw [← hm1] at y3
      have V1 := Lib.hid fun (w1 : World) => isVariable_any p1 A1 m1 c1 w1
      obtain ⟨v, hv⟩ : ∃ v, v = decide (p1.1 = 0) := ⟨_, rfl⟩
      rw [← hv] at V1
      have HV := Lib.hid hv
      clear hd hnode hm1 hv
      have hws := HBL.out.size
      cases v
      · go_wp2_with fail
        refine (V1.out _).mono ?_
        rintro e w3 ⟨rfl, hb2⟩
        go_wp2_with fail
        refine ⟨⟨k + 1, by omega, by go_num, HP.out.trans (Bl.anyVar_next HD.out (of_decide_eq_false HV.out.symm)), HBL.out.trans (hb2.mono hws)⟩, by simp [intOf]; omega⟩
      · go_wp2_with fail
        refine (V1.out _).mono ?_
        rintro e w3 ⟨rfl, hb2⟩
        go_wp2_with fail
        go_ret
        exact ⟨_, rfl, by rw [Bl.anyVar_at HD.out (of_decide_eq_true HV.out.symm)]; simp, HBL.out.trans (hb2.mono hws)⟩
    · obtain rfl : k = n := by omega
      go_wp2_with fail
      go_ret
      refine ⟨_, rfl, ?_, HBL.out⟩
      rw [HP.out, ← HN.out, Tm.drop_end]
      rfl
set_option maxHeartbeats 1000000 in
theorem contains_any (F : Fo) (A : Option Addr) (c B : Nat) (w : World) (hA : ArgsB w B A (Tm.len F) F) (hn : Tm.len F ≤ 4611686018427387904) (hB : B ≤ w.heap.size) :
    Calls Try.prog 75 #[.slice A (Tm.len F) c, .func (.func 76) #[] #[]] w fun e w' => e = .returned (.bool (Bl.anyVar F)) ∧ Below w.heap.size w w' := by
  have I1 := Lib.hid (index_any F A (Tm.len F) c B w hA hn hB)
  obtain ⟨n, hn2⟩ : ∃ n, n = Tm.len F := ⟨_, rfl⟩
  rw [← hn2] at I1 ⊢
  clear hA hn2 hn
  go_enter Try.func75, Try.ntmps75
  go_wp2_with fail
  refine I1.out.mono ?_
  rintro e w3 ⟨z, rfl, hz, hb⟩
  have HZ := Lib.hid hz
  have HB := Lib.hid hb
  clear hz hb
  go_wp2_with fail
  go_ret
  exact ⟨by rw [HZ.out]; rfl, HB.out⟩
section
variable {ops : Array Oper} {Q : Exit → Act → World → Prop} {E : Nat → Kd} {D : Nat → Nat} {base : Nat → Option Kd} {N : Nat}
theorem step_contains {i : Nat} {x : Operand} {F : Fo} (hn : Tm.len F ≤ 4611686018427387904) (hop : (ops[i]?).map (·.op) = some (.call { callee := .value (.func 75), args := #[x, .func 76], argTypes := #[22, 37] })) (hx : Opd ops E D base N i x (.row F)) (hE : E i = .val (.bool (Bl.anyVar F))) : Step Try.prog ops Q E D base N i :=
  step_call hop (fun _ _ => by kernel_rfl) fun a w h => by
    obtain ⟨A, c, e, ha⟩ := hx a w h
    rw [show (#[x, .func 76] : Array Operand).map a.eval = #[.slice A (Tm.len F) c, .func (.func 76) #[] #[]] by rw [← e]; simp; rfl]
    exact (contains_any F A c w.heap.size w ha hn (Nat.le_refl _)).mono fun e w' ⟨he, hbl⟩ => ⟨_, he, by rw [hE]; rfl, hbl⟩
end
end Go.Proofs.Ytapcnehpechkpaa
