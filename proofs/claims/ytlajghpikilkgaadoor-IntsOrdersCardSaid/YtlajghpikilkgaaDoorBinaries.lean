/-
  The table of the functions of two integers.
-/
import Derived.Test.YtlajghpikilkgaaDoorTable
namespace Go.Proofs.YtlajghpikilkgaaDoor
set_option linter.unusedVariables false
set_option linter.unusedSimpArgs false
open Go.RowKit

/-- Which plain function each name of the chapter's table leads to; the last one stored stands first. -/
def specB : Spec (Int → Int → Int × Int) :=
  [([103, 99, 100], In.gcd), ([94], In.pow), ([120, 111, 114], fun a b => (bits .xor .i64 a b, 0)), ([92, 47], fun a b => (bits .or .i64 a b, 0)), ([47, 92], fun a b => (bits .and .i64 a b, 0)),
   ([60, 60], In.shl), ([62, 62], In.shr), ([109, 97, 120], In.most), ([109, 105, 110], In.least), ([109, 111, 100], In.mod), ([100, 105, 118], In.div), ([114, 101, 109], In.rem), ([47, 47], In.quo),
   ([42], fun a b => In.fit (a * b)), ([45], fun a b => In.fit (a - b)), ([43], fun a b => In.fit (a + b))]

theorem sem_plain {B g : Nat} {w : World} {pre : Int → Int → Prop} {F : Int → Int → Int × Int} (h : Sem2 B w g #[] pre F) : Sem2 B w g #[] pre F := h

def Made2 (w : World) (e : Ending) (w' : World) : Prop := e = .returned (.map (some w.heap.size)) ∧ St (G2 w.heap.size) w 16 specB w'

set_option maxHeartbeats 4000000 in
set_option maxRecDepth 100000 in
theorem binaries_any (w : World) : Calls Tryd.prog 28 #[] w (Made2 w) := by
  have hmm := @run_makeMap Tryd.prog
  have sG := stable2 w.heap.size
  have SG := Lib.hid sG
  clear sG
  go_enter Tryd.func28, Tryd.ntmps28
  go_wp2_with fail
  have st := St.start (G := G2 w.heap.size) w
  have S0 := Lib.hid st
  clear st
  obtain ⟨w1, hr, st⟩ := S0.out.insert SG.out Tryd.underlying51 (by decide) ⟨#[43]⟩ (by decide) (.func (.func 52) #[] #[]) (fun a b => In.fit (a + b)) ⟨_, _, rfl, gAdd _ _⟩
  rw [hr]
  have S1 := Lib.hid st
  clear st hr
  go_wp2_with fail
  obtain ⟨w2, hr, st⟩ := S1.out.insert SG.out Tryd.underlying51 (by decide) ⟨#[45]⟩ (by decide) (.func (.func 53) #[] #[]) (fun a b => In.fit (a - b)) ⟨_, _, rfl, gSub _ _⟩
  rw [hr]
  have S2 := Lib.hid st
  clear st hr
  go_wp2_with fail
  obtain ⟨w3, hr, st⟩ := S2.out.insert SG.out Tryd.underlying51 (by decide) ⟨#[42]⟩ (by decide) (.func (.func 54) #[] #[]) (fun a b => In.fit (a * b)) ⟨_, _, rfl, gMul _ _⟩
  rw [hr]
  have S3 := Lib.hid st
  clear st hr
  go_wp2_with fail
  refine (divisor_any w.heap.size _ _ _ _ (gQuo _ _) S3.out.2.2).mono ?_
  rintro e w4 ⟨g1, cap1, rfl, hs, hb⟩
  have HS1 := Lib.hid hs
  have S4 := Lib.hid (S3.out.call SG.out hb)
  clear hs hb
  go_wp2_with fail
  obtain ⟨w5, hr, st⟩ := S4.out.insert SG.out Tryd.underlying51 (by decide) ⟨#[47, 47]⟩ (by decide) (.func (.func g1) #[] cap1) In.quo ⟨_, _, rfl, HS1.out⟩
  rw [hr]
  have S5 := Lib.hid st
  clear st hr
  go_wp2_with fail
  refine (total_any w.heap.size _ _ _ fRem _ S5.out.2.2).mono ?_
  rintro e w6 ⟨g2, cap2, rfl, hs, hb⟩
  have HS2 := Lib.hid hs
  have S6 := Lib.hid (S5.out.call SG.out hb)
  clear hs hb
  go_wp2_with fail
  refine (divisor_any w.heap.size _ _ _ _ HS2.out S6.out.2.2).mono ?_
  rintro e w7 ⟨g3, cap3, rfl, hs, hb⟩
  have HS3 := Lib.hid hs
  have S7 := Lib.hid (S6.out.call SG.out hb)
  clear hs hb
  go_wp2_with fail
  obtain ⟨w8, hr, st⟩ := S7.out.insert SG.out Tryd.underlying51 (by decide) ⟨#[114, 101, 109]⟩ (by decide) (.func (.func g3) #[] cap3) In.rem ⟨_, _, rfl, HS3.out⟩
  rw [hr]
  have S8 := Lib.hid st
  clear st hr
  go_wp2_with fail
  refine (divisor_any w.heap.size _ _ _ _ (gDiv _ _) S8.out.2.2).mono ?_
  rintro e w9 ⟨g4, cap4, rfl, hs, hb⟩
  have HS4 := Lib.hid hs
  have S9 := Lib.hid (S8.out.call SG.out hb)
  clear hs hb
  go_wp2_with fail
  obtain ⟨w10, hr, st⟩ := S9.out.insert SG.out Tryd.underlying51 (by decide) ⟨#[100, 105, 118]⟩ (by decide) (.func (.func g4) #[] cap4) In.div ⟨_, _, rfl, HS4.out⟩
  rw [hr]
  have S10 := Lib.hid st
  clear st hr
  go_wp2_with fail
  refine (total_any w.heap.size _ _ _ fMod _ S10.out.2.2).mono ?_
  rintro e w11 ⟨g5, cap5, rfl, hs, hb⟩
  have HS5 := Lib.hid hs
  have S11 := Lib.hid (S10.out.call SG.out hb)
  clear hs hb
  go_wp2_with fail
  refine (divisor_any w.heap.size _ _ _ _ HS5.out S11.out.2.2).mono ?_
  rintro e w12 ⟨g6, cap6, rfl, hs, hb⟩
  have HS6 := Lib.hid hs
  have S12 := Lib.hid (S11.out.call SG.out hb)
  clear hs hb
  go_wp2_with fail
  obtain ⟨w13, hr, st⟩ := S12.out.insert SG.out Tryd.underlying51 (by decide) ⟨#[109, 111, 100]⟩ (by decide) (.func (.func g6) #[] cap6) In.mod ⟨_, _, rfl, HS6.out⟩
  rw [hr]
  have S13 := Lib.hid st
  clear st hr
  go_wp2_with fail
  refine (total_any w.heap.size _ _ _ fMin _ S13.out.2.2).mono ?_
  rintro e w14 ⟨g7, cap7, rfl, hs, hb⟩
  have HS7 := Lib.hid hs
  have S14 := Lib.hid (S13.out.call SG.out hb)
  clear hs hb
  go_wp2_with fail
  obtain ⟨w15, hr, st⟩ := S14.out.insert SG.out Tryd.underlying51 (by decide) ⟨#[109, 105, 110]⟩ (by decide) (.func (.func g7) #[] cap7) In.least ⟨_, _, rfl, HS7.out⟩
  rw [hr]
  have S15 := Lib.hid st
  clear st hr
  go_wp2_with fail
  refine (total_any w.heap.size _ _ _ fMax _ S15.out.2.2).mono ?_
  rintro e w16 ⟨g8, cap8, rfl, hs, hb⟩
  have HS8 := Lib.hid hs
  have S16 := Lib.hid (S15.out.call SG.out hb)
  clear hs hb
  go_wp2_with fail
  obtain ⟨w17, hr, st⟩ := S16.out.insert SG.out Tryd.underlying51 (by decide) ⟨#[109, 97, 120]⟩ (by decide) (.func (.func g8) #[] cap8) In.most ⟨_, _, rfl, HS8.out⟩
  rw [hr]
  have S17 := Lib.hid st
  clear st hr
  go_wp2_with fail
  refine (total_any w.heap.size _ _ _ fShr _ S17.out.2.2).mono ?_
  rintro e w18 ⟨g9, cap9, rfl, hs, hb⟩
  have HS9 := Lib.hid hs
  have S18 := Lib.hid (S17.out.call SG.out hb)
  clear hs hb
  go_wp2_with fail
  refine (count_any w.heap.size _ _ _ _ HS9.out S18.out.2.2).mono ?_
  rintro e w19 ⟨g10, cap10, rfl, hs, hb⟩
  have HS10 := Lib.hid hs
  have S19 := Lib.hid (S18.out.call SG.out hb)
  clear hs hb
  go_wp2_with fail
  obtain ⟨w20, hr, st⟩ := S19.out.insert SG.out Tryd.underlying51 (by decide) ⟨#[62, 62]⟩ (by decide) (.func (.func g10) #[] cap10) In.shr ⟨_, _, rfl, HS10.out⟩
  rw [hr]
  have S20 := Lib.hid st
  clear st hr
  go_wp2_with fail
  refine (count_any w.heap.size _ _ _ _ (gShl _ _) S20.out.2.2).mono ?_
  rintro e w21 ⟨g11, cap11, rfl, hs, hb⟩
  have HS11 := Lib.hid hs
  have S21 := Lib.hid (S20.out.call SG.out hb)
  clear hs hb
  go_wp2_with fail
  obtain ⟨w22, hr, st⟩ := S21.out.insert SG.out Tryd.underlying51 (by decide) ⟨#[60, 60]⟩ (by decide) (.func (.func g11) #[] cap11) In.shl ⟨_, _, rfl, HS11.out⟩
  rw [hr]
  have S22 := Lib.hid st
  clear st hr
  go_wp2_with fail
  refine (total_any w.heap.size _ _ _ fAnd _ S22.out.2.2).mono ?_
  rintro e w23 ⟨g12, cap12, rfl, hs, hb⟩
  have HS12 := Lib.hid hs
  have S23 := Lib.hid (S22.out.call SG.out hb)
  clear hs hb
  go_wp2_with fail
  obtain ⟨w24, hr, st⟩ := S23.out.insert SG.out Tryd.underlying51 (by decide) ⟨#[47, 92]⟩ (by decide) (.func (.func g12) #[] cap12) (fun a b => (bits .and .i64 a b, 0)) ⟨_, _, rfl, HS12.out⟩
  rw [hr]
  have S24 := Lib.hid st
  clear st hr
  go_wp2_with fail
  refine (total_any w.heap.size _ _ _ fOr _ S24.out.2.2).mono ?_
  rintro e w25 ⟨g13, cap13, rfl, hs, hb⟩
  have HS13 := Lib.hid hs
  have S25 := Lib.hid (S24.out.call SG.out hb)
  clear hs hb
  go_wp2_with fail
  obtain ⟨w26, hr, st⟩ := S25.out.insert SG.out Tryd.underlying51 (by decide) ⟨#[92, 47]⟩ (by decide) (.func (.func g13) #[] cap13) (fun a b => (bits .or .i64 a b, 0)) ⟨_, _, rfl, HS13.out⟩
  rw [hr]
  have S26 := Lib.hid st
  clear st hr
  go_wp2_with fail
  refine (total_any w.heap.size _ _ _ fXor _ S26.out.2.2).mono ?_
  rintro e w27 ⟨g14, cap14, rfl, hs, hb⟩
  have HS14 := Lib.hid hs
  have S27 := Lib.hid (S26.out.call SG.out hb)
  clear hs hb
  go_wp2_with fail
  obtain ⟨w28, hr, st⟩ := S27.out.insert SG.out Tryd.underlying51 (by decide) ⟨#[120, 111, 114]⟩ (by decide) (.func (.func g14) #[] cap14) (fun a b => (bits .xor .i64 a b, 0)) ⟨_, _, rfl, HS14.out⟩
  rw [hr]
  have S28 := Lib.hid st
  clear st hr
  go_wp2_with fail
  obtain ⟨w29, hr, st⟩ := S28.out.insert SG.out Tryd.underlying51 (by decide) ⟨#[94]⟩ (by decide) (.func (.func 69) #[] #[]) In.pow ⟨_, _, rfl, gPow _ _⟩
  rw [hr]
  have S29 := Lib.hid st
  clear st hr
  go_wp2_with fail
  obtain ⟨w30, hr, st⟩ := S29.out.insert SG.out Tryd.underlying51 (by decide) ⟨#[103, 99, 100]⟩ (by decide) (.func (.func 70) #[] #[]) In.gcd ⟨_, _, rfl, gGcd _ _⟩
  rw [hr]
  have S30 := Lib.hid st
  clear st hr
  go_wp2_with fail
  go_ret
  exact ⟨rfl, S30.out⟩
end Go.Proofs.YtlajghpikilkgaaDoor
