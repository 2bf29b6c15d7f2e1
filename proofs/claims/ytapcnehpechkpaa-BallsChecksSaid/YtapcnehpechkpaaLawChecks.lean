/-
  The statement BallsChecks, as its function.
-/
import Derived.Test.YtapcnehpechkpaaLawChecksB
namespace Go.Proofs.Ytapcnehpechkpaa
set_option linter.unusedVariables false
set_option linter.unusedSimpArgs false
set_option maxRecDepth 100000
open Go.RowKit
theorem lChecks0a_region {Q : Exit → Act → World → Prop} (p0 : Pay) (l0 : Fo)  {w0 : World} {a : Act} {w : World} (h : Hold 275 [(0, .term p0 l0), (990, .sat (gP 0 none))] w0 a w)
    (hQ : ∀ a' w', Hold 275 [(990, .sat (gP 0 none)), (1, .ptrT p0 l0), (2, .val (.bool false))] w0 a' w' → Q .normal a' w') : (Code.region 0 lChecks0Ops false).wp Try.prog Q a w := by
  refine region_seq (w0 := w) 2 (by kernel_rfl) ?_
  rw [show List.range 2 = [0, 1] from rfl]
  refine env_one (i := 0) (d := 1) (k := .ptrT p0 l0) (step_box (by kernel_rfl) (Opd.of_base 0 rfl) rfl) (by kernel_rfl) (by decide) h ?_
  clear h
  intro a w h
  refine env_one (i := 1) (d := 2) (k := .val (.bool false)) (step_assign (by kernel_rfl) (Opd.const _) rfl) (by kernel_rfl) (by decide) h ?_
  clear h
  intro a w h
  exact hQ a w (h.keep [990, 1, 2])
theorem lChecks1_region {Q : Exit → Act → World → Prop} (p0 : Pay) (l0 : Fo) {w0 : World} {a : Act} {w : World} (h : Hold 275 [(990, .sat (gP 0 none)), (1, .ptrT p0 l0), (2, .val (.bool false))] w0 a w)
    (hQ : ∀ a' w', (∃ s, w0.heap.size ≤ s ∧ Hold 275 [(1, .sat (oP s p0 l0)), (2, .val (.bool false)), (3, .sat (aZ s 32)), (990, .sat (gP (s + 1) none))] w0 a' w') → Q .normal a' w') : (Code.region 1 lChecks1Ops false).wp Try.prog Q a w := by
  obtain ⟨b, o, A, c, e, hlt, hn⟩ := h.get 1 rfl
  refine region_seq (w0 := w) 1 (by kernel_rfl) ?_
  rw [show List.range 1 = [0] from rfl]
  refine wpOps_allocB (d := 3) (by kernel_rfl) ?_
  have hb : Below w.heap.size w (w.alloc (.cells #[.int .i64 0, .int .i64 0, .string ⟨#[]⟩, .slice none 0 0, .int .i64 0, .int .i64 0, .string ⟨#[]⟩, .slice none 0 0, .int .i64 0, .int .i64 0, .string ⟨#[]⟩, .slice none 0 0, .int .i64 0, .int .i64 0, .string ⟨#[]⟩, .slice none 0 0, .int .i64 0, .int .i64 0, .string ⟨#[]⟩, .slice none 0 0, .int .i64 0, .int .i64 0, .string ⟨#[]⟩, .slice none 0 0, .int .i64 0, .int .i64 0, .string ⟨#[]⟩, .slice none 0 0, .int .i64 0, .int .i64 0, .string ⟨#[]⟩, .slice none 0 0] 55)) := (Below.refl _ _).alloc (Nat.le_refl _) _
  exact hQ _ _ ⟨w.heap.size, h.world.size, put_size.trans h.size, h.defers, h.world.trans (hb.mono h.world.size), (slots_cons 1 (by rw [put_other (by decide)]; exact ⟨b, o, A, c, e, hlt, hb.size, hn.keep (hb.block _ hlt) (fun b hb' => hb.block b hb') (fun b hb' => hb')⟩) (slots_cons 2 (by rw [put_other (by decide)]; exact h.get 2 rfl) (slots_cons 3 (by rw [put_self (by rw [h.size]; decide)]; exact ⟨rfl, by simp, _, _, alloc_new _ _, rfl⟩) (slots_cons 990 ⟨by simp, fun r e => by cases e⟩ slots_nil))))⟩
theorem lChecks2_region {Q : Exit → Act → World → Prop} (p0 : Pay) (l0 : Fo) (s : Nat) {w0 : World} {a : Act} {w : World} (h : Hold 275 [(1, .sat (oP s p0 l0)), (2, .val (.bool false)), (3, .sat (aZ s 32)), (990, .sat (gP (s + 1) none))] w0 a w)
    (hQ : ∀ a' w', (∃ s2, s < s2 ∧ Hold 275 [(1, .sat (oP s p0 l0)), (2, .val (.bool false)), (3, .sat (aZ s 32)), (4, .sat (aZ s2 8)), (990, .sat (gP (s2 + 1) none))] w0 a' w') → Q .normal a' w') : (Code.region 2 lChecks2Ops false).wp Try.prog Q a w := by
  have hs := (h.get 3 rfl).2.1
  refine region_seq (w0 := w) 1 (by kernel_rfl) ?_
  rw [show List.range 1 = [0] from rfl]
  refine wpOps_allocK (d := 4) (by kernel_rfl) ?_
  have hb : Below w.heap.size w (w.alloc (.cells #[.bool false, .bool false, .bool false, .bool false, .bool false, .bool false, .bool false, .bool false] 56)) := (Below.refl _ _).alloc (Nat.le_refl _) _
  exact hQ _ _ ⟨w.heap.size, hs, put_size.trans h.size, h.defers, h.world.trans (hb.mono h.world.size), (slots_cons 1 (by rw [put_other (by decide)]; exact Kd.keep (h.get 1 rfl) hb) (slots_cons 2 (by rw [put_other (by decide)]; exact Kd.keep (h.get 2 rfl) hb) (slots_cons 3 (by rw [put_other (by decide)]; exact Kd.keep (h.get 3 rfl) hb) (slots_cons 4 (by rw [put_self (by rw [h.size]; decide)]; exact ⟨rfl, by simp, _, _, alloc_new _ _, rfl⟩) (slots_cons 990 ⟨by simp, fun r e => by cases e⟩ slots_nil)))))⟩
theorem lChecks3a_region {Q : Exit → Act → World → Prop} (p0 : Pay) (l0 : Fo) (s : Nat) (s2 : Nat)  {w0 : World} {a : Act} {w : World} (h : Hold 275 [(1, .sat (oP s p0 l0)), (2, .val (.bool false)), (3, .sat (aZ s 32)), (4, .sat (aZ s2 8)), (990, .sat (gP (s2 + 1) none))] w0 a w)
    (hQ : ∀ a' w', Hold 275 [(1, .sat (oP s p0 l0)), (2, .val (.bool false)), (3, .sat (aZ s 32)), (4, .sat (aZ s2 8)), (990, .sat (gP (s2 + 1) none)), (6, .sat (nP (s2 + 1) none (((Bl.atom p0 l0).2.1).1) (((Bl.atom p0 l0).2.1).2))), (5, .val (.string (Bl.atom p0 l0).1)), (7, .val (.bool ((Bl.atom p0 l0).2.2)))] w0 a' w' → Q .normal a' w') : (Code.region 3 lChecks3Ops false).wp Try.prog Q a w := by
  refine region_seq (w0 := w) 10 (by kernel_rfl) ?_
  rw [show List.range 10 = [0, 1, 2, 3, 4, 5, 6, 7, 8, 9] from rfl]
  refine env_one (i := 0) (d := 35) (k := .term p0 l0) (step_load_term (by kernel_rfl) (Opd.ofO (Opd.of_base 1 rfl)) rfl) (by kernel_rfl) (by decide) h ?_
  clear h
  intro a w h
  refine env_one (i := 1) (d := 36) (k := .sat (nT3 (s2 + 1) none (.string (Bl.atom p0 l0).1) (((Bl.atom p0 l0).2.1).1) (((Bl.atom p0 l0).2.1).2) ((Bl.atom p0 l0).2.2))) (step_bAtom (g := 990) (by kernel_rfl) (Opd.of_base 35 rfl) (Opd.of_base 990 rfl) rfl) (by kernel_rfl) (by decide) h ?_
  clear h
  intro a w h
  refine env_one (i := 2) (d := 34) (k := .sat (nT3 (s2 + 1) none (.string (Bl.atom p0 l0).1) (((Bl.atom p0 l0).2.1).1) (((Bl.atom p0 l0).2.1).2) ((Bl.atom p0 l0).2.2))) (step_move (by kernel_rfl) (Opd.of_base 36 rfl) rfl) (by kernel_rfl) (by decide) h ?_
  clear h
  intro a w h
  refine env_one (i := 3) (d := 37) (k := .val (.string (Bl.atom p0 l0).1)) (step_nT3_0 (by kernel_rfl) (Opd.of_base 34 rfl) rfl) (by kernel_rfl) (by decide) h ?_
  clear h
  intro a w h
  refine env_one (i := 4) (d := 38) (k := .sat (nT (s2 + 1) none (((Bl.atom p0 l0).2.1).1) (((Bl.atom p0 l0).2.1).2))) (step_nT3_1 (by kernel_rfl) (Opd.of_base 34 rfl) rfl) (by kernel_rfl) (by decide) h ?_
  clear h
  intro a w h
  refine env_one (i := 5) (d := 39) (k := .val (.bool ((Bl.atom p0 l0).2.2))) (step_nT3_2 (by kernel_rfl) (Opd.of_base 34 rfl) rfl) (by kernel_rfl) (by decide) h ?_
  clear h
  intro a w h
  refine env_nbox3 (i := 6) (d := 6) (e := 5) (by kernel_rfl) (by decide) (by kernel_rfl) (by decide) (x := 37) rfl (by decide) (by decide) (by kernel_rfl) (by decide) (by decide) (s := 38) rfl rfl h ?_
  clear h
  intro a w h
  refine env_one (i := 9) (d := 7) (k := .val (.bool ((Bl.atom p0 l0).2.2))) (step_assign (by kernel_rfl) (Opd.of_base 39 rfl) rfl) (by kernel_rfl) (by decide) h ?_
  clear h
  intro a w h
  exact hQ a w (h.keep [1, 2, 3, 4, 990, 6, 5, 7])
theorem lChecks4a_region {Q : Exit → Act → World → Prop} (p0 : Pay) (l0 : Fo) (s : Nat) (s2 : Nat)  {w0 : World} {a : Act} {w : World} (h : Hold 275 [(1, .sat (oP s p0 l0)), (2, .val (.bool false)), (3, .sat (aZ s 32)), (4, .sat (aZ s2 8)), (990, .sat (gP (s2 + 1) none)), (6, .sat (nP (s2 + 1) none (((Bl.atom p0 l0).2.1).1) (((Bl.atom p0 l0).2.1).2))), (5, .val (.string (Bl.atom p0 l0).1)), (7, .val (.bool ((Bl.atom p0 l0).2.2)))] w0 a w)
    (hQ : ∀ a' w', Hold 275 [(1, .sat (oP s p0 l0)), (2, .val (.bool false)), (3, .sat (aZ s 32)), (4, .sat (aZ s2 8)), (990, .sat (gP (s2 + 1) none)), (6, .sat (nP (s2 + 1) none (((Bl.atom p0 l0).2.1).1) (((Bl.atom p0 l0).2.1).2))), (5, .val (.string (Bl.atom p0 l0).1)), (7, .val (.bool ((Bl.atom p0 l0).2.2))), (9, .sat (nP (s2 + 1) none (((Bl.int p0 l0).2.1).1) (((Bl.int p0 l0).2.1).2))), (8, .val (.int .i64 (Bl.int p0 l0).1)), (10, .val (.bool ((Bl.int p0 l0).2.2)))] w0 a' w' → Q .normal a' w') : (Code.region 4 lChecks4Ops false).wp Try.prog Q a w := by
  refine region_seq (w0 := w) 10 (by kernel_rfl) ?_
  rw [show List.range 10 = [0, 1, 2, 3, 4, 5, 6, 7, 8, 9] from rfl]
  refine env_one (i := 0) (d := 41) (k := .term p0 l0) (step_load_term (by kernel_rfl) (Opd.ofO (Opd.of_base 1 rfl)) rfl) (by kernel_rfl) (by decide) h ?_
  clear h
  intro a w h
  refine env_one (i := 1) (d := 42) (k := .sat (nT3 (s2 + 1) none (.int .i64 (Bl.int p0 l0).1) (((Bl.int p0 l0).2.1).1) (((Bl.int p0 l0).2.1).2) ((Bl.int p0 l0).2.2))) (step_bInt (g := 990) (by kernel_rfl) (Opd.of_base 41 rfl) (Opd.of_base 990 rfl) rfl) (by kernel_rfl) (by decide) h ?_
  clear h
  intro a w h
  refine env_one (i := 2) (d := 40) (k := .sat (nT3 (s2 + 1) none (.int .i64 (Bl.int p0 l0).1) (((Bl.int p0 l0).2.1).1) (((Bl.int p0 l0).2.1).2) ((Bl.int p0 l0).2.2))) (step_move (by kernel_rfl) (Opd.of_base 42 rfl) rfl) (by kernel_rfl) (by decide) h ?_
  clear h
  intro a w h
  refine env_one (i := 3) (d := 43) (k := .val (.int .i64 (Bl.int p0 l0).1)) (step_nT3_0 (by kernel_rfl) (Opd.of_base 40 rfl) rfl) (by kernel_rfl) (by decide) h ?_
  clear h
  intro a w h
  refine env_one (i := 4) (d := 44) (k := .sat (nT (s2 + 1) none (((Bl.int p0 l0).2.1).1) (((Bl.int p0 l0).2.1).2))) (step_nT3_1 (by kernel_rfl) (Opd.of_base 40 rfl) rfl) (by kernel_rfl) (by decide) h ?_
  clear h
  intro a w h
  refine env_one (i := 5) (d := 45) (k := .val (.bool ((Bl.int p0 l0).2.2))) (step_nT3_2 (by kernel_rfl) (Opd.of_base 40 rfl) rfl) (by kernel_rfl) (by decide) h ?_
  clear h
  intro a w h
  refine env_nbox3 (i := 6) (d := 9) (e := 8) (by kernel_rfl) (by decide) (by kernel_rfl) (by decide) (x := 43) rfl (by decide) (by decide) (by kernel_rfl) (by decide) (by decide) (s := 44) rfl rfl h ?_
  clear h
  intro a w h
  refine env_one (i := 9) (d := 10) (k := .val (.bool ((Bl.int p0 l0).2.2))) (step_assign (by kernel_rfl) (Opd.of_base 45 rfl) rfl) (by kernel_rfl) (by decide) h ?_
  clear h
  intro a w h
  exact hQ a w (h.keep [1, 2, 3, 4, 990, 6, 5, 7, 9, 8, 10])
theorem lChecks5a_region {Q : Exit → Act → World → Prop} (p0 : Pay) (l0 : Fo) (s : Nat) (s2 : Nat)  {w0 : World} {a : Act} {w : World} (h : Hold 275 [(1, .sat (oP s p0 l0)), (2, .val (.bool false)), (3, .sat (aZ s 32)), (4, .sat (aZ s2 8)), (990, .sat (gP (s2 + 1) none)), (6, .sat (nP (s2 + 1) none (((Bl.atom p0 l0).2.1).1) (((Bl.atom p0 l0).2.1).2))), (5, .val (.string (Bl.atom p0 l0).1)), (7, .val (.bool ((Bl.atom p0 l0).2.2))), (9, .sat (nP (s2 + 1) none (((Bl.int p0 l0).2.1).1) (((Bl.int p0 l0).2.1).2))), (8, .val (.int .i64 (Bl.int p0 l0).1)), (10, .val (.bool ((Bl.int p0 l0).2.2)))] w0 a w)
    (hQ : ∀ a' w', Hold 275 [(1, .sat (oP s p0 l0)), (2, .val (.bool false)), (3, .sat (aZ s 32)), (4, .sat (aZ s2 8)), (990, .sat (gP (s2 + 1) none)), (6, .sat (nP (s2 + 1) none (((Bl.atom p0 l0).2.1).1) (((Bl.atom p0 l0).2.1).2))), (5, .val (.string (Bl.atom p0 l0).1)), (7, .val (.bool ((Bl.atom p0 l0).2.2))), (9, .sat (nP (s2 + 1) none (((Bl.int p0 l0).2.1).1) (((Bl.int p0 l0).2.1).2))), (8, .val (.int .i64 (Bl.int p0 l0).1)), (10, .val (.bool ((Bl.int p0 l0).2.2))), (11, .sat (nP (s2 + 1) none (((Bl.callable p0 l0).1).1) (((Bl.callable p0 l0).1).2))), (12, .val (.bool ((Bl.callable p0 l0).2)))] w0 a' w' → Q .normal a' w') : (Code.region 5 lChecks5Ops false).wp Try.prog Q a w := by
  refine region_seq (w0 := w) 8 (by kernel_rfl) ?_
  rw [show List.range 8 = [0, 1, 2, 3, 4, 5, 6, 7] from rfl]
  refine env_one (i := 0) (d := 47) (k := .term p0 l0) (step_load_term (by kernel_rfl) (Opd.ofO (Opd.of_base 1 rfl)) rfl) (by kernel_rfl) (by decide) h ?_
  clear h
  intro a w h
  refine env_one (i := 1) (d := 48) (k := .sat (nT2 (s2 + 1) none (((Bl.callable p0 l0).1).1) (((Bl.callable p0 l0).1).2) ((Bl.callable p0 l0).2))) (step_bCallable (g := 990) (by kernel_rfl) (Opd.of_base 47 rfl) (Opd.of_base 990 rfl) rfl) (by kernel_rfl) (by decide) h ?_
  clear h
  intro a w h
  refine env_one (i := 2) (d := 46) (k := .sat (nT2 (s2 + 1) none (((Bl.callable p0 l0).1).1) (((Bl.callable p0 l0).1).2) ((Bl.callable p0 l0).2))) (step_move (by kernel_rfl) (Opd.of_base 48 rfl) rfl) (by kernel_rfl) (by decide) h ?_
  clear h
  intro a w h
  refine env_one (i := 3) (d := 49) (k := .sat (nT (s2 + 1) none (((Bl.callable p0 l0).1).1) (((Bl.callable p0 l0).1).2))) (step_nT2_0 (by kernel_rfl) (Opd.of_base 46 rfl) rfl) (by kernel_rfl) (by decide) h ?_
  clear h
  intro a w h
  refine env_one (i := 4) (d := 50) (k := .val (.bool ((Bl.callable p0 l0).2))) (step_nT2_1 (by kernel_rfl) (Opd.of_base 46 rfl) rfl) (by kernel_rfl) (by decide) h ?_
  clear h
  intro a w h
  refine env_nbox (i := 5) (d := 11) (by kernel_rfl) (by decide) (by kernel_rfl) (by decide) (s := 49) rfl rfl h ?_
  clear h
  intro a w h
  refine env_one (i := 7) (d := 12) (k := .val (.bool ((Bl.callable p0 l0).2))) (step_assign (by kernel_rfl) (Opd.of_base 50 rfl) rfl) (by kernel_rfl) (by decide) h ?_
  clear h
  intro a w h
  exact hQ a w (h.keep [1, 2, 3, 4, 990, 6, 5, 7, 9, 8, 10, 11, 12])
theorem lChecks6a_region {Q : Exit → Act → World → Prop} (p0 : Pay) (l0 : Fo) (s : Nat) (s2 : Nat)  {w0 : World} {a : Act} {w : World} (h : Hold 275 [(1, .sat (oP s p0 l0)), (2, .val (.bool false)), (3, .sat (aZ s 32)), (4, .sat (aZ s2 8)), (990, .sat (gP (s2 + 1) none)), (6, .sat (nP (s2 + 1) none (((Bl.atom p0 l0).2.1).1) (((Bl.atom p0 l0).2.1).2))), (5, .val (.string (Bl.atom p0 l0).1)), (7, .val (.bool ((Bl.atom p0 l0).2.2))), (9, .sat (nP (s2 + 1) none (((Bl.int p0 l0).2.1).1) (((Bl.int p0 l0).2.1).2))), (8, .val (.int .i64 (Bl.int p0 l0).1)), (10, .val (.bool ((Bl.int p0 l0).2.2))), (11, .sat (nP (s2 + 1) none (((Bl.callable p0 l0).1).1) (((Bl.callable p0 l0).1).2))), (12, .val (.bool ((Bl.callable p0 l0).2)))] w0 a w)
    (hQ : ∀ a' w', Hold 275 [(1, .sat (oP s p0 l0)), (2, .val (.bool false)), (3, .sat (aZ s 32)), (4, .sat (aZ s2 8)), (990, .sat (gP (s2 + 1) none)), (6, .sat (nP (s2 + 1) none (((Bl.atom p0 l0).2.1).1) (((Bl.atom p0 l0).2.1).2))), (5, .val (.string (Bl.atom p0 l0).1)), (7, .val (.bool ((Bl.atom p0 l0).2.2))), (9, .sat (nP (s2 + 1) none (((Bl.int p0 l0).2.1).1) (((Bl.int p0 l0).2.1).2))), (8, .val (.int .i64 (Bl.int p0 l0).1)), (10, .val (.bool ((Bl.int p0 l0).2.2))), (11, .sat (nP (s2 + 1) none (((Bl.callable p0 l0).1).1) (((Bl.callable p0 l0).1).2))), (12, .val (.bool ((Bl.callable p0 l0).2))), (13, .sat (nP (s2 + 1) none (((Bl.atomic p0 l0).1).1) (((Bl.atomic p0 l0).1).2))), (14, .val (.bool ((Bl.atomic p0 l0).2)))] w0 a' w' → Q .normal a' w') : (Code.region 6 lChecks6Ops false).wp Try.prog Q a w := by
  refine region_seq (w0 := w) 8 (by kernel_rfl) ?_
  rw [show List.range 8 = [0, 1, 2, 3, 4, 5, 6, 7] from rfl]
  refine env_one (i := 0) (d := 52) (k := .term p0 l0) (step_load_term (by kernel_rfl) (Opd.ofO (Opd.of_base 1 rfl)) rfl) (by kernel_rfl) (by decide) h ?_
  clear h
  intro a w h
  refine env_one (i := 1) (d := 53) (k := .sat (nT2 (s2 + 1) none (((Bl.atomic p0 l0).1).1) (((Bl.atomic p0 l0).1).2) ((Bl.atomic p0 l0).2))) (step_bAtomic (g := 990) (by kernel_rfl) (Opd.of_base 52 rfl) (Opd.of_base 990 rfl) rfl) (by kernel_rfl) (by decide) h ?_
  clear h
  intro a w h
  refine env_one (i := 2) (d := 51) (k := .sat (nT2 (s2 + 1) none (((Bl.atomic p0 l0).1).1) (((Bl.atomic p0 l0).1).2) ((Bl.atomic p0 l0).2))) (step_move (by kernel_rfl) (Opd.of_base 53 rfl) rfl) (by kernel_rfl) (by decide) h ?_
  clear h
  intro a w h
  refine env_one (i := 3) (d := 54) (k := .sat (nT (s2 + 1) none (((Bl.atomic p0 l0).1).1) (((Bl.atomic p0 l0).1).2))) (step_nT2_0 (by kernel_rfl) (Opd.of_base 51 rfl) rfl) (by kernel_rfl) (by decide) h ?_
  clear h
  intro a w h
  refine env_one (i := 4) (d := 55) (k := .val (.bool ((Bl.atomic p0 l0).2))) (step_nT2_1 (by kernel_rfl) (Opd.of_base 51 rfl) rfl) (by kernel_rfl) (by decide) h ?_
  clear h
  intro a w h
  refine env_nbox (i := 5) (d := 13) (by kernel_rfl) (by decide) (by kernel_rfl) (by decide) (s := 54) rfl rfl h ?_
  clear h
  intro a w h
  refine env_one (i := 7) (d := 14) (k := .val (.bool ((Bl.atomic p0 l0).2))) (step_assign (by kernel_rfl) (Opd.of_base 55 rfl) rfl) (by kernel_rfl) (by decide) h ?_
  clear h
  intro a w h
  exact hQ a w (h.keep [1, 2, 3, 4, 990, 6, 5, 7, 9, 8, 10, 11, 12, 13, 14])
theorem lChecks7a_region {Q : Exit → Act → World → Prop} (p0 : Pay) (l0 : Fo) (s : Nat) (s2 : Nat)  {w0 : World} {a : Act} {w : World} (h : Hold 275 [(1, .sat (oP s p0 l0)), (2, .val (.bool false)), (3, .sat (aZ s 32)), (4, .sat (aZ s2 8)), (990, .sat (gP (s2 + 1) none)), (6, .sat (nP (s2 + 1) none (((Bl.atom p0 l0).2.1).1) (((Bl.atom p0 l0).2.1).2))), (5, .val (.string (Bl.atom p0 l0).1)), (7, .val (.bool ((Bl.atom p0 l0).2.2))), (9, .sat (nP (s2 + 1) none (((Bl.int p0 l0).2.1).1) (((Bl.int p0 l0).2.1).2))), (8, .val (.int .i64 (Bl.int p0 l0).1)), (10, .val (.bool ((Bl.int p0 l0).2.2))), (11, .sat (nP (s2 + 1) none (((Bl.callable p0 l0).1).1) (((Bl.callable p0 l0).1).2))), (12, .val (.bool ((Bl.callable p0 l0).2))), (13, .sat (nP (s2 + 1) none (((Bl.atomic p0 l0).1).1) (((Bl.atomic p0 l0).1).2))), (14, .val (.bool ((Bl.atomic p0 l0).2)))] w0 a w)
    (hQ : ∀ a' w', Hold 275 [(1, .sat (oP s p0 l0)), (2, .val (.bool false)), (3, .sat (aZ s 32)), (4, .sat (aZ s2 8)), (990, .sat (gP (s2 + 1) none)), (6, .sat (nP (s2 + 1) none (((Bl.atom p0 l0).2.1).1) (((Bl.atom p0 l0).2.1).2))), (5, .val (.string (Bl.atom p0 l0).1)), (7, .val (.bool ((Bl.atom p0 l0).2.2))), (9, .sat (nP (s2 + 1) none (((Bl.int p0 l0).2.1).1) (((Bl.int p0 l0).2.1).2))), (8, .val (.int .i64 (Bl.int p0 l0).1)), (10, .val (.bool ((Bl.int p0 l0).2.2))), (11, .sat (nP (s2 + 1) none (((Bl.callable p0 l0).1).1) (((Bl.callable p0 l0).1).2))), (12, .val (.bool ((Bl.callable p0 l0).2))), (13, .sat (nP (s2 + 1) none (((Bl.atomic p0 l0).1).1) (((Bl.atomic p0 l0).1).2))), (14, .val (.bool ((Bl.atomic p0 l0).2))), (16, .sat (nP (s2 + 1) none (((Bl.list p0 l0).2.1).1) (((Bl.list p0 l0).2.1).2))), (15, .sat (nR (s2 + 1) none ((Bl.list p0 l0).1))), (17, .val (.bool ((Bl.list p0 l0).2.2)))] w0 a' w' → Q .normal a' w') : (Code.region 7 lChecks7Ops false).wp Try.prog Q a w := by
  refine region_seq (w0 := w) 10 (by kernel_rfl) ?_
  rw [show List.range 10 = [0, 1, 2, 3, 4, 5, 6, 7, 8, 9] from rfl]
  refine env_one (i := 0) (d := 57) (k := .term p0 l0) (step_load_term (by kernel_rfl) (Opd.ofO (Opd.of_base 1 rfl)) rfl) (by kernel_rfl) (by decide) h ?_
  clear h
  intro a w h
  refine env_one (i := 1) (d := 58) (k := .sat (nL3 (s2 + 1) none ((Bl.list p0 l0).1) (((Bl.list p0 l0).2.1).1) (((Bl.list p0 l0).2.1).2) ((Bl.list p0 l0).2.2))) (step_bList (g := 990) (by kernel_rfl) (Opd.of_base 57 rfl) (Opd.of_base 990 rfl) rfl) (by kernel_rfl) (by decide) h ?_
  clear h
  intro a w h
  refine env_one (i := 2) (d := 56) (k := .sat (nL3 (s2 + 1) none ((Bl.list p0 l0).1) (((Bl.list p0 l0).2.1).1) (((Bl.list p0 l0).2.1).2) ((Bl.list p0 l0).2.2))) (step_move (by kernel_rfl) (Opd.of_base 58 rfl) rfl) (by kernel_rfl) (by decide) h ?_
  clear h
  intro a w h
  refine env_one (i := 3) (d := 59) (k := .sat (nR (s2 + 1) none ((Bl.list p0 l0).1))) (step_nL3_0 (by kernel_rfl) (Opd.of_base 56 rfl) rfl) (by kernel_rfl) (by decide) h ?_
  clear h
  intro a w h
  refine env_one (i := 4) (d := 60) (k := .sat (nT (s2 + 1) none (((Bl.list p0 l0).2.1).1) (((Bl.list p0 l0).2.1).2))) (step_nL3_1 (by kernel_rfl) (Opd.of_base 56 rfl) rfl) (by kernel_rfl) (by decide) h ?_
  clear h
  intro a w h
  refine env_one (i := 5) (d := 61) (k := .val (.bool ((Bl.list p0 l0).2.2))) (step_nL3_2 (by kernel_rfl) (Opd.of_base 56 rfl) rfl) (by kernel_rfl) (by decide) h ?_
  clear h
  intro a w h
  refine env_nbox3 (i := 6) (d := 16) (e := 15) (by kernel_rfl) (by decide) (by kernel_rfl) (by decide) (x := 59) rfl (by decide) (by decide) (by kernel_rfl) (by decide) (by decide) (s := 60) rfl rfl h ?_
  clear h
  intro a w h
  refine env_one (i := 9) (d := 17) (k := .val (.bool ((Bl.list p0 l0).2.2))) (step_assign (by kernel_rfl) (Opd.of_base 61 rfl) rfl) (by kernel_rfl) (by decide) h ?_
  clear h
  intro a w h
  exact hQ a w (h.keep [1, 2, 3, 4, 990, 6, 5, 7, 9, 8, 10, 11, 12, 13, 14, 16, 15, 17])
theorem lChecks8a_region {Q : Exit → Act → World → Prop} (p0 : Pay) (l0 : Fo) (s : Nat) (s2 : Nat)  {w0 : World} {a : Act} {w : World} (h : Hold 275 [(1, .sat (oP s p0 l0)), (2, .val (.bool false)), (3, .sat (aZ s 32)), (4, .sat (aZ s2 8)), (990, .sat (gP (s2 + 1) none)), (6, .sat (nP (s2 + 1) none (((Bl.atom p0 l0).2.1).1) (((Bl.atom p0 l0).2.1).2))), (5, .val (.string (Bl.atom p0 l0).1)), (7, .val (.bool ((Bl.atom p0 l0).2.2))), (9, .sat (nP (s2 + 1) none (((Bl.int p0 l0).2.1).1) (((Bl.int p0 l0).2.1).2))), (8, .val (.int .i64 (Bl.int p0 l0).1)), (10, .val (.bool ((Bl.int p0 l0).2.2))), (11, .sat (nP (s2 + 1) none (((Bl.callable p0 l0).1).1) (((Bl.callable p0 l0).1).2))), (12, .val (.bool ((Bl.callable p0 l0).2))), (13, .sat (nP (s2 + 1) none (((Bl.atomic p0 l0).1).1) (((Bl.atomic p0 l0).1).2))), (14, .val (.bool ((Bl.atomic p0 l0).2))), (16, .sat (nP (s2 + 1) none (((Bl.list p0 l0).2.1).1) (((Bl.list p0 l0).2.1).2))), (15, .sat (nR (s2 + 1) none ((Bl.list p0 l0).1))), (17, .val (.bool ((Bl.list p0 l0).2.2)))] w0 a w)
    (hQ : ∀ a' w', Hold 275 [(1, .sat (oP s p0 l0)), (2, .val (.bool false)), (3, .sat (aZ s 32)), (4, .sat (aZ s2 8)), (990, .sat (gP (s2 + 1) none)), (6, .sat (nP (s2 + 1) none (((Bl.atom p0 l0).2.1).1) (((Bl.atom p0 l0).2.1).2))), (5, .val (.string (Bl.atom p0 l0).1)), (7, .val (.bool ((Bl.atom p0 l0).2.2))), (9, .sat (nP (s2 + 1) none (((Bl.int p0 l0).2.1).1) (((Bl.int p0 l0).2.1).2))), (8, .val (.int .i64 (Bl.int p0 l0).1)), (10, .val (.bool ((Bl.int p0 l0).2.2))), (11, .sat (nP (s2 + 1) none (((Bl.callable p0 l0).1).1) (((Bl.callable p0 l0).1).2))), (12, .val (.bool ((Bl.callable p0 l0).2))), (13, .sat (nP (s2 + 1) none (((Bl.atomic p0 l0).1).1) (((Bl.atomic p0 l0).1).2))), (14, .val (.bool ((Bl.atomic p0 l0).2))), (16, .sat (nP (s2 + 1) none (((Bl.list p0 l0).2.1).1) (((Bl.list p0 l0).2.1).2))), (15, .sat (nR (s2 + 1) none ((Bl.list p0 l0).1))), (17, .val (.bool ((Bl.list p0 l0).2.2))), (19, .sat (nP (s2 + 1) none (((Bl.char p0 l0).2.1).1) (((Bl.char p0 l0).2.1).2))), (18, .val (.int .i64 (Bl.char p0 l0).1)), (20, .val (.bool ((Bl.char p0 l0).2.2)))] w0 a' w' → Q .normal a' w') : (Code.region 8 lChecks8Ops false).wp Try.prog Q a w := by
  refine region_seq (w0 := w) 10 (by kernel_rfl) ?_
  rw [show List.range 10 = [0, 1, 2, 3, 4, 5, 6, 7, 8, 9] from rfl]
  refine env_one (i := 0) (d := 63) (k := .term p0 l0) (step_load_term (by kernel_rfl) (Opd.ofO (Opd.of_base 1 rfl)) rfl) (by kernel_rfl) (by decide) h ?_
  clear h
  intro a w h
  refine env_one (i := 1) (d := 64) (k := .sat (nT3 (s2 + 1) none (.int .i64 (Bl.char p0 l0).1) (((Bl.char p0 l0).2.1).1) (((Bl.char p0 l0).2.1).2) ((Bl.char p0 l0).2.2))) (step_bChar (g := 990) (by kernel_rfl) (Opd.of_base 63 rfl) (Opd.of_base 990 rfl) rfl) (by kernel_rfl) (by decide) h ?_
  clear h
  intro a w h
  refine env_one (i := 2) (d := 62) (k := .sat (nT3 (s2 + 1) none (.int .i64 (Bl.char p0 l0).1) (((Bl.char p0 l0).2.1).1) (((Bl.char p0 l0).2.1).2) ((Bl.char p0 l0).2.2))) (step_move (by kernel_rfl) (Opd.of_base 64 rfl) rfl) (by kernel_rfl) (by decide) h ?_
  clear h
  intro a w h
  refine env_one (i := 3) (d := 65) (k := .val (.int .i64 (Bl.char p0 l0).1)) (step_nT3_0 (by kernel_rfl) (Opd.of_base 62 rfl) rfl) (by kernel_rfl) (by decide) h ?_
  clear h
  intro a w h
  refine env_one (i := 4) (d := 66) (k := .sat (nT (s2 + 1) none (((Bl.char p0 l0).2.1).1) (((Bl.char p0 l0).2.1).2))) (step_nT3_1 (by kernel_rfl) (Opd.of_base 62 rfl) rfl) (by kernel_rfl) (by decide) h ?_
  clear h
  intro a w h
  refine env_one (i := 5) (d := 67) (k := .val (.bool ((Bl.char p0 l0).2.2))) (step_nT3_2 (by kernel_rfl) (Opd.of_base 62 rfl) rfl) (by kernel_rfl) (by decide) h ?_
  clear h
  intro a w h
  refine env_nbox3 (i := 6) (d := 19) (e := 18) (by kernel_rfl) (by decide) (by kernel_rfl) (by decide) (x := 65) rfl (by decide) (by decide) (by kernel_rfl) (by decide) (by decide) (s := 66) rfl rfl h ?_
  clear h
  intro a w h
  refine env_one (i := 9) (d := 20) (k := .val (.bool ((Bl.char p0 l0).2.2))) (step_assign (by kernel_rfl) (Opd.of_base 67 rfl) rfl) (by kernel_rfl) (by decide) h ?_
  clear h
  intro a w h
  exact hQ a w (h.keep [1, 2, 3, 4, 990, 6, 5, 7, 9, 8, 10, 11, 12, 13, 14, 16, 15, 17, 19, 18, 20])
theorem lChecks9a_region {Q : Exit → Act → World → Prop} (p0 : Pay) (l0 : Fo) (s : Nat) (s2 : Nat)  {w0 : World} {a : Act} {w : World} (h : Hold 275 [(1, .sat (oP s p0 l0)), (2, .val (.bool false)), (3, .sat (aZ s 32)), (4, .sat (aZ s2 8)), (990, .sat (gP (s2 + 1) none)), (6, .sat (nP (s2 + 1) none (((Bl.atom p0 l0).2.1).1) (((Bl.atom p0 l0).2.1).2))), (5, .val (.string (Bl.atom p0 l0).1)), (7, .val (.bool ((Bl.atom p0 l0).2.2))), (9, .sat (nP (s2 + 1) none (((Bl.int p0 l0).2.1).1) (((Bl.int p0 l0).2.1).2))), (8, .val (.int .i64 (Bl.int p0 l0).1)), (10, .val (.bool ((Bl.int p0 l0).2.2))), (11, .sat (nP (s2 + 1) none (((Bl.callable p0 l0).1).1) (((Bl.callable p0 l0).1).2))), (12, .val (.bool ((Bl.callable p0 l0).2))), (13, .sat (nP (s2 + 1) none (((Bl.atomic p0 l0).1).1) (((Bl.atomic p0 l0).1).2))), (14, .val (.bool ((Bl.atomic p0 l0).2))), (16, .sat (nP (s2 + 1) none (((Bl.list p0 l0).2.1).1) (((Bl.list p0 l0).2.1).2))), (15, .sat (nR (s2 + 1) none ((Bl.list p0 l0).1))), (17, .val (.bool ((Bl.list p0 l0).2.2))), (19, .sat (nP (s2 + 1) none (((Bl.char p0 l0).2.1).1) (((Bl.char p0 l0).2.1).2))), (18, .val (.int .i64 (Bl.char p0 l0).1)), (20, .val (.bool ((Bl.char p0 l0).2.2)))] w0 a w)
    (hQ : ∀ a' w', Hold 275 [(1, .sat (oP s p0 l0)), (2, .val (.bool false)), (3, .sat (aZ s 32)), (4, .sat (aZ s2 8)), (990, .sat (gP (s2 + 1) none)), (6, .sat (nP (s2 + 1) none (((Bl.atom p0 l0).2.1).1) (((Bl.atom p0 l0).2.1).2))), (5, .val (.string (Bl.atom p0 l0).1)), (7, .val (.bool ((Bl.atom p0 l0).2.2))), (9, .sat (nP (s2 + 1) none (((Bl.int p0 l0).2.1).1) (((Bl.int p0 l0).2.1).2))), (8, .val (.int .i64 (Bl.int p0 l0).1)), (10, .val (.bool ((Bl.int p0 l0).2.2))), (11, .sat (nP (s2 + 1) none (((Bl.callable p0 l0).1).1) (((Bl.callable p0 l0).1).2))), (12, .val (.bool ((Bl.callable p0 l0).2))), (13, .sat (nP (s2 + 1) none (((Bl.atomic p0 l0).1).1) (((Bl.atomic p0 l0).1).2))), (14, .val (.bool ((Bl.atomic p0 l0).2))), (16, .sat (nP (s2 + 1) none (((Bl.list p0 l0).2.1).1) (((Bl.list p0 l0).2.1).2))), (15, .sat (nR (s2 + 1) none ((Bl.list p0 l0).1))), (17, .val (.bool ((Bl.list p0 l0).2.2))), (19, .sat (nP (s2 + 1) none (((Bl.char p0 l0).2.1).1) (((Bl.char p0 l0).2.1).2))), (18, .val (.int .i64 (Bl.char p0 l0).1)), (20, .val (.bool ((Bl.char p0 l0).2.2))), (22, .sat (nP (s2 + 1) none (((Bl.code p0 l0).2.1).1) (((Bl.code p0 l0).2.1).2))), (21, .val (.int .i64 (Bl.code p0 l0).1)), (23, .val (.bool ((Bl.code p0 l0).2.2)))] w0 a' w' → Q .normal a' w') : (Code.region 9 lChecks9Ops false).wp Try.prog Q a w := by
  refine region_seq (w0 := w) 10 (by kernel_rfl) ?_
  rw [show List.range 10 = [0, 1, 2, 3, 4, 5, 6, 7, 8, 9] from rfl]
  refine env_one (i := 0) (d := 69) (k := .term p0 l0) (step_load_term (by kernel_rfl) (Opd.ofO (Opd.of_base 1 rfl)) rfl) (by kernel_rfl) (by decide) h ?_
  clear h
  intro a w h
  refine env_one (i := 1) (d := 70) (k := .sat (nT3 (s2 + 1) none (.int .i64 (Bl.code p0 l0).1) (((Bl.code p0 l0).2.1).1) (((Bl.code p0 l0).2.1).2) ((Bl.code p0 l0).2.2))) (step_bCode (g := 990) (by kernel_rfl) (Opd.of_base 69 rfl) (Opd.of_base 990 rfl) rfl) (by kernel_rfl) (by decide) h ?_
  clear h
  intro a w h
  refine env_one (i := 2) (d := 68) (k := .sat (nT3 (s2 + 1) none (.int .i64 (Bl.code p0 l0).1) (((Bl.code p0 l0).2.1).1) (((Bl.code p0 l0).2.1).2) ((Bl.code p0 l0).2.2))) (step_move (by kernel_rfl) (Opd.of_base 70 rfl) rfl) (by kernel_rfl) (by decide) h ?_
  clear h
  intro a w h
  refine env_one (i := 3) (d := 71) (k := .val (.int .i64 (Bl.code p0 l0).1)) (step_nT3_0 (by kernel_rfl) (Opd.of_base 68 rfl) rfl) (by kernel_rfl) (by decide) h ?_
  clear h
  intro a w h
  refine env_one (i := 4) (d := 72) (k := .sat (nT (s2 + 1) none (((Bl.code p0 l0).2.1).1) (((Bl.code p0 l0).2.1).2))) (step_nT3_1 (by kernel_rfl) (Opd.of_base 68 rfl) rfl) (by kernel_rfl) (by decide) h ?_
  clear h
  intro a w h
  refine env_one (i := 5) (d := 73) (k := .val (.bool ((Bl.code p0 l0).2.2))) (step_nT3_2 (by kernel_rfl) (Opd.of_base 68 rfl) rfl) (by kernel_rfl) (by decide) h ?_
  clear h
  intro a w h
  refine env_nbox3 (i := 6) (d := 22) (e := 21) (by kernel_rfl) (by decide) (by kernel_rfl) (by decide) (x := 71) rfl (by decide) (by decide) (by kernel_rfl) (by decide) (by decide) (s := 72) rfl rfl h ?_
  clear h
  intro a w h
  refine env_one (i := 9) (d := 23) (k := .val (.bool ((Bl.code p0 l0).2.2))) (step_assign (by kernel_rfl) (Opd.of_base 73 rfl) rfl) (by kernel_rfl) (by decide) h ?_
  clear h
  intro a w h
  exact hQ a w (h.keep [1, 2, 3, 4, 990, 6, 5, 7, 9, 8, 10, 11, 12, 13, 14, 16, 15, 17, 19, 18, 20, 22, 21, 23])
theorem lChecks10a_region {Q : Exit → Act → World → Prop} (p0 : Pay) (l0 : Fo) (s : Nat) (s2 : Nat)  {w0 : World} {a : Act} {w : World} (h : Hold 275 [(1, .sat (oP s p0 l0)), (2, .val (.bool false)), (3, .sat (aZ s 32)), (4, .sat (aZ s2 8)), (990, .sat (gP (s2 + 1) none)), (6, .sat (nP (s2 + 1) none (((Bl.atom p0 l0).2.1).1) (((Bl.atom p0 l0).2.1).2))), (5, .val (.string (Bl.atom p0 l0).1)), (7, .val (.bool ((Bl.atom p0 l0).2.2))), (9, .sat (nP (s2 + 1) none (((Bl.int p0 l0).2.1).1) (((Bl.int p0 l0).2.1).2))), (8, .val (.int .i64 (Bl.int p0 l0).1)), (10, .val (.bool ((Bl.int p0 l0).2.2))), (11, .sat (nP (s2 + 1) none (((Bl.callable p0 l0).1).1) (((Bl.callable p0 l0).1).2))), (12, .val (.bool ((Bl.callable p0 l0).2))), (13, .sat (nP (s2 + 1) none (((Bl.atomic p0 l0).1).1) (((Bl.atomic p0 l0).1).2))), (14, .val (.bool ((Bl.atomic p0 l0).2))), (16, .sat (nP (s2 + 1) none (((Bl.list p0 l0).2.1).1) (((Bl.list p0 l0).2.1).2))), (15, .sat (nR (s2 + 1) none ((Bl.list p0 l0).1))), (17, .val (.bool ((Bl.list p0 l0).2.2))), (19, .sat (nP (s2 + 1) none (((Bl.char p0 l0).2.1).1) (((Bl.char p0 l0).2.1).2))), (18, .val (.int .i64 (Bl.char p0 l0).1)), (20, .val (.bool ((Bl.char p0 l0).2.2))), (22, .sat (nP (s2 + 1) none (((Bl.code p0 l0).2.1).1) (((Bl.code p0 l0).2.1).2))), (21, .val (.int .i64 (Bl.code p0 l0).1)), (23, .val (.bool ((Bl.code p0 l0).2.2)))] w0 a w)
    (hQ : ∀ a' w', Hold 275 [(1, .sat (oP s p0 l0)), (2, .val (.bool false)), (3, .sat (aZ s 32)), (4, .sat (aZ s2 8)), (990, .sat (gP (s2 + 1) none)), (6, .sat (nP (s2 + 1) none (((Bl.atom p0 l0).2.1).1) (((Bl.atom p0 l0).2.1).2))), (5, .val (.string (Bl.atom p0 l0).1)), (7, .val (.bool ((Bl.atom p0 l0).2.2))), (9, .sat (nP (s2 + 1) none (((Bl.int p0 l0).2.1).1) (((Bl.int p0 l0).2.1).2))), (8, .val (.int .i64 (Bl.int p0 l0).1)), (10, .val (.bool ((Bl.int p0 l0).2.2))), (11, .sat (nP (s2 + 1) none (((Bl.callable p0 l0).1).1) (((Bl.callable p0 l0).1).2))), (12, .val (.bool ((Bl.callable p0 l0).2))), (13, .sat (nP (s2 + 1) none (((Bl.atomic p0 l0).1).1) (((Bl.atomic p0 l0).1).2))), (14, .val (.bool ((Bl.atomic p0 l0).2))), (16, .sat (nP (s2 + 1) none (((Bl.list p0 l0).2.1).1) (((Bl.list p0 l0).2.1).2))), (15, .sat (nR (s2 + 1) none ((Bl.list p0 l0).1))), (17, .val (.bool ((Bl.list p0 l0).2.2))), (19, .sat (nP (s2 + 1) none (((Bl.char p0 l0).2.1).1) (((Bl.char p0 l0).2.1).2))), (18, .val (.int .i64 (Bl.char p0 l0).1)), (20, .val (.bool ((Bl.char p0 l0).2.2))), (22, .sat (nP (s2 + 1) none (((Bl.code p0 l0).2.1).1) (((Bl.code p0 l0).2.1).2))), (21, .val (.int .i64 (Bl.code p0 l0).1)), (23, .val (.bool ((Bl.code p0 l0).2.2))), (26, .sat (nP (s2 + 1) none (((Bl.ind p0 l0).2.2.1).1) (((Bl.ind p0 l0).2.2.1).2))), (25, .val (.int .i64 (Bl.ind p0 l0).2.1)), (27, .val (.bool ((Bl.ind p0 l0).2.2.2)))] w0 a' w' → Q .normal a' w') : (Code.region 10 lChecks10Ops false).wp Try.prog Q a w := by
  refine region_seq (w0 := w) 12 (by kernel_rfl) ?_
  rw [show List.range 12 = [0, 1, 2, 3, 4, 5, 6, 7, 8, 9, 10, 11] from rfl]
  refine env_one (i := 0) (d := 75) (k := .term p0 l0) (step_load_term (by kernel_rfl) (Opd.ofO (Opd.of_base 1 rfl)) rfl) (by kernel_rfl) (by decide) h ?_
  clear h
  intro a w h
  refine env_one (i := 1) (d := 76) (k := .sat (nT4 (s2 + 1) none (.string (Bl.ind p0 l0).1) (.int .i64 (Bl.ind p0 l0).2.1) (((Bl.ind p0 l0).2.2.1).1) (((Bl.ind p0 l0).2.2.1).2) ((Bl.ind p0 l0).2.2.2))) (step_bInd (g := 990) (by kernel_rfl) (Opd.of_base 75 rfl) (Opd.of_base 990 rfl) rfl) (by kernel_rfl) (by decide) h ?_
  clear h
  intro a w h
  refine env_one (i := 2) (d := 74) (k := .sat (nT4 (s2 + 1) none (.string (Bl.ind p0 l0).1) (.int .i64 (Bl.ind p0 l0).2.1) (((Bl.ind p0 l0).2.2.1).1) (((Bl.ind p0 l0).2.2.1).2) ((Bl.ind p0 l0).2.2.2))) (step_move (by kernel_rfl) (Opd.of_base 76 rfl) rfl) (by kernel_rfl) (by decide) h ?_
  clear h
  intro a w h
  refine env_one (i := 3) (d := 77) (k := .val (.string (Bl.ind p0 l0).1)) (step_nT4_0 (by kernel_rfl) (Opd.of_base 74 rfl) rfl) (by kernel_rfl) (by decide) h ?_
  clear h
  intro a w h
  refine env_one (i := 4) (d := 78) (k := .val (.int .i64 (Bl.ind p0 l0).2.1)) (step_nT4_1 (by kernel_rfl) (Opd.of_base 74 rfl) rfl) (by kernel_rfl) (by decide) h ?_
  clear h
  intro a w h
  refine env_one (i := 5) (d := 79) (k := .sat (nT (s2 + 1) none (((Bl.ind p0 l0).2.2.1).1) (((Bl.ind p0 l0).2.2.1).2))) (step_nT4_2 (by kernel_rfl) (Opd.of_base 74 rfl) rfl) (by kernel_rfl) (by decide) h ?_
  clear h
  intro a w h
  refine env_one (i := 6) (d := 80) (k := .val (.bool ((Bl.ind p0 l0).2.2.2))) (step_nT4_3 (by kernel_rfl) (Opd.of_base 74 rfl) rfl) (by kernel_rfl) (by decide) h ?_
  clear h
  intro a w h
  refine env_nbox5 (i := 7) (d := 26) (e := 24) (e2 := 25) (by kernel_rfl) (by decide) (by kernel_rfl) (by decide) (x := 77) rfl (by decide) (by decide) (by kernel_rfl) (by decide) (x2 := 78) rfl (by decide) (by decide) (by decide) (by kernel_rfl) (by decide) (by decide) (by decide) (s := 79) rfl rfl h ?_
  clear h
  intro a w h
  refine env_one (i := 11) (d := 27) (k := .val (.bool ((Bl.ind p0 l0).2.2.2))) (step_assign (by kernel_rfl) (Opd.of_base 80 rfl) rfl) (by kernel_rfl) (by decide) h ?_
  clear h
  intro a w h
  exact hQ a w (h.keep [1, 2, 3, 4, 990, 6, 5, 7, 9, 8, 10, 11, 12, 13, 14, 16, 15, 17, 19, 18, 20, 22, 21, 23, 26, 25, 27])
theorem lChecks11_region {Q : Exit → Act → World → Prop} (p0 : Pay) (l0 : Fo) (s s2 : Nat) {w0 : World} {a : Act} {w : World} (hws : w0.heap.size ≤ s) (hss : s < s2) (h : Hold 275 [(1, .sat (oP s p0 l0)), (2, .val (.bool false)), (3, .sat (aZ s 32)), (4, .sat (aZ s2 8)), (990, .sat (gP (s2 + 1) none)), (6, .sat (nP (s2 + 1) none (((Bl.atom p0 l0).2.1).1) (((Bl.atom p0 l0).2.1).2))), (5, .val (.string (Bl.atom p0 l0).1)), (7, .val (.bool ((Bl.atom p0 l0).2.2))), (9, .sat (nP (s2 + 1) none (((Bl.int p0 l0).2.1).1) (((Bl.int p0 l0).2.1).2))), (8, .val (.int .i64 (Bl.int p0 l0).1)), (10, .val (.bool ((Bl.int p0 l0).2.2))), (11, .sat (nP (s2 + 1) none (((Bl.callable p0 l0).1).1) (((Bl.callable p0 l0).1).2))), (12, .val (.bool ((Bl.callable p0 l0).2))), (13, .sat (nP (s2 + 1) none (((Bl.atomic p0 l0).1).1) (((Bl.atomic p0 l0).1).2))), (14, .val (.bool ((Bl.atomic p0 l0).2))), (16, .sat (nP (s2 + 1) none (((Bl.list p0 l0).2.1).1) (((Bl.list p0 l0).2.1).2))), (15, .sat (nR (s2 + 1) none ((Bl.list p0 l0).1))), (17, .val (.bool ((Bl.list p0 l0).2.2))), (19, .sat (nP (s2 + 1) none (((Bl.char p0 l0).2.1).1) (((Bl.char p0 l0).2.1).2))), (18, .val (.int .i64 (Bl.char p0 l0).1)), (20, .val (.bool ((Bl.char p0 l0).2.2))), (22, .sat (nP (s2 + 1) none (((Bl.code p0 l0).2.1).1) (((Bl.code p0 l0).2.1).2))), (21, .val (.int .i64 (Bl.code p0 l0).1)), (23, .val (.bool ((Bl.code p0 l0).2.2))), (26, .sat (nP (s2 + 1) none (((Bl.ind p0 l0).2.2.1).1) (((Bl.ind p0 l0).2.2.1).2))), (25, .val (.int .i64 (Bl.ind p0 l0).2.1)), (27, .val (.bool ((Bl.ind p0 l0).2.2.2)))] w0 a w)
    (hQ : ∀ a' w', Hold 275 [(1, .sat (oP s p0 l0)), (2, .val (.bool false)), (3, .sat (aB (s2 + 1) (Bl.bs p0 l0))), (4, .sat (aZ s2 8)), (990, .sat (gP (s2 + 1) none)), (5, .val (.string (Bl.atom p0 l0).1)), (7, .val (.bool ((Bl.atom p0 l0).2.2))), (8, .val (.int .i64 (Bl.int p0 l0).1)), (10, .val (.bool ((Bl.int p0 l0).2.2))), (12, .val (.bool ((Bl.callable p0 l0).2))), (14, .val (.bool ((Bl.atomic p0 l0).2))), (15, .sat (nR (s2 + 1) none ((Bl.list p0 l0).1))), (17, .val (.bool ((Bl.list p0 l0).2.2))), (18, .val (.int .i64 (Bl.char p0 l0).1)), (20, .val (.bool ((Bl.char p0 l0).2.2))), (21, .val (.int .i64 (Bl.code p0 l0).1)), (23, .val (.bool ((Bl.code p0 l0).2.2))), (25, .val (.int .i64 (Bl.ind p0 l0).2.1)), (27, .val (.bool ((Bl.ind p0 l0).2.2.2)))] w0 a' w' → Q .normal a' w') : (Code.region 11 lChecks11Ops false).wp Try.prog Q a w := by
  refine region_seq (w0 := w) 10 (by kernel_rfl) ?_
  rw [show List.range 10 = [0, 1, 2, 3, 4, 5, 6, 7, 8, 9] from rfl]
  refine env_one (i := 0) (d := 81) (k := .sat (nT (s2 + 1) none (((Bl.atom p0 l0).2.1).1) (((Bl.atom p0 l0).2.1).2))) (step_nload (by kernel_rfl) (Opd.of_base 6 rfl) rfl) (by kernel_rfl) (by decide) h ?_
  clear h
  intro a w h
  refine env_one (i := 1) (d := 82) (k := .sat (nT (s2 + 1) none (((Bl.int p0 l0).2.1).1) (((Bl.int p0 l0).2.1).2))) (step_nload (by kernel_rfl) (Opd.of_base 9 rfl) rfl) (by kernel_rfl) (by decide) h ?_
  clear h
  intro a w h
  refine env_one (i := 2) (d := 83) (k := .sat (nT (s2 + 1) none (((Bl.callable p0 l0).1).1) (((Bl.callable p0 l0).1).2))) (step_nload (by kernel_rfl) (Opd.of_base 11 rfl) rfl) (by kernel_rfl) (by decide) h ?_
  clear h
  intro a w h
  refine env_one (i := 3) (d := 84) (k := .sat (nT (s2 + 1) none (((Bl.atomic p0 l0).1).1) (((Bl.atomic p0 l0).1).2))) (step_nload (by kernel_rfl) (Opd.of_base 13 rfl) rfl) (by kernel_rfl) (by decide) h ?_
  clear h
  intro a w h
  refine env_one (i := 4) (d := 85) (k := .sat (nT (s2 + 1) none (((Bl.list p0 l0).2.1).1) (((Bl.list p0 l0).2.1).2))) (step_nload (by kernel_rfl) (Opd.of_base 16 rfl) rfl) (by kernel_rfl) (by decide) h ?_
  clear h
  intro a w h
  refine env_one (i := 5) (d := 86) (k := .sat (nT (s2 + 1) none (((Bl.char p0 l0).2.1).1) (((Bl.char p0 l0).2.1).2))) (step_nload (by kernel_rfl) (Opd.of_base 19 rfl) rfl) (by kernel_rfl) (by decide) h ?_
  clear h
  intro a w h
  refine env_one (i := 6) (d := 87) (k := .sat (nT (s2 + 1) none (((Bl.code p0 l0).2.1).1) (((Bl.code p0 l0).2.1).2))) (step_nload (by kernel_rfl) (Opd.of_base 22 rfl) rfl) (by kernel_rfl) (by decide) h ?_
  clear h
  intro a w h
  refine env_one (i := 7) (d := 88) (k := .sat (nT (s2 + 1) none (((Bl.ind p0 l0).2.2.1).1) (((Bl.ind p0 l0).2.2.1).2))) (step_nload (by kernel_rfl) (Opd.of_base 26 rfl) rfl) (by kernel_rfl) (by decide) h ?_
  clear h
  intro a w h
  obtain ⟨A0, c0, e0, a0⟩ := h.get 81 rfl
  obtain ⟨A1, c1, e1, a1⟩ := h.get 82 rfl
  obtain ⟨A2, c2, e2, a2⟩ := h.get 83 rfl
  obtain ⟨A3, c3, e3, a3⟩ := h.get 84 rfl
  obtain ⟨A4, c4, e4, a4⟩ := h.get 85 rfl
  obtain ⟨A5, c5, e5, a5⟩ := h.get 86 rfl
  obtain ⟨A6, c6, e6, a6⟩ := h.get 87 rfl
  obtain ⟨A7, c7, e7, a7⟩ := h.get 88 rfl
  obtain ⟨ep, hps, old, tt, hh, hm⟩ := h.get 3 rfl
  obtain ⟨eq, hqs, old2, tt2, hh2, hm2⟩ := h.get 4 rfl
  obtain ⟨b1, o1, A, c, ez, hl1, hs1, hn1⟩ := h.get 1 rfl
  refine wpOps_buildStore (i := 8) (j := 9) (d := 89) (x := 3) (g := s) (old := old) (tt := tt) (t := 55) (parts := #[(0, .tmp 81), (1, .tmp 82), (2, .tmp 83), (3, .tmp 84), (4, .tmp 85), (5, .tmp 86), (6, .tmp 87), (7, .tmp 88)]) (cells := #[.int .i64 ((Bl.atom p0 l0).2.1).1.1, .int .i64 ((Bl.atom p0 l0).2.1).1.2.1, .string ((Bl.atom p0 l0).2.1).1.2.2, .slice A0 (Tm.len (((Bl.atom p0 l0).2.1).2)) c0, .int .i64 ((Bl.int p0 l0).2.1).1.1, .int .i64 ((Bl.int p0 l0).2.1).1.2.1, .string ((Bl.int p0 l0).2.1).1.2.2, .slice A1 (Tm.len (((Bl.int p0 l0).2.1).2)) c1, .int .i64 ((Bl.callable p0 l0).1).1.1, .int .i64 ((Bl.callable p0 l0).1).1.2.1, .string ((Bl.callable p0 l0).1).1.2.2, .slice A2 (Tm.len (((Bl.callable p0 l0).1).2)) c2, .int .i64 ((Bl.atomic p0 l0).1).1.1, .int .i64 ((Bl.atomic p0 l0).1).1.2.1, .string ((Bl.atomic p0 l0).1).1.2.2, .slice A3 (Tm.len (((Bl.atomic p0 l0).1).2)) c3, .int .i64 ((Bl.list p0 l0).2.1).1.1, .int .i64 ((Bl.list p0 l0).2.1).1.2.1, .string ((Bl.list p0 l0).2.1).1.2.2, .slice A4 (Tm.len (((Bl.list p0 l0).2.1).2)) c4, .int .i64 ((Bl.char p0 l0).2.1).1.1, .int .i64 ((Bl.char p0 l0).2.1).1.2.1, .string ((Bl.char p0 l0).2.1).1.2.2, .slice A5 (Tm.len (((Bl.char p0 l0).2.1).2)) c5, .int .i64 ((Bl.code p0 l0).2.1).1.1, .int .i64 ((Bl.code p0 l0).2.1).1.2.1, .string ((Bl.code p0 l0).2.1).1.2.2, .slice A6 (Tm.len (((Bl.code p0 l0).2.1).2)) c6, .int .i64 ((Bl.ind p0 l0).2.2.1).1.1, .int .i64 ((Bl.ind p0 l0).2.2.1).1.2.1, .string ((Bl.ind p0 l0).2.2.1).1.2.2, .slice A7 (Tm.len (((Bl.ind p0 l0).2.2.1).2)) c7]) (by kernel_rfl) (by kernel_rfl) ?_ (by rw [h.size]; decide) (by decide) ep hh (by kernel_rfl) hm (by simp [Value.oneCell']) ?_
  · simp only [List.map_toArray, List.map_cons, List.map_nil]
    show Try.prog.built 55 [(0, a.tmps.getD 81 undef), (1, a.tmps.getD 82 undef), (2, a.tmps.getD 83 undef), (3, a.tmps.getD 84 undef), (4, a.tmps.getD 85 undef), (5, a.tmps.getD 86 undef), (6, a.tmps.getD 87 undef), (7, a.tmps.getD 88 undef)] = _
    rw [e0, e1, e2, e3, e4, e5, e6, e7]
    exact built_terms _ _ _ _ _ _ _ _ _ _ _ _ _ _ _ _ _ _ _ _ _ _ _ _ _ _ _ _ _ _ _ _
  have hbl : ∀ k, k ≠ s → (w.setRow s #[.int .i64 ((Bl.atom p0 l0).2.1).1.1, .int .i64 ((Bl.atom p0 l0).2.1).1.2.1, .string ((Bl.atom p0 l0).2.1).1.2.2, .slice A0 (Tm.len (((Bl.atom p0 l0).2.1).2)) c0, .int .i64 ((Bl.int p0 l0).2.1).1.1, .int .i64 ((Bl.int p0 l0).2.1).1.2.1, .string ((Bl.int p0 l0).2.1).1.2.2, .slice A1 (Tm.len (((Bl.int p0 l0).2.1).2)) c1, .int .i64 ((Bl.callable p0 l0).1).1.1, .int .i64 ((Bl.callable p0 l0).1).1.2.1, .string ((Bl.callable p0 l0).1).1.2.2, .slice A2 (Tm.len (((Bl.callable p0 l0).1).2)) c2, .int .i64 ((Bl.atomic p0 l0).1).1.1, .int .i64 ((Bl.atomic p0 l0).1).1.2.1, .string ((Bl.atomic p0 l0).1).1.2.2, .slice A3 (Tm.len (((Bl.atomic p0 l0).1).2)) c3, .int .i64 ((Bl.list p0 l0).2.1).1.1, .int .i64 ((Bl.list p0 l0).2.1).1.2.1, .string ((Bl.list p0 l0).2.1).1.2.2, .slice A4 (Tm.len (((Bl.list p0 l0).2.1).2)) c4, .int .i64 ((Bl.char p0 l0).2.1).1.1, .int .i64 ((Bl.char p0 l0).2.1).1.2.1, .string ((Bl.char p0 l0).2.1).1.2.2, .slice A5 (Tm.len (((Bl.char p0 l0).2.1).2)) c5, .int .i64 ((Bl.code p0 l0).2.1).1.1, .int .i64 ((Bl.code p0 l0).2.1).1.2.1, .string ((Bl.code p0 l0).2.1).1.2.2, .slice A6 (Tm.len (((Bl.code p0 l0).2.1).2)) c6, .int .i64 ((Bl.ind p0 l0).2.2.1).1.1, .int .i64 ((Bl.ind p0 l0).2.2.1).1.2.1, .string ((Bl.ind p0 l0).2.2.1).1.2.2, .slice A7 (Tm.len (((Bl.ind p0 l0).2.2.1).2)) c7]).heap[k]? = w.heap[k]? := fun k hk => setRow_other _ _ _ _ hk
  have hsz : (w.setRow s #[.int .i64 ((Bl.atom p0 l0).2.1).1.1, .int .i64 ((Bl.atom p0 l0).2.1).1.2.1, .string ((Bl.atom p0 l0).2.1).1.2.2, .slice A0 (Tm.len (((Bl.atom p0 l0).2.1).2)) c0, .int .i64 ((Bl.int p0 l0).2.1).1.1, .int .i64 ((Bl.int p0 l0).2.1).1.2.1, .string ((Bl.int p0 l0).2.1).1.2.2, .slice A1 (Tm.len (((Bl.int p0 l0).2.1).2)) c1, .int .i64 ((Bl.callable p0 l0).1).1.1, .int .i64 ((Bl.callable p0 l0).1).1.2.1, .string ((Bl.callable p0 l0).1).1.2.2, .slice A2 (Tm.len (((Bl.callable p0 l0).1).2)) c2, .int .i64 ((Bl.atomic p0 l0).1).1.1, .int .i64 ((Bl.atomic p0 l0).1).1.2.1, .string ((Bl.atomic p0 l0).1).1.2.2, .slice A3 (Tm.len (((Bl.atomic p0 l0).1).2)) c3, .int .i64 ((Bl.list p0 l0).2.1).1.1, .int .i64 ((Bl.list p0 l0).2.1).1.2.1, .string ((Bl.list p0 l0).2.1).1.2.2, .slice A4 (Tm.len (((Bl.list p0 l0).2.1).2)) c4, .int .i64 ((Bl.char p0 l0).2.1).1.1, .int .i64 ((Bl.char p0 l0).2.1).1.2.1, .string ((Bl.char p0 l0).2.1).1.2.2, .slice A5 (Tm.len (((Bl.char p0 l0).2.1).2)) c5, .int .i64 ((Bl.code p0 l0).2.1).1.1, .int .i64 ((Bl.code p0 l0).2.1).1.2.1, .string ((Bl.code p0 l0).2.1).1.2.2, .slice A6 (Tm.len (((Bl.code p0 l0).2.1).2)) c6, .int .i64 ((Bl.ind p0 l0).2.2.1).1.1, .int .i64 ((Bl.ind p0 l0).2.2.1).1.2.1, .string ((Bl.ind p0 l0).2.2.1).1.2.2, .slice A7 (Tm.len (((Bl.ind p0 l0).2.2.1).2)) c7]).heap.size = w.heap.size := setRow_size _ _ _
  have hcell : ∀ j, (w.setRow s #[.int .i64 ((Bl.atom p0 l0).2.1).1.1, .int .i64 ((Bl.atom p0 l0).2.1).1.2.1, .string ((Bl.atom p0 l0).2.1).1.2.2, .slice A0 (Tm.len (((Bl.atom p0 l0).2.1).2)) c0, .int .i64 ((Bl.int p0 l0).2.1).1.1, .int .i64 ((Bl.int p0 l0).2.1).1.2.1, .string ((Bl.int p0 l0).2.1).1.2.2, .slice A1 (Tm.len (((Bl.int p0 l0).2.1).2)) c1, .int .i64 ((Bl.callable p0 l0).1).1.1, .int .i64 ((Bl.callable p0 l0).1).1.2.1, .string ((Bl.callable p0 l0).1).1.2.2, .slice A2 (Tm.len (((Bl.callable p0 l0).1).2)) c2, .int .i64 ((Bl.atomic p0 l0).1).1.1, .int .i64 ((Bl.atomic p0 l0).1).1.2.1, .string ((Bl.atomic p0 l0).1).1.2.2, .slice A3 (Tm.len (((Bl.atomic p0 l0).1).2)) c3, .int .i64 ((Bl.list p0 l0).2.1).1.1, .int .i64 ((Bl.list p0 l0).2.1).1.2.1, .string ((Bl.list p0 l0).2.1).1.2.2, .slice A4 (Tm.len (((Bl.list p0 l0).2.1).2)) c4, .int .i64 ((Bl.char p0 l0).2.1).1.1, .int .i64 ((Bl.char p0 l0).2.1).1.2.1, .string ((Bl.char p0 l0).2.1).1.2.2, .slice A5 (Tm.len (((Bl.char p0 l0).2.1).2)) c5, .int .i64 ((Bl.code p0 l0).2.1).1.1, .int .i64 ((Bl.code p0 l0).2.1).1.2.1, .string ((Bl.code p0 l0).2.1).1.2.2, .slice A6 (Tm.len (((Bl.code p0 l0).2.1).2)) c6, .int .i64 ((Bl.ind p0 l0).2.2.1).1.1, .int .i64 ((Bl.ind p0 l0).2.2.1).1.2.1, .string ((Bl.ind p0 l0).2.2.1).1.2.2, .slice A7 (Tm.len (((Bl.ind p0 l0).2.2.1).2)) c7]).cell? ⟨s, j, none⟩ = (#[.int .i64 ((Bl.atom p0 l0).2.1).1.1, .int .i64 ((Bl.atom p0 l0).2.1).1.2.1, .string ((Bl.atom p0 l0).2.1).1.2.2, .slice A0 (Tm.len (((Bl.atom p0 l0).2.1).2)) c0, .int .i64 ((Bl.int p0 l0).2.1).1.1, .int .i64 ((Bl.int p0 l0).2.1).1.2.1, .string ((Bl.int p0 l0).2.1).1.2.2, .slice A1 (Tm.len (((Bl.int p0 l0).2.1).2)) c1, .int .i64 ((Bl.callable p0 l0).1).1.1, .int .i64 ((Bl.callable p0 l0).1).1.2.1, .string ((Bl.callable p0 l0).1).1.2.2, .slice A2 (Tm.len (((Bl.callable p0 l0).1).2)) c2, .int .i64 ((Bl.atomic p0 l0).1).1.1, .int .i64 ((Bl.atomic p0 l0).1).1.2.1, .string ((Bl.atomic p0 l0).1).1.2.2, .slice A3 (Tm.len (((Bl.atomic p0 l0).1).2)) c3, .int .i64 ((Bl.list p0 l0).2.1).1.1, .int .i64 ((Bl.list p0 l0).2.1).1.2.1, .string ((Bl.list p0 l0).2.1).1.2.2, .slice A4 (Tm.len (((Bl.list p0 l0).2.1).2)) c4, .int .i64 ((Bl.char p0 l0).2.1).1.1, .int .i64 ((Bl.char p0 l0).2.1).1.2.1, .string ((Bl.char p0 l0).2.1).1.2.2, .slice A5 (Tm.len (((Bl.char p0 l0).2.1).2)) c5, .int .i64 ((Bl.code p0 l0).2.1).1.1, .int .i64 ((Bl.code p0 l0).2.1).1.2.1, .string ((Bl.code p0 l0).2.1).1.2.2, .slice A6 (Tm.len (((Bl.code p0 l0).2.1).2)) c6, .int .i64 ((Bl.ind p0 l0).2.2.1).1.1, .int .i64 ((Bl.ind p0 l0).2.2.1).1.2.1, .string ((Bl.ind p0 l0).2.2.1).1.2.2, .slice A7 (Tm.len (((Bl.ind p0 l0).2.2.1).2)) c7] : Array Value)[j]? := fun j => cell_setRow_same _ _ _ _ _ _ _ hh
  have hbw : Below w0.heap.size w0 (w.setRow s #[.int .i64 ((Bl.atom p0 l0).2.1).1.1, .int .i64 ((Bl.atom p0 l0).2.1).1.2.1, .string ((Bl.atom p0 l0).2.1).1.2.2, .slice A0 (Tm.len (((Bl.atom p0 l0).2.1).2)) c0, .int .i64 ((Bl.int p0 l0).2.1).1.1, .int .i64 ((Bl.int p0 l0).2.1).1.2.1, .string ((Bl.int p0 l0).2.1).1.2.2, .slice A1 (Tm.len (((Bl.int p0 l0).2.1).2)) c1, .int .i64 ((Bl.callable p0 l0).1).1.1, .int .i64 ((Bl.callable p0 l0).1).1.2.1, .string ((Bl.callable p0 l0).1).1.2.2, .slice A2 (Tm.len (((Bl.callable p0 l0).1).2)) c2, .int .i64 ((Bl.atomic p0 l0).1).1.1, .int .i64 ((Bl.atomic p0 l0).1).1.2.1, .string ((Bl.atomic p0 l0).1).1.2.2, .slice A3 (Tm.len (((Bl.atomic p0 l0).1).2)) c3, .int .i64 ((Bl.list p0 l0).2.1).1.1, .int .i64 ((Bl.list p0 l0).2.1).1.2.1, .string ((Bl.list p0 l0).2.1).1.2.2, .slice A4 (Tm.len (((Bl.list p0 l0).2.1).2)) c4, .int .i64 ((Bl.char p0 l0).2.1).1.1, .int .i64 ((Bl.char p0 l0).2.1).1.2.1, .string ((Bl.char p0 l0).2.1).1.2.2, .slice A5 (Tm.len (((Bl.char p0 l0).2.1).2)) c5, .int .i64 ((Bl.code p0 l0).2.1).1.1, .int .i64 ((Bl.code p0 l0).2.1).1.2.1, .string ((Bl.code p0 l0).2.1).1.2.2, .slice A6 (Tm.len (((Bl.code p0 l0).2.1).2)) c6, .int .i64 ((Bl.ind p0 l0).2.2.1).1.1, .int .i64 ((Bl.ind p0 l0).2.2.1).1.2.1, .string ((Bl.ind p0 l0).2.2.1).1.2.2, .slice A7 (Tm.len (((Bl.ind p0 l0).2.2.1).2)) c7]) := ⟨h.world.os, h.world.tape, h.world.output, by rw [setRow_size]; exact h.world.size, fun k hk => (setRow_other _ _ _ _ (by omega)).trans (h.world.block k hk)⟩
  generalize w.setRow s #[.int .i64 ((Bl.atom p0 l0).2.1).1.1, .int .i64 ((Bl.atom p0 l0).2.1).1.2.1, .string ((Bl.atom p0 l0).2.1).1.2.2, .slice A0 (Tm.len (((Bl.atom p0 l0).2.1).2)) c0, .int .i64 ((Bl.int p0 l0).2.1).1.1, .int .i64 ((Bl.int p0 l0).2.1).1.2.1, .string ((Bl.int p0 l0).2.1).1.2.2, .slice A1 (Tm.len (((Bl.int p0 l0).2.1).2)) c1, .int .i64 ((Bl.callable p0 l0).1).1.1, .int .i64 ((Bl.callable p0 l0).1).1.2.1, .string ((Bl.callable p0 l0).1).1.2.2, .slice A2 (Tm.len (((Bl.callable p0 l0).1).2)) c2, .int .i64 ((Bl.atomic p0 l0).1).1.1, .int .i64 ((Bl.atomic p0 l0).1).1.2.1, .string ((Bl.atomic p0 l0).1).1.2.2, .slice A3 (Tm.len (((Bl.atomic p0 l0).1).2)) c3, .int .i64 ((Bl.list p0 l0).2.1).1.1, .int .i64 ((Bl.list p0 l0).2.1).1.2.1, .string ((Bl.list p0 l0).2.1).1.2.2, .slice A4 (Tm.len (((Bl.list p0 l0).2.1).2)) c4, .int .i64 ((Bl.char p0 l0).2.1).1.1, .int .i64 ((Bl.char p0 l0).2.1).1.2.1, .string ((Bl.char p0 l0).2.1).1.2.2, .slice A5 (Tm.len (((Bl.char p0 l0).2.1).2)) c5, .int .i64 ((Bl.code p0 l0).2.1).1.1, .int .i64 ((Bl.code p0 l0).2.1).1.2.1, .string ((Bl.code p0 l0).2.1).1.2.2, .slice A6 (Tm.len (((Bl.code p0 l0).2.1).2)) c6, .int .i64 ((Bl.ind p0 l0).2.2.1).1.1, .int .i64 ((Bl.ind p0 l0).2.2.1).1.2.1, .string ((Bl.ind p0 l0).2.2.1).1.2.2, .slice A7 (Tm.len (((Bl.ind p0 l0).2.2.1).2)) c7] = w' at hbl hsz hcell hbw ⊢
  have args : ∀ (A' : Option Addr) (n : Nat) (F : Fo), ArgsIn (Ns (s2 + 1) none w) w A' n F → ArgsIn (Ns (s2 + 1) none w') w' A' n F := fun A' n F ha => (ha.keep fun b hb => hbl b (by have := hb.1; omega)).mono fun b hb => ⟨hb.1, by rw [hsz]; exact hb.2.1, hb.2.2⟩
  have hall : ∀ k, k < 8 → ∃ A c, NodeAt (Ns (s2 + 1) none w') w' s (k * 4) ((Bl.bs p0 l0) k).1 ((Bl.bs p0 l0) k).2 A c := by
    intro k hk
    rcases (show k = 0 ∨ k = 1 ∨ k = 2 ∨ k = 3 ∨ k = 4 ∨ k = 5 ∨ k = 6 ∨ k = 7 by omega) with rfl | rfl | rfl | rfl | rfl | rfl | rfl | rfl
    · exact ⟨A0, c0, (hcell _).trans rfl, (hcell _).trans rfl, (hcell _).trans rfl, (hcell _).trans rfl, args _ _ _ a0⟩
    · exact ⟨A1, c1, (hcell _).trans rfl, (hcell _).trans rfl, (hcell _).trans rfl, (hcell _).trans rfl, args _ _ _ a1⟩
    · exact ⟨A2, c2, (hcell _).trans rfl, (hcell _).trans rfl, (hcell _).trans rfl, (hcell _).trans rfl, args _ _ _ a2⟩
    · exact ⟨A3, c3, (hcell _).trans rfl, (hcell _).trans rfl, (hcell _).trans rfl, (hcell _).trans rfl, args _ _ _ a3⟩
    · exact ⟨A4, c4, (hcell _).trans rfl, (hcell _).trans rfl, (hcell _).trans rfl, (hcell _).trans rfl, args _ _ _ a4⟩
    · exact ⟨A5, c5, (hcell _).trans rfl, (hcell _).trans rfl, (hcell _).trans rfl, (hcell _).trans rfl, args _ _ _ a5⟩
    · exact ⟨A6, c6, (hcell _).trans rfl, (hcell _).trans rfl, (hcell _).trans rfl, (hcell _).trans rfl, args _ _ _ a6⟩
    · exact ⟨A7, c7, (hcell _).trans rfl, (hcell _).trans rfl, (hcell _).trans rfl, (hcell _).trans rfl, args _ _ _ a7⟩
  exact hQ _ _ ⟨put_size.trans h.size, h.defers, hbw, (slots_cons 1 (by rw [put_other (by decide)]; exact ⟨b1, o1, A, c, ez, hl1, by rw [hsz]; exact hs1, hn1.keep (hbl _ (by omega)) (fun b hb => hbl b (by omega)) (fun b hb => hb)⟩) (slots_cons 2 (by rw [put_other (by decide)]; exact h.get 2 rfl) (slots_cons 3 (by rw [put_other (by decide)]; exact ⟨s, ep, by omega, by rw [hsz]; exact hps, hall⟩) (slots_cons 4 (by rw [put_other (by decide)]; exact ⟨eq, by rw [hsz]; exact hqs, old2, tt2, (hbl _ (by omega)).trans hh2, hm2⟩) (slots_cons 990 ⟨by rw [hsz]; exact (h.get 990 rfl).1, fun r e => by cases e⟩ (slots_cons 5 (by rw [put_other (by decide)]; exact h.get 5 rfl) (slots_cons 7 (by rw [put_other (by decide)]; exact h.get 7 rfl) (slots_cons 8 (by rw [put_other (by decide)]; exact h.get 8 rfl) (slots_cons 10 (by rw [put_other (by decide)]; exact h.get 10 rfl) (slots_cons 12 (by rw [put_other (by decide)]; exact h.get 12 rfl) (slots_cons 14 (by rw [put_other (by decide)]; exact h.get 14 rfl) (slots_cons 15 (by rw [put_other (by decide)]; obtain ⟨A', c', e', a'⟩ := h.get 15 rfl; exact ⟨A', c', e', args _ _ _ a'⟩) (slots_cons 17 (by rw [put_other (by decide)]; exact h.get 17 rfl) (slots_cons 18 (by rw [put_other (by decide)]; exact h.get 18 rfl) (slots_cons 20 (by rw [put_other (by decide)]; exact h.get 20 rfl) (slots_cons 21 (by rw [put_other (by decide)]; exact h.get 21 rfl) (slots_cons 23 (by rw [put_other (by decide)]; exact h.get 23 rfl) (slots_cons 25 (by rw [put_other (by decide)]; exact h.get 25 rfl) (slots_cons 27 (by rw [put_other (by decide)]; exact h.get 27 rfl) slots_nil)))))))))))))))))))⟩
theorem lChecks12_region {Q : Exit → Act → World → Prop} (p0 : Pay) (l0 : Fo) (s s2 : Nat) {w0 : World} {a : Act} {w : World} (hws : w0.heap.size ≤ s) (hss : s < s2) (h : Hold 275 [(1, .sat (oP s p0 l0)), (2, .val (.bool false)), (3, .sat (aB (s2 + 1) (Bl.bs p0 l0))), (4, .sat (aZ s2 8)), (990, .sat (gP (s2 + 1) none)), (5, .val (.string (Bl.atom p0 l0).1)), (7, .val (.bool ((Bl.atom p0 l0).2.2))), (8, .val (.int .i64 (Bl.int p0 l0).1)), (10, .val (.bool ((Bl.int p0 l0).2.2))), (12, .val (.bool ((Bl.callable p0 l0).2))), (14, .val (.bool ((Bl.atomic p0 l0).2))), (15, .sat (nR (s2 + 1) none ((Bl.list p0 l0).1))), (17, .val (.bool ((Bl.list p0 l0).2.2))), (18, .val (.int .i64 (Bl.char p0 l0).1)), (20, .val (.bool ((Bl.char p0 l0).2.2))), (21, .val (.int .i64 (Bl.code p0 l0).1)), (23, .val (.bool ((Bl.code p0 l0).2.2))), (25, .val (.int .i64 (Bl.ind p0 l0).2.1)), (27, .val (.bool ((Bl.ind p0 l0).2.2.2)))] w0 a w)
    (hQ : ∀ a' w', Hold 275 [(1, .sat (oP s p0 l0)), (2, .val (.bool false)), (3, .sat (aB (s2 + 1) (Bl.bs p0 l0))), (4, .sat (aK (Bl.oks p0 l0))), (990, .sat (gP (s2 + 1) none)), (5, .val (.string (Bl.atom p0 l0).1)), (7, .val (.bool ((Bl.atom p0 l0).2.2))), (8, .val (.int .i64 (Bl.int p0 l0).1)), (10, .val (.bool ((Bl.int p0 l0).2.2))), (12, .val (.bool ((Bl.callable p0 l0).2))), (14, .val (.bool ((Bl.atomic p0 l0).2))), (15, .sat (nR (s2 + 1) none ((Bl.list p0 l0).1))), (17, .val (.bool ((Bl.list p0 l0).2.2))), (18, .val (.int .i64 (Bl.char p0 l0).1)), (20, .val (.bool ((Bl.char p0 l0).2.2))), (21, .val (.int .i64 (Bl.code p0 l0).1)), (23, .val (.bool ((Bl.code p0 l0).2.2))), (25, .val (.int .i64 (Bl.ind p0 l0).2.1)), (27, .val (.bool ((Bl.ind p0 l0).2.2.2)))] w0 a' w' → Q .normal a' w') : (Code.region 12 lChecks12Ops false).wp Try.prog Q a w := by
  refine region_seq (w0 := w) 10 (by kernel_rfl) ?_
  rw [show List.range 10 = [0, 1, 2, 3, 4, 5, 6, 7, 8, 9] from rfl]
  refine env_one (i := 0) (d := 90) (k := .val (.bool ((Bl.atom p0 l0).2.2))) (step_move (by kernel_rfl) (Opd.of_base 7 rfl) rfl) (by kernel_rfl) (by decide) h ?_
  clear h
  intro a w h
  refine env_one (i := 1) (d := 91) (k := .val (.bool ((Bl.int p0 l0).2.2))) (step_move (by kernel_rfl) (Opd.of_base 10 rfl) rfl) (by kernel_rfl) (by decide) h ?_
  clear h
  intro a w h
  refine env_one (i := 2) (d := 92) (k := .val (.bool ((Bl.callable p0 l0).2))) (step_move (by kernel_rfl) (Opd.of_base 12 rfl) rfl) (by kernel_rfl) (by decide) h ?_
  clear h
  intro a w h
  refine env_one (i := 3) (d := 93) (k := .val (.bool ((Bl.atomic p0 l0).2))) (step_move (by kernel_rfl) (Opd.of_base 14 rfl) rfl) (by kernel_rfl) (by decide) h ?_
  clear h
  intro a w h
  refine env_one (i := 4) (d := 94) (k := .val (.bool ((Bl.list p0 l0).2.2))) (step_move (by kernel_rfl) (Opd.of_base 17 rfl) rfl) (by kernel_rfl) (by decide) h ?_
  clear h
  intro a w h
  refine env_one (i := 5) (d := 95) (k := .val (.bool ((Bl.char p0 l0).2.2))) (step_move (by kernel_rfl) (Opd.of_base 20 rfl) rfl) (by kernel_rfl) (by decide) h ?_
  clear h
  intro a w h
  refine env_one (i := 6) (d := 96) (k := .val (.bool ((Bl.code p0 l0).2.2))) (step_move (by kernel_rfl) (Opd.of_base 23 rfl) rfl) (by kernel_rfl) (by decide) h ?_
  clear h
  intro a w h
  refine env_one (i := 7) (d := 97) (k := .val (.bool ((Bl.ind p0 l0).2.2.2))) (step_move (by kernel_rfl) (Opd.of_base 27 rfl) rfl) (by kernel_rfl) (by decide) h ?_
  clear h
  intro a w h
  have e0 : a.tmps.getD 90 undef = .bool ((Bl.atom p0 l0).2.2) := h.get 90 rfl
  have e1 : a.tmps.getD 91 undef = .bool ((Bl.int p0 l0).2.2) := h.get 91 rfl
  have e2 : a.tmps.getD 92 undef = .bool ((Bl.callable p0 l0).2) := h.get 92 rfl
  have e3 : a.tmps.getD 93 undef = .bool ((Bl.atomic p0 l0).2) := h.get 93 rfl
  have e4 : a.tmps.getD 94 undef = .bool ((Bl.list p0 l0).2.2) := h.get 94 rfl
  have e5 : a.tmps.getD 95 undef = .bool ((Bl.char p0 l0).2.2) := h.get 95 rfl
  have e6 : a.tmps.getD 96 undef = .bool ((Bl.code p0 l0).2.2) := h.get 96 rfl
  have e7 : a.tmps.getD 97 undef = .bool ((Bl.ind p0 l0).2.2.2) := h.get 97 rfl
  obtain ⟨sp, ep, hpn, hps, hpk⟩ := h.get 3 rfl
  obtain ⟨eq, hqs, old2, tt2, hh2, hm2⟩ := h.get 4 rfl
  obtain ⟨b1, o1, A, c, ez, hl1, hs1, hn1⟩ := h.get 1 rfl
  refine wpOps_buildStore (i := 8) (j := 9) (d := 98) (x := 4) (g := s2) (old := old2) (tt := tt2) (t := 56) (parts := #[(0, .tmp 90), (1, .tmp 91), (2, .tmp 92), (3, .tmp 93), (4, .tmp 94), (5, .tmp 95), (6, .tmp 96), (7, .tmp 97)]) (cells := #[.bool ((Bl.atom p0 l0).2.2), .bool ((Bl.int p0 l0).2.2), .bool ((Bl.callable p0 l0).2), .bool ((Bl.atomic p0 l0).2), .bool ((Bl.list p0 l0).2.2), .bool ((Bl.char p0 l0).2.2), .bool ((Bl.code p0 l0).2.2), .bool ((Bl.ind p0 l0).2.2.2)]) (by kernel_rfl) (by kernel_rfl) ?_ (by rw [h.size]; decide) (by decide) eq hh2 (by kernel_rfl) hm2 (by simp [Value.oneCell']) ?_
  · simp only [List.map_toArray, List.map_cons, List.map_nil]
    show Try.prog.built 56 [(0, a.tmps.getD 90 undef), (1, a.tmps.getD 91 undef), (2, a.tmps.getD 92 undef), (3, a.tmps.getD 93 undef), (4, a.tmps.getD 94 undef), (5, a.tmps.getD 95 undef), (6, a.tmps.getD 96 undef), (7, a.tmps.getD 97 undef)] = _
    rw [e0, e1, e2, e3, e4, e5, e6, e7]
    exact built_bools _ _ _ _ _ _ _ _
  have hbl : ∀ k, k ≠ s2 → (w.setRow s2 #[.bool ((Bl.atom p0 l0).2.2), .bool ((Bl.int p0 l0).2.2), .bool ((Bl.callable p0 l0).2), .bool ((Bl.atomic p0 l0).2), .bool ((Bl.list p0 l0).2.2), .bool ((Bl.char p0 l0).2.2), .bool ((Bl.code p0 l0).2.2), .bool ((Bl.ind p0 l0).2.2.2)]).heap[k]? = w.heap[k]? := fun k hk => setRow_other _ _ _ _ hk
  have hsz : (w.setRow s2 #[.bool ((Bl.atom p0 l0).2.2), .bool ((Bl.int p0 l0).2.2), .bool ((Bl.callable p0 l0).2), .bool ((Bl.atomic p0 l0).2), .bool ((Bl.list p0 l0).2.2), .bool ((Bl.char p0 l0).2.2), .bool ((Bl.code p0 l0).2.2), .bool ((Bl.ind p0 l0).2.2.2)]).heap.size = w.heap.size := setRow_size _ _ _
  have hcell : ∀ j, (w.setRow s2 #[.bool ((Bl.atom p0 l0).2.2), .bool ((Bl.int p0 l0).2.2), .bool ((Bl.callable p0 l0).2), .bool ((Bl.atomic p0 l0).2), .bool ((Bl.list p0 l0).2.2), .bool ((Bl.char p0 l0).2.2), .bool ((Bl.code p0 l0).2.2), .bool ((Bl.ind p0 l0).2.2.2)]).cell? ⟨s2, j, none⟩ = (#[.bool ((Bl.atom p0 l0).2.2), .bool ((Bl.int p0 l0).2.2), .bool ((Bl.callable p0 l0).2), .bool ((Bl.atomic p0 l0).2), .bool ((Bl.list p0 l0).2.2), .bool ((Bl.char p0 l0).2.2), .bool ((Bl.code p0 l0).2.2), .bool ((Bl.ind p0 l0).2.2.2)] : Array Value)[j]? := fun j => cell_setRow_same _ _ _ _ _ _ _ hh2
  have hbw : Below w0.heap.size w0 (w.setRow s2 #[.bool ((Bl.atom p0 l0).2.2), .bool ((Bl.int p0 l0).2.2), .bool ((Bl.callable p0 l0).2), .bool ((Bl.atomic p0 l0).2), .bool ((Bl.list p0 l0).2.2), .bool ((Bl.char p0 l0).2.2), .bool ((Bl.code p0 l0).2.2), .bool ((Bl.ind p0 l0).2.2.2)]) := ⟨h.world.os, h.world.tape, h.world.output, by rw [setRow_size]; exact h.world.size, fun k hk => (setRow_other _ _ _ _ (by omega)).trans (h.world.block k hk)⟩
  generalize w.setRow s2 #[.bool ((Bl.atom p0 l0).2.2), .bool ((Bl.int p0 l0).2.2), .bool ((Bl.callable p0 l0).2), .bool ((Bl.atomic p0 l0).2), .bool ((Bl.list p0 l0).2.2), .bool ((Bl.char p0 l0).2.2), .bool ((Bl.code p0 l0).2.2), .bool ((Bl.ind p0 l0).2.2.2)] = w' at hbl hsz hcell hbw ⊢
  have args : ∀ (A' : Option Addr) (n : Nat) (F : Fo), ArgsIn (Ns (s2 + 1) none w) w A' n F → ArgsIn (Ns (s2 + 1) none w') w' A' n F := fun A' n F ha => (ha.keep fun b hb => hbl b (by have := hb.1; omega)).mono fun b hb => ⟨hb.1, by rw [hsz]; exact hb.2.1, hb.2.2⟩
  have hall : ∀ k, k < 8 → ∃ A c, NodeAt (Ns (s2 + 1) none w') w' sp (k * 4) ((Bl.bs p0 l0) k).1 ((Bl.bs p0 l0) k).2 A c := by
    intro k hk
    obtain ⟨A', c', hn⟩ := hpk k hk
    exact ⟨A', c', hn.keep (hbl _ (by omega)) (fun b hb => hbl b (by have := hb.1; omega)) (fun b hb => ⟨hb.1, by rw [hsz]; exact hb.2.1, hb.2.2⟩)⟩
  have hok : ∀ k, k < 8 → w'.cell? ⟨s2, k, none⟩ = some (.bool ((Bl.oks p0 l0) k)) := by
    intro k hk
    rcases (show k = 0 ∨ k = 1 ∨ k = 2 ∨ k = 3 ∨ k = 4 ∨ k = 5 ∨ k = 6 ∨ k = 7 by omega) with rfl | rfl | rfl | rfl | rfl | rfl | rfl | rfl <;> exact (hcell _).trans rfl
  exact hQ _ _ ⟨put_size.trans h.size, h.defers, hbw, (slots_cons 1 (by rw [put_other (by decide)]; exact ⟨b1, o1, A, c, ez, hl1, by rw [hsz]; exact hs1, hn1.keep (hbl _ (by omega)) (fun b hb => hbl b (by omega)) (fun b hb => hb)⟩) (slots_cons 2 (by rw [put_other (by decide)]; exact h.get 2 rfl) (slots_cons 3 (by rw [put_other (by decide)]; exact ⟨sp, ep, hpn, by rw [hsz]; exact hps, hall⟩) (slots_cons 4 (by rw [put_other (by decide)]; exact ⟨s2, eq, by rw [hsz]; exact hqs, hok⟩) (slots_cons 990 ⟨by rw [hsz]; exact (h.get 990 rfl).1, fun r e => by cases e⟩ (slots_cons 5 (by rw [put_other (by decide)]; exact h.get 5 rfl) (slots_cons 7 (by rw [put_other (by decide)]; exact h.get 7 rfl) (slots_cons 8 (by rw [put_other (by decide)]; exact h.get 8 rfl) (slots_cons 10 (by rw [put_other (by decide)]; exact h.get 10 rfl) (slots_cons 12 (by rw [put_other (by decide)]; exact h.get 12 rfl) (slots_cons 14 (by rw [put_other (by decide)]; exact h.get 14 rfl) (slots_cons 15 (by rw [put_other (by decide)]; obtain ⟨A', c', e', a'⟩ := h.get 15 rfl; exact ⟨A', c', e', args _ _ _ a'⟩) (slots_cons 17 (by rw [put_other (by decide)]; exact h.get 17 rfl) (slots_cons 18 (by rw [put_other (by decide)]; exact h.get 18 rfl) (slots_cons 20 (by rw [put_other (by decide)]; exact h.get 20 rfl) (slots_cons 21 (by rw [put_other (by decide)]; exact h.get 21 rfl) (slots_cons 23 (by rw [put_other (by decide)]; exact h.get 23 rfl) (slots_cons 25 (by rw [put_other (by decide)]; exact h.get 25 rfl) (slots_cons 27 (by rw [put_other (by decide)]; exact h.get 27 rfl) slots_nil)))))))))))))))))))⟩
theorem lChecks13a_region {Q : Exit → Act → World → Prop} (p0 : Pay) (l0 : Fo) (s : Nat) (s2 : Nat)  {w0 : World} {a : Act} {w : World} (h : Hold 275 [(1, .sat (oP s p0 l0)), (2, .val (.bool false)), (3, .sat (aB (s2 + 1) (Bl.bs p0 l0))), (4, .sat (aK (Bl.oks p0 l0))), (990, .sat (gP (s2 + 1) none)), (5, .val (.string (Bl.atom p0 l0).1)), (7, .val (.bool ((Bl.atom p0 l0).2.2))), (8, .val (.int .i64 (Bl.int p0 l0).1)), (10, .val (.bool ((Bl.int p0 l0).2.2))), (12, .val (.bool ((Bl.callable p0 l0).2))), (14, .val (.bool ((Bl.atomic p0 l0).2))), (15, .sat (nR (s2 + 1) none ((Bl.list p0 l0).1))), (17, .val (.bool ((Bl.list p0 l0).2.2))), (18, .val (.int .i64 (Bl.char p0 l0).1)), (20, .val (.bool ((Bl.char p0 l0).2.2))), (21, .val (.int .i64 (Bl.code p0 l0).1)), (23, .val (.bool ((Bl.code p0 l0).2.2))), (25, .val (.int .i64 (Bl.ind p0 l0).2.1)), (27, .val (.bool ((Bl.ind p0 l0).2.2.2)))] w0 a w)
    (hQ : ∀ a' w', Hold 275 [(1, .sat (oP s p0 l0)), (2, .val (.bool false)), (3, .sat (aB (s2 + 1) (Bl.bs p0 l0))), (4, .sat (aK (Bl.oks p0 l0))), (990, .sat (gP (s2 + 1) none)), (5, .val (.string (Bl.atom p0 l0).1)), (7, .val (.bool ((Bl.atom p0 l0).2.2))), (8, .val (.int .i64 (Bl.int p0 l0).1)), (10, .val (.bool ((Bl.int p0 l0).2.2))), (12, .val (.bool ((Bl.callable p0 l0).2))), (14, .val (.bool ((Bl.atomic p0 l0).2))), (15, .sat (nR (s2 + 1) none ((Bl.list p0 l0).1))), (17, .val (.bool ((Bl.list p0 l0).2.2))), (18, .val (.int .i64 (Bl.char p0 l0).1)), (20, .val (.bool ((Bl.char p0 l0).2.2))), (21, .val (.int .i64 (Bl.code p0 l0).1)), (23, .val (.bool ((Bl.code p0 l0).2.2))), (25, .val (.int .i64 (Bl.ind p0 l0).2.1)), (27, .val (.bool ((Bl.ind p0 l0).2.2.2))), (28, .val (.bool (Tm.validB p0 l0)))] w0 a' w' → Q .normal a' w') : (Code.region 13 lChecks13Ops false).wp Try.prog Q a w := by
  refine region_seq (w0 := w) 3 (by kernel_rfl) ?_
  rw [show List.range 3 = [0, 1, 2] from rfl]
  refine env_one (i := 0) (d := 99) (k := .term p0 l0) (step_load_term (by kernel_rfl) (Opd.ofO (Opd.of_base 1 rfl)) rfl) (by kernel_rfl) (by decide) h ?_
  clear h
  intro a w h
  refine env_one (i := 1) (d := 100) (k := .val (.bool (Tm.validB p0 l0))) (step_rvalid6 (by kernel_rfl) (Opd.of_base 99 rfl) rfl) (by kernel_rfl) (by decide) h ?_
  clear h
  intro a w h
  refine env_one (i := 2) (d := 28) (k := .val (.bool (Tm.validB p0 l0))) (step_assign (by kernel_rfl) (Opd.of_base 100 rfl) rfl) (by kernel_rfl) (by decide) h ?_
  clear h
  intro a w h
  exact hQ a w (h.keep [1, 2, 3, 4, 990, 5, 7, 8, 10, 12, 14, 15, 17, 18, 20, 21, 23, 25, 27, 28])
theorem lChecks14a_region {Q : Exit → Act → World → Prop} (p0 : Pay) (l0 : Fo) (s : Nat) (s2 : Nat)  {w0 : World} {a : Act} {w : World} (h : Hold 275 [(1, .sat (oP s p0 l0)), (2, .val (.bool false)), (3, .sat (aB (s2 + 1) (Bl.bs p0 l0))), (4, .sat (aK (Bl.oks p0 l0))), (990, .sat (gP (s2 + 1) none)), (5, .val (.string (Bl.atom p0 l0).1)), (7, .val (.bool ((Bl.atom p0 l0).2.2))), (8, .val (.int .i64 (Bl.int p0 l0).1)), (10, .val (.bool ((Bl.int p0 l0).2.2))), (12, .val (.bool ((Bl.callable p0 l0).2))), (14, .val (.bool ((Bl.atomic p0 l0).2))), (15, .sat (nR (s2 + 1) none ((Bl.list p0 l0).1))), (17, .val (.bool ((Bl.list p0 l0).2.2))), (18, .val (.int .i64 (Bl.char p0 l0).1)), (20, .val (.bool ((Bl.char p0 l0).2.2))), (21, .val (.int .i64 (Bl.code p0 l0).1)), (23, .val (.bool ((Bl.code p0 l0).2.2))), (25, .val (.int .i64 (Bl.ind p0 l0).2.1)), (27, .val (.bool ((Bl.ind p0 l0).2.2.2))), (28, .val (.bool (Tm.validB p0 l0)))] w0 a w)
    (hQ : ∀ a' w', Hold 275 [(1, .sat (oP s p0 l0)), (2, .val (.bool false)), (3, .sat (aB (s2 + 1) (Bl.bs p0 l0))), (4, .sat (aK (Bl.oks p0 l0))), (990, .sat (gP (s2 + 1) none)), (5, .val (.string (Bl.atom p0 l0).1)), (7, .val (.bool ((Bl.atom p0 l0).2.2))), (8, .val (.int .i64 (Bl.int p0 l0).1)), (10, .val (.bool ((Bl.int p0 l0).2.2))), (12, .val (.bool ((Bl.callable p0 l0).2))), (14, .val (.bool ((Bl.atomic p0 l0).2))), (15, .sat (nR (s2 + 1) none ((Bl.list p0 l0).1))), (17, .val (.bool ((Bl.list p0 l0).2.2))), (18, .val (.int .i64 (Bl.char p0 l0).1)), (20, .val (.bool ((Bl.char p0 l0).2.2))), (21, .val (.int .i64 (Bl.code p0 l0).1)), (23, .val (.bool ((Bl.code p0 l0).2.2))), (25, .val (.int .i64 (Bl.ind p0 l0).2.1)), (27, .val (.bool ((Bl.ind p0 l0).2.2.2))), (28, .val (.bool (Tm.validB p0 l0))), (29, .val (.int .i64 0))] w0 a' w' → Q .normal a' w') : (Code.region 14 lChecks14Ops false).wp Try.prog Q a w := by
  refine region_seq (w0 := w) 1 (by kernel_rfl) ?_
  rw [show List.range 1 = [0] from rfl]
  refine env_one (i := 0) (d := 29) (k := .val (.int .i64 0)) (step_assign (by kernel_rfl) (Opd.const _) rfl) (by kernel_rfl) (by decide) h ?_
  clear h
  intro a w h
  exact hQ a w (h.keep [1, 2, 3, 4, 990, 5, 7, 8, 10, 12, 14, 15, 17, 18, 20, 21, 23, 25, 27, 28, 29])
theorem lChecks15a_region {Q : Exit → Act → World → Prop} (p0 : Pay) (l0 : Fo) (s : Nat) (s2 : Nat) (kk : Nat) (hk8 : kk < 8) {w0 : World} {a : Act} {w : World} (h : Hold 275 [(1, .sat (oP s p0 l0)), (2, .val (.bool false)), (3, .sat (aB (s2 + 1) (Bl.bs p0 l0))), (4, .sat (aK (Bl.oks p0 l0))), (990, .sat (gP (s2 + 1) none)), (5, .val (.string (Bl.atom p0 l0).1)), (7, .val (.bool ((Bl.atom p0 l0).2.2))), (8, .val (.int .i64 (Bl.int p0 l0).1)), (10, .val (.bool ((Bl.int p0 l0).2.2))), (12, .val (.bool ((Bl.callable p0 l0).2))), (14, .val (.bool ((Bl.atomic p0 l0).2))), (15, .sat (nR (s2 + 1) none ((Bl.list p0 l0).1))), (17, .val (.bool ((Bl.list p0 l0).2.2))), (18, .val (.int .i64 (Bl.char p0 l0).1)), (20, .val (.bool ((Bl.char p0 l0).2.2))), (21, .val (.int .i64 (Bl.code p0 l0).1)), (23, .val (.bool ((Bl.code p0 l0).2.2))), (25, .val (.int .i64 (Bl.ind p0 l0).2.1)), (27, .val (.bool ((Bl.ind p0 l0).2.2.2))), (28, .val (.bool (Tm.validB p0 l0))), (29, .val (.int .i64 ((kk : Nat) : Int)))] w0 a w)
    (hQ : ∀ a' w', Hold 275 [(1, .sat (oP s p0 l0)), (2, .val (.bool false)), (3, .sat (aB (s2 + 1) (Bl.bs p0 l0))), (4, .sat (aK (Bl.oks p0 l0))), (990, .sat (gP (s2 + 1) none)), (5, .val (.string (Bl.atom p0 l0).1)), (7, .val (.bool ((Bl.atom p0 l0).2.2))), (8, .val (.int .i64 (Bl.int p0 l0).1)), (10, .val (.bool ((Bl.int p0 l0).2.2))), (12, .val (.bool ((Bl.callable p0 l0).2))), (14, .val (.bool ((Bl.atomic p0 l0).2))), (15, .sat (nR (s2 + 1) none ((Bl.list p0 l0).1))), (17, .val (.bool ((Bl.list p0 l0).2.2))), (18, .val (.int .i64 (Bl.char p0 l0).1)), (20, .val (.bool ((Bl.char p0 l0).2.2))), (21, .val (.int .i64 (Bl.code p0 l0).1)), (23, .val (.bool ((Bl.code p0 l0).2.2))), (25, .val (.int .i64 (Bl.ind p0 l0).2.1)), (27, .val (.bool ((Bl.ind p0 l0).2.2.2))), (28, .val (.bool (Tm.validB p0 l0))), (29, .val (.int .i64 ((kk : Nat) : Int))), (102, .val (.bool true))] w0 a' w' → Q .normal a' w') : (Code.region 15 lChecks15Ops false).wp Try.prog Q a w := by
  refine region_seq (w0 := w) 2 (by kernel_rfl) ?_
  rw [show List.range 2 = [0, 1] from rfl]
  refine env_one (i := 0) (d := 101) (k := .val (.int .i64 ((kk : Nat) : Int))) (step_move (by kernel_rfl) (Opd.of_base 29 rfl) rfl) (by kernel_rfl) (by decide) h ?_
  clear h
  intro a w h
  refine env_one (i := 1) (d := 102) (k := .val (.bool true)) (step_lt_int (m := ((kk : Nat) : Int)) (n := 8) (by kernel_rfl) (Opd.of_base 101 rfl) (Opd.const _) (decide_eq_true (by omega)) rfl) (by kernel_rfl) (by decide) h ?_
  clear h
  intro a w h
  exact hQ a w (h.keep [1, 2, 3, 4, 990, 5, 7, 8, 10, 12, 14, 15, 17, 18, 20, 21, 23, 25, 27, 28, 29, 102])
theorem lChecks17a_region {Q : Exit → Act → World → Prop} (p0 : Pay) (l0 : Fo) (s : Nat) (s2 : Nat) (kk : Nat) (hk8 : kk < 8) {w0 : World} {a : Act} {w : World} (h : Hold 275 [(1, .sat (oP s p0 l0)), (2, .val (.bool false)), (3, .sat (aB (s2 + 1) (Bl.bs p0 l0))), (4, .sat (aK (Bl.oks p0 l0))), (990, .sat (gP (s2 + 1) none)), (5, .val (.string (Bl.atom p0 l0).1)), (7, .val (.bool ((Bl.atom p0 l0).2.2))), (8, .val (.int .i64 (Bl.int p0 l0).1)), (10, .val (.bool ((Bl.int p0 l0).2.2))), (12, .val (.bool ((Bl.callable p0 l0).2))), (14, .val (.bool ((Bl.atomic p0 l0).2))), (15, .sat (nR (s2 + 1) none ((Bl.list p0 l0).1))), (17, .val (.bool ((Bl.list p0 l0).2.2))), (18, .val (.int .i64 (Bl.char p0 l0).1)), (20, .val (.bool ((Bl.char p0 l0).2.2))), (21, .val (.int .i64 (Bl.code p0 l0).1)), (23, .val (.bool ((Bl.code p0 l0).2.2))), (25, .val (.int .i64 (Bl.ind p0 l0).2.1)), (27, .val (.bool ((Bl.ind p0 l0).2.2.2))), (28, .val (.bool (Tm.validB p0 l0))), (29, .val (.int .i64 ((kk : Nat) : Int)))] w0 a w)
    (hQ : ∀ a' w', Hold 275 [(1, .sat (oP s p0 l0)), (2, .val (.bool false)), (3, .sat (aB (s2 + 1) (Bl.bs p0 l0))), (4, .sat (aK (Bl.oks p0 l0))), (990, .sat (gP (s2 + 1) none)), (5, .val (.string (Bl.atom p0 l0).1)), (7, .val (.bool ((Bl.atom p0 l0).2.2))), (8, .val (.int .i64 (Bl.int p0 l0).1)), (10, .val (.bool ((Bl.int p0 l0).2.2))), (12, .val (.bool ((Bl.callable p0 l0).2))), (14, .val (.bool ((Bl.atomic p0 l0).2))), (15, .sat (nR (s2 + 1) none ((Bl.list p0 l0).1))), (17, .val (.bool ((Bl.list p0 l0).2.2))), (18, .val (.int .i64 (Bl.char p0 l0).1)), (20, .val (.bool ((Bl.char p0 l0).2.2))), (21, .val (.int .i64 (Bl.code p0 l0).1)), (23, .val (.bool ((Bl.code p0 l0).2.2))), (25, .val (.int .i64 (Bl.ind p0 l0).2.1)), (27, .val (.bool ((Bl.ind p0 l0).2.2.2))), (28, .val (.bool (Tm.validB p0 l0))), (29, .val (.int .i64 ((kk : Nat) : Int))), (31, .val (.bool ((Bl.formal (((Bl.bs p0 l0) kk).1) (((Bl.bs p0 l0) kk).2)).2)))] w0 a' w' → Q .normal a' w') : (Code.region 17 lChecks17Ops false).wp Try.prog Q a w := by
  refine region_seq (w0 := w) 10 (by kernel_rfl) ?_
  rw [show List.range 10 = [0, 1, 2, 3, 4, 5, 6, 7, 8, 9] from rfl]
  refine env_one (i := 0) (d := 106) (k := .val (.int .i64 ((kk : Nat) : Int))) (step_move (by kernel_rfl) (Opd.of_base 29 rfl) rfl) (by kernel_rfl) (by decide) h ?_
  clear h
  intro a w h
  refine env_one (i := 1) (d := 107) (k := .ptrT (((Bl.bs p0 l0) kk).1) (((Bl.bs p0 l0) kk).2)) (step_aidx hk8 (by kernel_rfl) (Opd.of_base 3 rfl) (Opd.of_base 106 rfl) rfl) (by kernel_rfl) (by decide) h ?_
  clear h
  intro a w h
  refine env_one (i := 2) (d := 108) (k := .term (((Bl.bs p0 l0) kk).1) (((Bl.bs p0 l0) kk).2)) (step_load_term (by kernel_rfl) (Opd.of_base 107 rfl) rfl) (by kernel_rfl) (by decide) h ?_
  clear h
  intro a w h
  refine env_one (i := 3) (d := 109) (k := .sat (nT2 (s2 + 1) none (((Bl.formal (((Bl.bs p0 l0) kk).1) (((Bl.bs p0 l0) kk).2)).1).1) (((Bl.formal (((Bl.bs p0 l0) kk).1) (((Bl.bs p0 l0) kk).2)).1).2) ((Bl.formal (((Bl.bs p0 l0) kk).1) (((Bl.bs p0 l0) kk).2)).2))) (step_bFormal (g := 990) (by kernel_rfl) (Opd.of_base 108 rfl) (Opd.of_base 990 rfl) rfl) (by kernel_rfl) (by decide) h ?_
  clear h
  intro a w h
  refine env_one (i := 4) (d := 105) (k := .sat (nT2 (s2 + 1) none (((Bl.formal (((Bl.bs p0 l0) kk).1) (((Bl.bs p0 l0) kk).2)).1).1) (((Bl.formal (((Bl.bs p0 l0) kk).1) (((Bl.bs p0 l0) kk).2)).1).2) ((Bl.formal (((Bl.bs p0 l0) kk).1) (((Bl.bs p0 l0) kk).2)).2))) (step_move (by kernel_rfl) (Opd.of_base 109 rfl) rfl) (by kernel_rfl) (by decide) h ?_
  clear h
  intro a w h
  refine env_one (i := 5) (d := 110) (k := .sat (nT (s2 + 1) none (((Bl.formal (((Bl.bs p0 l0) kk).1) (((Bl.bs p0 l0) kk).2)).1).1) (((Bl.formal (((Bl.bs p0 l0) kk).1) (((Bl.bs p0 l0) kk).2)).1).2))) (step_nT2_0 (by kernel_rfl) (Opd.of_base 105 rfl) rfl) (by kernel_rfl) (by decide) h ?_
  clear h
  intro a w h
  refine env_one (i := 6) (d := 111) (k := .val (.bool ((Bl.formal (((Bl.bs p0 l0) kk).1) (((Bl.bs p0 l0) kk).2)).2))) (step_nT2_1 (by kernel_rfl) (Opd.of_base 105 rfl) rfl) (by kernel_rfl) (by decide) h ?_
  clear h
  intro a w h
  refine env_nbox (i := 7) (d := 30) (by kernel_rfl) (by decide) (by kernel_rfl) (by decide) (s := 110) rfl rfl h ?_
  clear h
  intro a w h
  refine env_one (i := 9) (d := 31) (k := .val (.bool ((Bl.formal (((Bl.bs p0 l0) kk).1) (((Bl.bs p0 l0) kk).2)).2))) (step_assign (by kernel_rfl) (Opd.of_base 111 rfl) rfl) (by kernel_rfl) (by decide) h ?_
  clear h
  intro a w h
  exact hQ a w (h.keep [1, 2, 3, 4, 990, 5, 7, 8, 10, 12, 14, 15, 17, 18, 20, 21, 23, 25, 27, 28, 29, 31])
theorem lChecks18a_region {Q : Exit → Act → World → Prop} (p0 : Pay) (l0 : Fo) (s : Nat) (s2 : Nat) (kk : Nat) (hk8 : kk < 8) (gf : (Bl.formal ((Bl.bs p0 l0) kk).1 ((Bl.bs p0 l0) kk).2).2 = false) (g1 : Tm.validB p0 l0 = true) (g2 : (Bl.oks p0 l0) kk = true) (g3 : (Bl.bs p0 l0) kk = (zp, .nil)) {w0 : World} {a : Act} {w : World} (h : Hold 275 [(1, .sat (oP s p0 l0)), (2, .val (.bool false)), (3, .sat (aB (s2 + 1) (Bl.bs p0 l0))), (4, .sat (aK (Bl.oks p0 l0))), (990, .sat (gP (s2 + 1) none)), (5, .val (.string (Bl.atom p0 l0).1)), (7, .val (.bool ((Bl.atom p0 l0).2.2))), (8, .val (.int .i64 (Bl.int p0 l0).1)), (10, .val (.bool ((Bl.int p0 l0).2.2))), (12, .val (.bool ((Bl.callable p0 l0).2))), (14, .val (.bool ((Bl.atomic p0 l0).2))), (15, .sat (nR (s2 + 1) none ((Bl.list p0 l0).1))), (17, .val (.bool ((Bl.list p0 l0).2.2))), (18, .val (.int .i64 (Bl.char p0 l0).1)), (20, .val (.bool ((Bl.char p0 l0).2.2))), (21, .val (.int .i64 (Bl.code p0 l0).1)), (23, .val (.bool ((Bl.code p0 l0).2.2))), (25, .val (.int .i64 (Bl.ind p0 l0).2.1)), (27, .val (.bool ((Bl.ind p0 l0).2.2.2))), (28, .val (.bool (Tm.validB p0 l0))), (29, .val (.int .i64 ((kk : Nat) : Int))), (31, .val (.bool ((Bl.formal (((Bl.bs p0 l0) kk).1) (((Bl.bs p0 l0) kk).2)).2)))] w0 a w)
    (hQ : ∀ a' w', Hold 275 [(1, .sat (oP s p0 l0)), (2, .val (.bool false)), (3, .sat (aB (s2 + 1) (Bl.bs p0 l0))), (4, .sat (aK (Bl.oks p0 l0))), (990, .sat (gP (s2 + 1) none)), (5, .val (.string (Bl.atom p0 l0).1)), (7, .val (.bool ((Bl.atom p0 l0).2.2))), (8, .val (.int .i64 (Bl.int p0 l0).1)), (10, .val (.bool ((Bl.int p0 l0).2.2))), (12, .val (.bool ((Bl.callable p0 l0).2))), (14, .val (.bool ((Bl.atomic p0 l0).2))), (15, .sat (nR (s2 + 1) none ((Bl.list p0 l0).1))), (17, .val (.bool ((Bl.list p0 l0).2.2))), (18, .val (.int .i64 (Bl.char p0 l0).1)), (20, .val (.bool ((Bl.char p0 l0).2.2))), (21, .val (.int .i64 (Bl.code p0 l0).1)), (23, .val (.bool ((Bl.code p0 l0).2.2))), (25, .val (.int .i64 (Bl.ind p0 l0).2.1)), (27, .val (.bool ((Bl.ind p0 l0).2.2.2))), (28, .val (.bool (Tm.validB p0 l0))), (29, .val (.int .i64 ((kk : Nat) : Int))), (141, .val (.bool false))] w0 a' w' → Q .normal a' w') : (Code.region 18 lChecks18Ops false).wp Try.prog Q a w := by
  refine region_seq (w0 := w) 30 (by kernel_rfl) ?_
  rw [show List.range 30 = [0, 1, 2, 3, 4, 5, 6, 7, 8, 9, 10, 11, 12, 13, 14, 15, 16, 17, 18, 19, 20, 21, 22, 23, 24, 25, 26, 27, 28, 29] from rfl]
  refine env_one (i := 0) (d := 112) (k := .val (.bool false)) (step_move (by kernel_rfl) (Opd.of_base 31 rfl) (by rw [gf]; rfl)) (by kernel_rfl) (by decide) h ?_
  clear h
  intro a w h
  refine env_one (i := 1) (d := 113) (k := .val (.bool true)) (step_move (by kernel_rfl) (Opd.of_base 28 rfl) (by rw [g1]; rfl)) (by kernel_rfl) (by decide) h ?_
  clear h
  intro a w h
  refine env_one (i := 2) (d := 114) (k := .val (.bool true)) (step_move (by kernel_rfl) (Opd.of_base 113 rfl) rfl) (by kernel_rfl) (by decide) h ?_
  clear h
  intro a w h
  refine env_guard (i := 3) (d := 115) (g := 2) (dg := 114) (b := true) (k := .val (.int .i64 ((kk : Nat) : Int))) (step_move (by kernel_rfl) (Opd.of_base 29 rfl) rfl) (by kernel_rfl) (by decide) (by kernel_rfl) (by decide) rfl h ?_
  clear h
  intro a w h
  refine env_guard (i := 4) (d := 116) (g := 2) (dg := 114) (b := true) (k := .sat (ptrK ((Bl.oks p0 l0) kk))) (step_kidx hk8 (by kernel_rfl) (Opd.of_base 4 rfl) (Opd.of_base 115 rfl) rfl) (by kernel_rfl) (by decide) (by kernel_rfl) (by decide) rfl h ?_
  clear h
  intro a w h
  refine env_guard (i := 5) (d := 117) (g := 2) (dg := 114) (b := true) (k := .val (.bool true)) (step_kload (by kernel_rfl) (Opd.of_base 116 rfl) (by rw [g2]; rfl)) (by kernel_rfl) (by decide) (by kernel_rfl) (by decide) rfl h ?_
  clear h
  intro a w h
  refine env_guard (i := 6) (d := 118) (g := 2) (dg := 114) (b := true) (k := .val (.bool false)) (step_not (by kernel_rfl) (Opd.of_base 117 rfl) rfl) (by kernel_rfl) (by decide) (by kernel_rfl) (by decide) rfl h ?_
  clear h
  intro a w h
  refine env_one (i := 7) (d := 119) (k := .val (.bool false)) (step_pick_yes (y := .const (.bool false)) (by kernel_rfl) (Opd.of_base 114 rfl) (Opd.of_base 118 rfl) rfl) (by kernel_rfl) (by decide) h ?_
  clear h
  intro a w h
  refine env_one (i := 8) (d := 120) (k := .val (.bool false)) (step_ne_bool (by kernel_rfl) (Opd.of_base 112 rfl) (Opd.of_base 119 rfl) (by simp) rfl) (by kernel_rfl) (by decide) h ?_
  clear h
  intro a w h
  refine env_one (i := 9) (d := 121) (k := .val (.bool false)) (step_move (by kernel_rfl) (Opd.of_base 120 rfl) rfl) (by kernel_rfl) (by decide) h ?_
  clear h
  intro a w h
  refine env_guard (i := 10) (d := 122) (g := 9) (dg := 121) (b := false) (k := .val (.bool false)) (step_move (by kernel_rfl) (Opd.of_base 31 rfl) (by rw [gf]; rfl)) (by kernel_rfl) (by decide) (by kernel_rfl) (by decide) rfl h ?_
  clear h
  intro a w h
  refine env_guard (i := 11) (d := 123) (g := 9) (dg := 121) (b := false) (k := .val (.bool true)) (step_not (by kernel_rfl) (Opd.of_base 122 rfl) rfl) (by kernel_rfl) (by decide) (by kernel_rfl) (by decide) rfl h ?_
  clear h
  intro a w h
  refine env_guard (i := 12) (d := 124) (g := 9) (dg := 121) (b := false) (k := .val (.bool true)) (step_move (by kernel_rfl) (Opd.of_base 123 rfl) rfl) (by kernel_rfl) (by decide) (by kernel_rfl) (by decide) rfl h ?_
  clear h
  intro a w h
  refine env_guard (i := 13) (d := 125) (g := 12) (dg := 124) (b := true) (k := .val (.int .i64 ((kk : Nat) : Int))) (step_move (by kernel_rfl) (Opd.of_base 29 rfl) rfl) (by kernel_rfl) (by decide) (by kernel_rfl) (by decide) rfl h ?_
  clear h
  intro a w h
  refine env_guard (i := 14) (d := 126) (g := 12) (dg := 124) (b := true) (k := .ptrT (((Bl.bs p0 l0) kk).1) (((Bl.bs p0 l0) kk).2)) (step_aidx hk8 (by kernel_rfl) (Opd.of_base 3 rfl) (Opd.of_base 125 rfl) rfl) (by kernel_rfl) (by decide) (by kernel_rfl) (by decide) rfl h ?_
  clear h
  intro a w h
  refine env_guard (i := 15) (d := 127) (g := 12) (dg := 124) (b := true) (k := .term (((Bl.bs p0 l0) kk).1) (((Bl.bs p0 l0) kk).2)) (step_load_term (by kernel_rfl) (Opd.of_base 126 rfl) rfl) (by kernel_rfl) (by decide) (by kernel_rfl) (by decide) rfl h ?_
  clear h
  intro a w h
  refine env_guard (i := 16) (d := 128) (g := 12) (dg := 124) (b := true) (k := .sat (nT (s2 + 1) none zp .nil)) (step_nzero (by kernel_rfl) rfl) (by kernel_rfl) (by decide) (by kernel_rfl) (by decide) rfl h ?_
  clear h
  intro a w h
  refine env_guard (i := 17) (d := 129) (g := 12) (dg := 124) (b := true) (k := .val (.bool true)) (step_lsame (by kernel_rfl) (Opd.of_base 127 rfl) (Opd.ofT (Opd.of_base 128 rfl)) (congrArg (fun b => Kd.val (.bool b)) (Eq.symm (Bl.same_of g3 (by rw [g3]; exact Bl.zt_valid))))) (by kernel_rfl) (by decide) (by kernel_rfl) (by decide) rfl h ?_
  clear h
  intro a w h
  refine env_guard (i := 18) (d := 130) (g := 12) (dg := 124) (b := true) (k := .val (.bool false)) (step_not (by kernel_rfl) (Opd.of_base 129 rfl) rfl) (by kernel_rfl) (by decide) (by kernel_rfl) (by decide) rfl h ?_
  clear h
  intro a w h
  refine env_guard (i := 19) (d := 131) (g := 9) (dg := 121) (b := false) (k := .val (.bool false)) (step_pick_yes (y := .const (.bool false)) (by kernel_rfl) (Opd.of_base 124 rfl) (Opd.of_base 130 rfl) rfl) (by kernel_rfl) (by decide) (by kernel_rfl) (by decide) rfl h ?_
  clear h
  intro a w h
  refine env_one (i := 20) (d := 132) (k := .val (.bool false)) (step_pick_no (x := .const (.bool true)) (by kernel_rfl) (Opd.of_base 121 rfl) (Opd.of_base 131 rfl) rfl) (by kernel_rfl) (by decide) h ?_
  clear h
  intro a w h
  refine env_one (i := 21) (d := 133) (k := .val (.bool false)) (step_move (by kernel_rfl) (Opd.of_base 132 rfl) rfl) (by kernel_rfl) (by decide) h ?_
  clear h
  intro a w h
  refine env_guard (i := 22) (d := 134) (g := 21) (dg := 133) (b := false) (k := .val (.bool true)) (step_move (by kernel_rfl) (Opd.of_base 28 rfl) (by rw [g1]; rfl)) (by kernel_rfl) (by decide) (by kernel_rfl) (by decide) rfl h ?_
  clear h
  intro a w h
  refine env_guard (i := 23) (d := 135) (g := 21) (dg := 133) (b := false) (k := .val (.bool false)) (step_not (by kernel_rfl) (Opd.of_base 134 rfl) rfl) (by kernel_rfl) (by decide) (by kernel_rfl) (by decide) rfl h ?_
  clear h
  intro a w h
  refine env_guard (i := 24) (d := 136) (g := 21) (dg := 133) (b := false) (k := .val (.bool false)) (step_move (by kernel_rfl) (Opd.of_base 135 rfl) rfl) (by kernel_rfl) (by decide) (by kernel_rfl) (by decide) rfl h ?_
  clear h
  intro a w h
  refine env_skip (i := 25) (d := 137) (g := 24) (dg := 136) (b := true) (by kernel_rfl) (by decide) (by kernel_rfl) rfl rfl h ?_
  clear h
  intro a w h
  refine env_skip (i := 26) (d := 138) (g := 24) (dg := 136) (b := true) (by kernel_rfl) (by decide) (by kernel_rfl) rfl rfl h ?_
  clear h
  intro a w h
  refine env_skip (i := 27) (d := 139) (g := 24) (dg := 136) (b := true) (by kernel_rfl) (by decide) (by kernel_rfl) rfl rfl h ?_
  clear h
  intro a w h
  refine env_guard (i := 28) (d := 140) (g := 21) (dg := 133) (b := false) (k := .val (.bool false)) (step_pick_no (x := .tmp 139) (by kernel_rfl) (Opd.of_base 136 rfl) (Opd.const _) rfl) (by kernel_rfl) (by decide) (by kernel_rfl) (by decide) rfl h ?_
  clear h
  intro a w h
  refine env_one (i := 29) (d := 141) (k := .val (.bool false)) (step_pick_no (x := .const (.bool true)) (by kernel_rfl) (Opd.of_base 133 rfl) (Opd.of_base 140 rfl) rfl) (by kernel_rfl) (by decide) h ?_
  clear h
  intro a w h
  exact hQ a w (h.keep [1, 2, 3, 4, 990, 5, 7, 8, 10, 12, 14, 15, 17, 18, 20, 21, 23, 25, 27, 28, 29, 141])
theorem lChecks16a_region {Q : Exit → Act → World → Prop} (p0 : Pay) (l0 : Fo) (s : Nat) (s2 : Nat) (kk : Nat) (hk8 : kk < 8) {w0 : World} {a : Act} {w : World} (h : Hold 275 [(1, .sat (oP s p0 l0)), (2, .val (.bool false)), (3, .sat (aB (s2 + 1) (Bl.bs p0 l0))), (4, .sat (aK (Bl.oks p0 l0))), (990, .sat (gP (s2 + 1) none)), (5, .val (.string (Bl.atom p0 l0).1)), (7, .val (.bool ((Bl.atom p0 l0).2.2))), (8, .val (.int .i64 (Bl.int p0 l0).1)), (10, .val (.bool ((Bl.int p0 l0).2.2))), (12, .val (.bool ((Bl.callable p0 l0).2))), (14, .val (.bool ((Bl.atomic p0 l0).2))), (15, .sat (nR (s2 + 1) none ((Bl.list p0 l0).1))), (17, .val (.bool ((Bl.list p0 l0).2.2))), (18, .val (.int .i64 (Bl.char p0 l0).1)), (20, .val (.bool ((Bl.char p0 l0).2.2))), (21, .val (.int .i64 (Bl.code p0 l0).1)), (23, .val (.bool ((Bl.code p0 l0).2.2))), (25, .val (.int .i64 (Bl.ind p0 l0).2.1)), (27, .val (.bool ((Bl.ind p0 l0).2.2.2))), (28, .val (.bool (Tm.validB p0 l0))), (29, .val (.int .i64 ((kk : Nat) : Int)))] w0 a w)
    (hQ : ∀ a' w', Hold 275 [(1, .sat (oP s p0 l0)), (2, .val (.bool false)), (3, .sat (aB (s2 + 1) (Bl.bs p0 l0))), (4, .sat (aK (Bl.oks p0 l0))), (990, .sat (gP (s2 + 1) none)), (5, .val (.string (Bl.atom p0 l0).1)), (7, .val (.bool ((Bl.atom p0 l0).2.2))), (8, .val (.int .i64 (Bl.int p0 l0).1)), (10, .val (.bool ((Bl.int p0 l0).2.2))), (12, .val (.bool ((Bl.callable p0 l0).2))), (14, .val (.bool ((Bl.atomic p0 l0).2))), (15, .sat (nR (s2 + 1) none ((Bl.list p0 l0).1))), (17, .val (.bool ((Bl.list p0 l0).2.2))), (18, .val (.int .i64 (Bl.char p0 l0).1)), (20, .val (.bool ((Bl.char p0 l0).2.2))), (21, .val (.int .i64 (Bl.code p0 l0).1)), (23, .val (.bool ((Bl.code p0 l0).2.2))), (25, .val (.int .i64 (Bl.ind p0 l0).2.1)), (27, .val (.bool ((Bl.ind p0 l0).2.2.2))), (28, .val (.bool (Tm.validB p0 l0))), (29, .val (.int .i64 ((kk + 1 : Nat) : Int)))] w0 a' w' → Q .normal a' w') : (Code.region 16 lChecks16Ops false).wp Try.prog Q a w := by
  refine region_seq (w0 := w) 3 (by kernel_rfl) ?_
  rw [show List.range 3 = [0, 1, 2] from rfl]
  refine env_one (i := 0) (d := 103) (k := .val (.int .i64 ((kk : Nat) : Int))) (step_move (by kernel_rfl) (Opd.of_base 29 rfl) rfl) (by kernel_rfl) (by decide) h ?_
  clear h
  intro a w h
  refine env_one (i := 1) (d := 104) (k := .val (.int .i64 ((kk + 1 : Nat) : Int))) (step_add (m := ((kk : Nat) : Int)) (n := 1) (s := ((kk + 1 : Nat) : Int)) (by kernel_rfl) (Opd.of_base 103 rfl) (Opd.const _) (by rw [IntKind.wrap_i64]; omega) rfl) (by kernel_rfl) (by decide) h ?_
  clear h
  intro a w h
  refine env_one (i := 2) (d := 29) (k := .val (.int .i64 ((kk + 1 : Nat) : Int))) (step_assign (by kernel_rfl) (Opd.of_base 104 rfl) rfl) (by kernel_rfl) (by decide) h ?_
  clear h
  intro a w h
  exact hQ a w (h.keep [1, 2, 3, 4, 990, 5, 7, 8, 10, 12, 14, 15, 17, 18, 20, 21, 23, 25, 27, 28, 29])
theorem lChecks18b_region {Q : Exit → Act → World → Prop} (p0 : Pay) (l0 : Fo) (s : Nat) (s2 : Nat) (kk : Nat) (hk8 : kk < 8) (gf : (Bl.formal ((Bl.bs p0 l0) kk).1 ((Bl.bs p0 l0) kk).2).2 = true) (g1 : Tm.validB p0 l0 = true) (g2 : (Bl.oks p0 l0) kk = false) {w0 : World} {a : Act} {w : World} (h : Hold 275 [(1, .sat (oP s p0 l0)), (2, .val (.bool false)), (3, .sat (aB (s2 + 1) (Bl.bs p0 l0))), (4, .sat (aK (Bl.oks p0 l0))), (990, .sat (gP (s2 + 1) none)), (5, .val (.string (Bl.atom p0 l0).1)), (7, .val (.bool ((Bl.atom p0 l0).2.2))), (8, .val (.int .i64 (Bl.int p0 l0).1)), (10, .val (.bool ((Bl.int p0 l0).2.2))), (12, .val (.bool ((Bl.callable p0 l0).2))), (14, .val (.bool ((Bl.atomic p0 l0).2))), (15, .sat (nR (s2 + 1) none ((Bl.list p0 l0).1))), (17, .val (.bool ((Bl.list p0 l0).2.2))), (18, .val (.int .i64 (Bl.char p0 l0).1)), (20, .val (.bool ((Bl.char p0 l0).2.2))), (21, .val (.int .i64 (Bl.code p0 l0).1)), (23, .val (.bool ((Bl.code p0 l0).2.2))), (25, .val (.int .i64 (Bl.ind p0 l0).2.1)), (27, .val (.bool ((Bl.ind p0 l0).2.2.2))), (28, .val (.bool (Tm.validB p0 l0))), (29, .val (.int .i64 ((kk : Nat) : Int))), (31, .val (.bool ((Bl.formal (((Bl.bs p0 l0) kk).1) (((Bl.bs p0 l0) kk).2)).2)))] w0 a w)
    (hQ : ∀ a' w', Hold 275 [(1, .sat (oP s p0 l0)), (2, .val (.bool false)), (3, .sat (aB (s2 + 1) (Bl.bs p0 l0))), (4, .sat (aK (Bl.oks p0 l0))), (990, .sat (gP (s2 + 1) none)), (5, .val (.string (Bl.atom p0 l0).1)), (7, .val (.bool ((Bl.atom p0 l0).2.2))), (8, .val (.int .i64 (Bl.int p0 l0).1)), (10, .val (.bool ((Bl.int p0 l0).2.2))), (12, .val (.bool ((Bl.callable p0 l0).2))), (14, .val (.bool ((Bl.atomic p0 l0).2))), (15, .sat (nR (s2 + 1) none ((Bl.list p0 l0).1))), (17, .val (.bool ((Bl.list p0 l0).2.2))), (18, .val (.int .i64 (Bl.char p0 l0).1)), (20, .val (.bool ((Bl.char p0 l0).2.2))), (21, .val (.int .i64 (Bl.code p0 l0).1)), (23, .val (.bool ((Bl.code p0 l0).2.2))), (25, .val (.int .i64 (Bl.ind p0 l0).2.1)), (27, .val (.bool ((Bl.ind p0 l0).2.2.2))), (28, .val (.bool (Tm.validB p0 l0))), (29, .val (.int .i64 ((kk : Nat) : Int))), (141, .val (.bool false))] w0 a' w' → Q .normal a' w') : (Code.region 18 lChecks18Ops false).wp Try.prog Q a w := by
  refine region_seq (w0 := w) 30 (by kernel_rfl) ?_
  rw [show List.range 30 = [0, 1, 2, 3, 4, 5, 6, 7, 8, 9, 10, 11, 12, 13, 14, 15, 16, 17, 18, 19, 20, 21, 22, 23, 24, 25, 26, 27, 28, 29] from rfl]
  refine env_one (i := 0) (d := 112) (k := .val (.bool true)) (step_move (by kernel_rfl) (Opd.of_base 31 rfl) (by rw [gf]; rfl)) (by kernel_rfl) (by decide) h ?_
  clear h
  intro a w h
  refine env_one (i := 1) (d := 113) (k := .val (.bool true)) (step_move (by kernel_rfl) (Opd.of_base 28 rfl) (by rw [g1]; rfl)) (by kernel_rfl) (by decide) h ?_
  clear h
  intro a w h
  refine env_one (i := 2) (d := 114) (k := .val (.bool true)) (step_move (by kernel_rfl) (Opd.of_base 113 rfl) rfl) (by kernel_rfl) (by decide) h ?_
  clear h
  intro a w h
  refine env_guard (i := 3) (d := 115) (g := 2) (dg := 114) (b := true) (k := .val (.int .i64 ((kk : Nat) : Int))) (step_move (by kernel_rfl) (Opd.of_base 29 rfl) rfl) (by kernel_rfl) (by decide) (by kernel_rfl) (by decide) rfl h ?_
  clear h
  intro a w h
  refine env_guard (i := 4) (d := 116) (g := 2) (dg := 114) (b := true) (k := .sat (ptrK ((Bl.oks p0 l0) kk))) (step_kidx hk8 (by kernel_rfl) (Opd.of_base 4 rfl) (Opd.of_base 115 rfl) rfl) (by kernel_rfl) (by decide) (by kernel_rfl) (by decide) rfl h ?_
  clear h
  intro a w h
  refine env_guard (i := 5) (d := 117) (g := 2) (dg := 114) (b := true) (k := .val (.bool false)) (step_kload (by kernel_rfl) (Opd.of_base 116 rfl) (by rw [g2]; rfl)) (by kernel_rfl) (by decide) (by kernel_rfl) (by decide) rfl h ?_
  clear h
  intro a w h
  refine env_guard (i := 6) (d := 118) (g := 2) (dg := 114) (b := true) (k := .val (.bool true)) (step_not (by kernel_rfl) (Opd.of_base 117 rfl) rfl) (by kernel_rfl) (by decide) (by kernel_rfl) (by decide) rfl h ?_
  clear h
  intro a w h
  refine env_one (i := 7) (d := 119) (k := .val (.bool true)) (step_pick_yes (y := .const (.bool false)) (by kernel_rfl) (Opd.of_base 114 rfl) (Opd.of_base 118 rfl) rfl) (by kernel_rfl) (by decide) h ?_
  clear h
  intro a w h
  refine env_one (i := 8) (d := 120) (k := .val (.bool false)) (step_ne_bool (by kernel_rfl) (Opd.of_base 112 rfl) (Opd.of_base 119 rfl) (by simp) rfl) (by kernel_rfl) (by decide) h ?_
  clear h
  intro a w h
  refine env_one (i := 9) (d := 121) (k := .val (.bool false)) (step_move (by kernel_rfl) (Opd.of_base 120 rfl) rfl) (by kernel_rfl) (by decide) h ?_
  clear h
  intro a w h
  refine env_guard (i := 10) (d := 122) (g := 9) (dg := 121) (b := false) (k := .val (.bool true)) (step_move (by kernel_rfl) (Opd.of_base 31 rfl) (by rw [gf]; rfl)) (by kernel_rfl) (by decide) (by kernel_rfl) (by decide) rfl h ?_
  clear h
  intro a w h
  refine env_guard (i := 11) (d := 123) (g := 9) (dg := 121) (b := false) (k := .val (.bool false)) (step_not (by kernel_rfl) (Opd.of_base 122 rfl) rfl) (by kernel_rfl) (by decide) (by kernel_rfl) (by decide) rfl h ?_
  clear h
  intro a w h
  refine env_guard (i := 12) (d := 124) (g := 9) (dg := 121) (b := false) (k := .val (.bool false)) (step_move (by kernel_rfl) (Opd.of_base 123 rfl) rfl) (by kernel_rfl) (by decide) (by kernel_rfl) (by decide) rfl h ?_
  clear h
  intro a w h
  refine env_skip (i := 13) (d := 125) (g := 12) (dg := 124) (b := true) (by kernel_rfl) (by decide) (by kernel_rfl) rfl rfl h ?_
  clear h
  intro a w h
  refine env_skip (i := 14) (d := 126) (g := 12) (dg := 124) (b := true) (by kernel_rfl) (by decide) (by kernel_rfl) rfl rfl h ?_
  clear h
  intro a w h
  refine env_skip (i := 15) (d := 127) (g := 12) (dg := 124) (b := true) (by kernel_rfl) (by decide) (by kernel_rfl) rfl rfl h ?_
  clear h
  intro a w h
  refine env_skip (i := 16) (d := 128) (g := 12) (dg := 124) (b := true) (by kernel_rfl) (by decide) (by kernel_rfl) rfl rfl h ?_
  clear h
  intro a w h
  refine env_skip (i := 17) (d := 129) (g := 12) (dg := 124) (b := true) (by kernel_rfl) (by decide) (by kernel_rfl) rfl rfl h ?_
  clear h
  intro a w h
  refine env_skip (i := 18) (d := 130) (g := 12) (dg := 124) (b := true) (by kernel_rfl) (by decide) (by kernel_rfl) rfl rfl h ?_
  clear h
  intro a w h
  refine env_guard (i := 19) (d := 131) (g := 9) (dg := 121) (b := false) (k := .val (.bool false)) (step_pick_no (x := .tmp 130) (by kernel_rfl) (Opd.of_base 124 rfl) (Opd.const _) rfl) (by kernel_rfl) (by decide) (by kernel_rfl) (by decide) rfl h ?_
  clear h
  intro a w h
  refine env_one (i := 20) (d := 132) (k := .val (.bool false)) (step_pick_no (x := .const (.bool true)) (by kernel_rfl) (Opd.of_base 121 rfl) (Opd.of_base 131 rfl) rfl) (by kernel_rfl) (by decide) h ?_
  clear h
  intro a w h
  refine env_one (i := 21) (d := 133) (k := .val (.bool false)) (step_move (by kernel_rfl) (Opd.of_base 132 rfl) rfl) (by kernel_rfl) (by decide) h ?_
  clear h
  intro a w h
  refine env_guard (i := 22) (d := 134) (g := 21) (dg := 133) (b := false) (k := .val (.bool true)) (step_move (by kernel_rfl) (Opd.of_base 28 rfl) (by rw [g1]; rfl)) (by kernel_rfl) (by decide) (by kernel_rfl) (by decide) rfl h ?_
  clear h
  intro a w h
  refine env_guard (i := 23) (d := 135) (g := 21) (dg := 133) (b := false) (k := .val (.bool false)) (step_not (by kernel_rfl) (Opd.of_base 134 rfl) rfl) (by kernel_rfl) (by decide) (by kernel_rfl) (by decide) rfl h ?_
  clear h
  intro a w h
  refine env_guard (i := 24) (d := 136) (g := 21) (dg := 133) (b := false) (k := .val (.bool false)) (step_move (by kernel_rfl) (Opd.of_base 135 rfl) rfl) (by kernel_rfl) (by decide) (by kernel_rfl) (by decide) rfl h ?_
  clear h
  intro a w h
  refine env_skip (i := 25) (d := 137) (g := 24) (dg := 136) (b := true) (by kernel_rfl) (by decide) (by kernel_rfl) rfl rfl h ?_
  clear h
  intro a w h
  refine env_skip (i := 26) (d := 138) (g := 24) (dg := 136) (b := true) (by kernel_rfl) (by decide) (by kernel_rfl) rfl rfl h ?_
  clear h
  intro a w h
  refine env_skip (i := 27) (d := 139) (g := 24) (dg := 136) (b := true) (by kernel_rfl) (by decide) (by kernel_rfl) rfl rfl h ?_
  clear h
  intro a w h
  refine env_guard (i := 28) (d := 140) (g := 21) (dg := 133) (b := false) (k := .val (.bool false)) (step_pick_no (x := .tmp 139) (by kernel_rfl) (Opd.of_base 136 rfl) (Opd.const _) rfl) (by kernel_rfl) (by decide) (by kernel_rfl) (by decide) rfl h ?_
  clear h
  intro a w h
  refine env_one (i := 29) (d := 141) (k := .val (.bool false)) (step_pick_no (x := .const (.bool true)) (by kernel_rfl) (Opd.of_base 133 rfl) (Opd.of_base 140 rfl) rfl) (by kernel_rfl) (by decide) h ?_
  clear h
  intro a w h
  exact hQ a w (h.keep [1, 2, 3, 4, 990, 5, 7, 8, 10, 12, 14, 15, 17, 18, 20, 21, 23, 25, 27, 28, 29, 141])
theorem lChecks18c_region {Q : Exit → Act → World → Prop} (p0 : Pay) (l0 : Fo) (s : Nat) (s2 : Nat) (kk : Nat) (hk8 : kk < 8) (gf : (Bl.formal ((Bl.bs p0 l0) kk).1 ((Bl.bs p0 l0) kk).2).2 = false) (g1 : Tm.validB p0 l0 = false) (g2 : (Bl.oks p0 l0) kk = false) (g3 : (Bl.bs p0 l0) kk = (zp, .nil)) {w0 : World} {a : Act} {w : World} (h : Hold 275 [(1, .sat (oP s p0 l0)), (2, .val (.bool false)), (3, .sat (aB (s2 + 1) (Bl.bs p0 l0))), (4, .sat (aK (Bl.oks p0 l0))), (990, .sat (gP (s2 + 1) none)), (5, .val (.string (Bl.atom p0 l0).1)), (7, .val (.bool ((Bl.atom p0 l0).2.2))), (8, .val (.int .i64 (Bl.int p0 l0).1)), (10, .val (.bool ((Bl.int p0 l0).2.2))), (12, .val (.bool ((Bl.callable p0 l0).2))), (14, .val (.bool ((Bl.atomic p0 l0).2))), (15, .sat (nR (s2 + 1) none ((Bl.list p0 l0).1))), (17, .val (.bool ((Bl.list p0 l0).2.2))), (18, .val (.int .i64 (Bl.char p0 l0).1)), (20, .val (.bool ((Bl.char p0 l0).2.2))), (21, .val (.int .i64 (Bl.code p0 l0).1)), (23, .val (.bool ((Bl.code p0 l0).2.2))), (25, .val (.int .i64 (Bl.ind p0 l0).2.1)), (27, .val (.bool ((Bl.ind p0 l0).2.2.2))), (28, .val (.bool (Tm.validB p0 l0))), (29, .val (.int .i64 ((kk : Nat) : Int))), (31, .val (.bool ((Bl.formal (((Bl.bs p0 l0) kk).1) (((Bl.bs p0 l0) kk).2)).2)))] w0 a w)
    (hQ : ∀ a' w', Hold 275 [(1, .sat (oP s p0 l0)), (2, .val (.bool false)), (3, .sat (aB (s2 + 1) (Bl.bs p0 l0))), (4, .sat (aK (Bl.oks p0 l0))), (990, .sat (gP (s2 + 1) none)), (5, .val (.string (Bl.atom p0 l0).1)), (7, .val (.bool ((Bl.atom p0 l0).2.2))), (8, .val (.int .i64 (Bl.int p0 l0).1)), (10, .val (.bool ((Bl.int p0 l0).2.2))), (12, .val (.bool ((Bl.callable p0 l0).2))), (14, .val (.bool ((Bl.atomic p0 l0).2))), (15, .sat (nR (s2 + 1) none ((Bl.list p0 l0).1))), (17, .val (.bool ((Bl.list p0 l0).2.2))), (18, .val (.int .i64 (Bl.char p0 l0).1)), (20, .val (.bool ((Bl.char p0 l0).2.2))), (21, .val (.int .i64 (Bl.code p0 l0).1)), (23, .val (.bool ((Bl.code p0 l0).2.2))), (25, .val (.int .i64 (Bl.ind p0 l0).2.1)), (27, .val (.bool ((Bl.ind p0 l0).2.2.2))), (28, .val (.bool (Tm.validB p0 l0))), (29, .val (.int .i64 ((kk : Nat) : Int))), (141, .val (.bool false))] w0 a' w' → Q .normal a' w') : (Code.region 18 lChecks18Ops false).wp Try.prog Q a w := by
  refine region_seq (w0 := w) 30 (by kernel_rfl) ?_
  rw [show List.range 30 = [0, 1, 2, 3, 4, 5, 6, 7, 8, 9, 10, 11, 12, 13, 14, 15, 16, 17, 18, 19, 20, 21, 22, 23, 24, 25, 26, 27, 28, 29] from rfl]
  refine env_one (i := 0) (d := 112) (k := .val (.bool false)) (step_move (by kernel_rfl) (Opd.of_base 31 rfl) (by rw [gf]; rfl)) (by kernel_rfl) (by decide) h ?_
  clear h
  intro a w h
  refine env_one (i := 1) (d := 113) (k := .val (.bool false)) (step_move (by kernel_rfl) (Opd.of_base 28 rfl) (by rw [g1]; rfl)) (by kernel_rfl) (by decide) h ?_
  clear h
  intro a w h
  refine env_one (i := 2) (d := 114) (k := .val (.bool false)) (step_move (by kernel_rfl) (Opd.of_base 113 rfl) rfl) (by kernel_rfl) (by decide) h ?_
  clear h
  intro a w h
  refine env_skip (i := 3) (d := 115) (g := 2) (dg := 114) (b := true) (by kernel_rfl) (by decide) (by kernel_rfl) rfl rfl h ?_
  clear h
  intro a w h
  refine env_skip (i := 4) (d := 116) (g := 2) (dg := 114) (b := true) (by kernel_rfl) (by decide) (by kernel_rfl) rfl rfl h ?_
  clear h
  intro a w h
  refine env_skip (i := 5) (d := 117) (g := 2) (dg := 114) (b := true) (by kernel_rfl) (by decide) (by kernel_rfl) rfl rfl h ?_
  clear h
  intro a w h
  refine env_skip (i := 6) (d := 118) (g := 2) (dg := 114) (b := true) (by kernel_rfl) (by decide) (by kernel_rfl) rfl rfl h ?_
  clear h
  intro a w h
  refine env_one (i := 7) (d := 119) (k := .val (.bool false)) (step_pick_no (x := .tmp 118) (by kernel_rfl) (Opd.of_base 114 rfl) (Opd.const _) rfl) (by kernel_rfl) (by decide) h ?_
  clear h
  intro a w h
  refine env_one (i := 8) (d := 120) (k := .val (.bool false)) (step_ne_bool (by kernel_rfl) (Opd.of_base 112 rfl) (Opd.of_base 119 rfl) (by simp) rfl) (by kernel_rfl) (by decide) h ?_
  clear h
  intro a w h
  refine env_one (i := 9) (d := 121) (k := .val (.bool false)) (step_move (by kernel_rfl) (Opd.of_base 120 rfl) rfl) (by kernel_rfl) (by decide) h ?_
  clear h
  intro a w h
  refine env_guard (i := 10) (d := 122) (g := 9) (dg := 121) (b := false) (k := .val (.bool false)) (step_move (by kernel_rfl) (Opd.of_base 31 rfl) (by rw [gf]; rfl)) (by kernel_rfl) (by decide) (by kernel_rfl) (by decide) rfl h ?_
  clear h
  intro a w h
  refine env_guard (i := 11) (d := 123) (g := 9) (dg := 121) (b := false) (k := .val (.bool true)) (step_not (by kernel_rfl) (Opd.of_base 122 rfl) rfl) (by kernel_rfl) (by decide) (by kernel_rfl) (by decide) rfl h ?_
  clear h
  intro a w h
  refine env_guard (i := 12) (d := 124) (g := 9) (dg := 121) (b := false) (k := .val (.bool true)) (step_move (by kernel_rfl) (Opd.of_base 123 rfl) rfl) (by kernel_rfl) (by decide) (by kernel_rfl) (by decide) rfl h ?_
  clear h
  intro a w h
  refine env_guard (i := 13) (d := 125) (g := 12) (dg := 124) (b := true) (k := .val (.int .i64 ((kk : Nat) : Int))) (step_move (by kernel_rfl) (Opd.of_base 29 rfl) rfl) (by kernel_rfl) (by decide) (by kernel_rfl) (by decide) rfl h ?_
  clear h
  intro a w h
  refine env_guard (i := 14) (d := 126) (g := 12) (dg := 124) (b := true) (k := .ptrT (((Bl.bs p0 l0) kk).1) (((Bl.bs p0 l0) kk).2)) (step_aidx hk8 (by kernel_rfl) (Opd.of_base 3 rfl) (Opd.of_base 125 rfl) rfl) (by kernel_rfl) (by decide) (by kernel_rfl) (by decide) rfl h ?_
  clear h
  intro a w h
  refine env_guard (i := 15) (d := 127) (g := 12) (dg := 124) (b := true) (k := .term (((Bl.bs p0 l0) kk).1) (((Bl.bs p0 l0) kk).2)) (step_load_term (by kernel_rfl) (Opd.of_base 126 rfl) rfl) (by kernel_rfl) (by decide) (by kernel_rfl) (by decide) rfl h ?_
  clear h
  intro a w h
  refine env_guard (i := 16) (d := 128) (g := 12) (dg := 124) (b := true) (k := .sat (nT (s2 + 1) none zp .nil)) (step_nzero (by kernel_rfl) rfl) (by kernel_rfl) (by decide) (by kernel_rfl) (by decide) rfl h ?_
  clear h
  intro a w h
  refine env_guard (i := 17) (d := 129) (g := 12) (dg := 124) (b := true) (k := .val (.bool true)) (step_lsame (by kernel_rfl) (Opd.of_base 127 rfl) (Opd.ofT (Opd.of_base 128 rfl)) (congrArg (fun b => Kd.val (.bool b)) (Eq.symm (Bl.same_of g3 (by rw [g3]; exact Bl.zt_valid))))) (by kernel_rfl) (by decide) (by kernel_rfl) (by decide) rfl h ?_
  clear h
  intro a w h
  refine env_guard (i := 18) (d := 130) (g := 12) (dg := 124) (b := true) (k := .val (.bool false)) (step_not (by kernel_rfl) (Opd.of_base 129 rfl) rfl) (by kernel_rfl) (by decide) (by kernel_rfl) (by decide) rfl h ?_
  clear h
  intro a w h
  refine env_guard (i := 19) (d := 131) (g := 9) (dg := 121) (b := false) (k := .val (.bool false)) (step_pick_yes (y := .const (.bool false)) (by kernel_rfl) (Opd.of_base 124 rfl) (Opd.of_base 130 rfl) rfl) (by kernel_rfl) (by decide) (by kernel_rfl) (by decide) rfl h ?_
  clear h
  intro a w h
  refine env_one (i := 20) (d := 132) (k := .val (.bool false)) (step_pick_no (x := .const (.bool true)) (by kernel_rfl) (Opd.of_base 121 rfl) (Opd.of_base 131 rfl) rfl) (by kernel_rfl) (by decide) h ?_
  clear h
  intro a w h
  refine env_one (i := 21) (d := 133) (k := .val (.bool false)) (step_move (by kernel_rfl) (Opd.of_base 132 rfl) rfl) (by kernel_rfl) (by decide) h ?_
  clear h
  intro a w h
  refine env_guard (i := 22) (d := 134) (g := 21) (dg := 133) (b := false) (k := .val (.bool false)) (step_move (by kernel_rfl) (Opd.of_base 28 rfl) (by rw [g1]; rfl)) (by kernel_rfl) (by decide) (by kernel_rfl) (by decide) rfl h ?_
  clear h
  intro a w h
  refine env_guard (i := 23) (d := 135) (g := 21) (dg := 133) (b := false) (k := .val (.bool true)) (step_not (by kernel_rfl) (Opd.of_base 134 rfl) rfl) (by kernel_rfl) (by decide) (by kernel_rfl) (by decide) rfl h ?_
  clear h
  intro a w h
  refine env_guard (i := 24) (d := 136) (g := 21) (dg := 133) (b := false) (k := .val (.bool true)) (step_move (by kernel_rfl) (Opd.of_base 135 rfl) rfl) (by kernel_rfl) (by decide) (by kernel_rfl) (by decide) rfl h ?_
  clear h
  intro a w h
  refine env_guard (i := 25) (d := 137) (g := 24) (dg := 136) (b := true) (k := .val (.int .i64 ((kk : Nat) : Int))) (step_move (by kernel_rfl) (Opd.of_base 29 rfl) rfl) (by kernel_rfl) (by decide) (by kernel_rfl) (by decide) rfl h ?_
  clear h
  intro a w h
  refine env_guard (i := 26) (d := 138) (g := 24) (dg := 136) (b := true) (k := .sat (ptrK ((Bl.oks p0 l0) kk))) (step_kidx hk8 (by kernel_rfl) (Opd.of_base 4 rfl) (Opd.of_base 137 rfl) rfl) (by kernel_rfl) (by decide) (by kernel_rfl) (by decide) rfl h ?_
  clear h
  intro a w h
  refine env_guard (i := 27) (d := 139) (g := 24) (dg := 136) (b := true) (k := .val (.bool false)) (step_kload (by kernel_rfl) (Opd.of_base 138 rfl) (by rw [g2]; rfl)) (by kernel_rfl) (by decide) (by kernel_rfl) (by decide) rfl h ?_
  clear h
  intro a w h
  refine env_guard (i := 28) (d := 140) (g := 21) (dg := 133) (b := false) (k := .val (.bool false)) (step_pick_yes (y := .const (.bool false)) (by kernel_rfl) (Opd.of_base 136 rfl) (Opd.of_base 139 rfl) rfl) (by kernel_rfl) (by decide) (by kernel_rfl) (by decide) rfl h ?_
  clear h
  intro a w h
  refine env_one (i := 29) (d := 141) (k := .val (.bool false)) (step_pick_no (x := .const (.bool true)) (by kernel_rfl) (Opd.of_base 133 rfl) (Opd.of_base 140 rfl) rfl) (by kernel_rfl) (by decide) h ?_
  clear h
  intro a w h
  exact hQ a w (h.keep [1, 2, 3, 4, 990, 5, 7, 8, 10, 12, 14, 15, 17, 18, 20, 21, 23, 25, 27, 28, 29, 141])
theorem lChecks15b_region {Q : Exit → Act → World → Prop} (p0 : Pay) (l0 : Fo) (s : Nat) (s2 : Nat)  {w0 : World} {a : Act} {w : World} (h : Hold 275 [(1, .sat (oP s p0 l0)), (2, .val (.bool false)), (3, .sat (aB (s2 + 1) (Bl.bs p0 l0))), (4, .sat (aK (Bl.oks p0 l0))), (990, .sat (gP (s2 + 1) none)), (5, .val (.string (Bl.atom p0 l0).1)), (7, .val (.bool ((Bl.atom p0 l0).2.2))), (8, .val (.int .i64 (Bl.int p0 l0).1)), (10, .val (.bool ((Bl.int p0 l0).2.2))), (12, .val (.bool ((Bl.callable p0 l0).2))), (14, .val (.bool ((Bl.atomic p0 l0).2))), (15, .sat (nR (s2 + 1) none ((Bl.list p0 l0).1))), (17, .val (.bool ((Bl.list p0 l0).2.2))), (18, .val (.int .i64 (Bl.char p0 l0).1)), (20, .val (.bool ((Bl.char p0 l0).2.2))), (21, .val (.int .i64 (Bl.code p0 l0).1)), (23, .val (.bool ((Bl.code p0 l0).2.2))), (25, .val (.int .i64 (Bl.ind p0 l0).2.1)), (27, .val (.bool ((Bl.ind p0 l0).2.2.2))), (28, .val (.bool (Tm.validB p0 l0))), (29, .val (.int .i64 ((8 : Nat) : Int)))] w0 a w)
    (hQ : ∀ a' w', Hold 275 [(1, .sat (oP s p0 l0)), (2, .val (.bool false)), (3, .sat (aB (s2 + 1) (Bl.bs p0 l0))), (4, .sat (aK (Bl.oks p0 l0))), (990, .sat (gP (s2 + 1) none)), (5, .val (.string (Bl.atom p0 l0).1)), (7, .val (.bool ((Bl.atom p0 l0).2.2))), (8, .val (.int .i64 (Bl.int p0 l0).1)), (10, .val (.bool ((Bl.int p0 l0).2.2))), (12, .val (.bool ((Bl.callable p0 l0).2))), (14, .val (.bool ((Bl.atomic p0 l0).2))), (15, .sat (nR (s2 + 1) none ((Bl.list p0 l0).1))), (17, .val (.bool ((Bl.list p0 l0).2.2))), (18, .val (.int .i64 (Bl.char p0 l0).1)), (20, .val (.bool ((Bl.char p0 l0).2.2))), (21, .val (.int .i64 (Bl.code p0 l0).1)), (23, .val (.bool ((Bl.code p0 l0).2.2))), (25, .val (.int .i64 (Bl.ind p0 l0).2.1)), (27, .val (.bool ((Bl.ind p0 l0).2.2.2))), (28, .val (.bool (Tm.validB p0 l0))), (29, .val (.int .i64 ((8 : Nat) : Int))), (102, .val (.bool false))] w0 a' w' → Q .normal a' w') : (Code.region 15 lChecks15Ops false).wp Try.prog Q a w := by
  refine region_seq (w0 := w) 2 (by kernel_rfl) ?_
  rw [show List.range 2 = [0, 1] from rfl]
  refine env_one (i := 0) (d := 101) (k := .val (.int .i64 ((8 : Nat) : Int))) (step_move (by kernel_rfl) (Opd.of_base 29 rfl) rfl) (by kernel_rfl) (by decide) h ?_
  clear h
  intro a w h
  refine env_one (i := 1) (d := 102) (k := .val (.bool false)) (step_lt_int (m := ((8 : Nat) : Int)) (n := 8) (by kernel_rfl) (Opd.of_base 101 rfl) (Opd.const _) (by decide) rfl) (by kernel_rfl) (by decide) h ?_
  clear h
  intro a w h
  exact hQ a w (h.keep [1, 2, 3, 4, 990, 5, 7, 8, 10, 12, 14, 15, 17, 18, 20, 21, 23, 25, 27, 28, 29, 102])
theorem lChecks22a_region {Q : Exit → Act → World → Prop} (p0 : Pay) (l0 : Fo) (s : Nat) (s2 : Nat)  {w0 : World} {a : Act} {w : World} (h : Hold 275 [(1, .sat (oP s p0 l0)), (2, .val (.bool false)), (3, .sat (aB (s2 + 1) (Bl.bs p0 l0))), (990, .sat (gP (s2 + 1) none)), (5, .val (.string (Bl.atom p0 l0).1)), (7, .val (.bool ((Bl.atom p0 l0).2.2))), (8, .val (.int .i64 (Bl.int p0 l0).1)), (10, .val (.bool ((Bl.int p0 l0).2.2))), (12, .val (.bool ((Bl.callable p0 l0).2))), (14, .val (.bool ((Bl.atomic p0 l0).2))), (18, .val (.int .i64 (Bl.char p0 l0).1)), (20, .val (.bool ((Bl.char p0 l0).2.2))), (21, .val (.int .i64 (Bl.code p0 l0).1)), (23, .val (.bool ((Bl.code p0 l0).2.2))), (28, .val (.bool (Tm.validB p0 l0)))] w0 a w)
    (hQ : ∀ a' w', Hold 275 [(1, .sat (oP s p0 l0)), (2, .val (.bool false)), (3, .sat (aB (s2 + 1) (Bl.bs p0 l0))), (990, .sat (gP (s2 + 1) none)), (5, .val (.string (Bl.atom p0 l0).1)), (7, .val (.bool ((Bl.atom p0 l0).2.2))), (8, .val (.int .i64 (Bl.int p0 l0).1)), (10, .val (.bool ((Bl.int p0 l0).2.2))), (12, .val (.bool ((Bl.callable p0 l0).2))), (14, .val (.bool ((Bl.atomic p0 l0).2))), (18, .val (.int .i64 (Bl.char p0 l0).1)), (20, .val (.bool ((Bl.char p0 l0).2.2))), (21, .val (.int .i64 (Bl.code p0 l0).1)), (23, .val (.bool ((Bl.code p0 l0).2.2))), (190, .val (.bool (!(Tm.validB p0 l0))))] w0 a' w' → Q .normal a' w') : (Code.region 22 lChecks22Ops false).wp Try.prog Q a w := by
  refine region_seq (w0 := w) 2 (by kernel_rfl) ?_
  rw [show List.range 2 = [0, 1] from rfl]
  refine env_one (i := 0) (d := 189) (k := .val (.bool (Tm.validB p0 l0))) (step_move (by kernel_rfl) (Opd.of_base 28 rfl) rfl) (by kernel_rfl) (by decide) h ?_
  clear h
  intro a w h
  refine env_one (i := 1) (d := 190) (k := .val (.bool (!(Tm.validB p0 l0)))) (step_not (by kernel_rfl) (Opd.of_base 189 rfl) rfl) (by kernel_rfl) (by decide) h ?_
  clear h
  intro a w h
  exact hQ a w (h.keep [1, 2, 3, 990, 5, 7, 8, 10, 12, 14, 18, 20, 21, 23, 190])
theorem lChecks24a_region {Q : Exit → Act → World → Prop} (p0 : Pay) (l0 : Fo) (s : Nat) (s2 : Nat)  {w0 : World} {a : Act} {w : World} (h : Hold 275 [(1, .sat (oP s p0 l0)), (2, .val (.bool false)), (3, .sat (aB (s2 + 1) (Bl.bs p0 l0))), (990, .sat (gP (s2 + 1) none)), (5, .val (.string (Bl.atom p0 l0).1)), (7, .val (.bool ((Bl.atom p0 l0).2.2))), (8, .val (.int .i64 (Bl.int p0 l0).1)), (10, .val (.bool ((Bl.int p0 l0).2.2))), (12, .val (.bool ((Bl.callable p0 l0).2))), (14, .val (.bool ((Bl.atomic p0 l0).2))), (18, .val (.int .i64 (Bl.char p0 l0).1)), (20, .val (.bool ((Bl.char p0 l0).2.2))), (21, .val (.int .i64 (Bl.code p0 l0).1)), (23, .val (.bool ((Bl.code p0 l0).2.2)))] w0 a w)
    (hQ : ∀ a' w', Hold 275 [(1, .sat (oP s p0 l0)), (2, .val (.bool false)), (3, .sat (aB (s2 + 1) (Bl.bs p0 l0))), (990, .sat (gP (s2 + 1) none)), (5, .val (.string (Bl.atom p0 l0).1)), (7, .val (.bool ((Bl.atom p0 l0).2.2))), (8, .val (.int .i64 (Bl.int p0 l0).1)), (10, .val (.bool ((Bl.int p0 l0).2.2))), (12, .val (.bool ((Bl.callable p0 l0).2))), (14, .val (.bool ((Bl.atomic p0 l0).2))), (18, .val (.int .i64 (Bl.char p0 l0).1)), (20, .val (.bool ((Bl.char p0 l0).2.2))), (21, .val (.int .i64 (Bl.code p0 l0).1)), (23, .val (.bool ((Bl.code p0 l0).2.2))), (32, .sat (nP (s2 + 1) none (3, 0, Tm.errName) (.node (2, 0, (⟨#[105, 110, 115, 116, 97, 110, 116, 105, 97, 116, 105, 111, 110, 95, 101, 114, 114, 111, 114]⟩)) .nil (.node Tm.emptyA .nil .nil))))] w0 a' w' → Q .normal a' w') : (Code.region 24 lChecks24Ops false).wp Try.prog Q a w := by
  refine region_seq (w0 := w) 4 (by kernel_rfl) ?_
  rw [show List.range 4 = [0, 1, 2, 3] from rfl]
  refine env_one (i := 0) (d := 192) (k := .sat (nT (s2 + 1) none (2, 0, (⟨#[105, 110, 115, 116, 97, 110, 116, 105, 97, 116, 105, 111, 110, 95, 101, 114, 114, 111, 114]⟩)) .nil)) (step_la (g := 990) (by kernel_rfl) (Opd.const _) (Opd.of_base 990 rfl) rfl) (by kernel_rfl) (by decide) h ?_
  clear h
  intro a w h
  refine env_one (i := 1) (d := 193) (k := .sat (nT (s2 + 1) none (3, 0, Tm.errName) (.node (2, 0, (⟨#[105, 110, 115, 116, 97, 110, 116, 105, 97, 116, 105, 111, 110, 95, 101, 114, 114, 111, 114]⟩)) .nil (.node Tm.emptyA .nil .nil)))) (step_lerrN (g := 990) (by kernel_rfl) (Opd.of_base 192 rfl) (Opd.of_base 990 rfl) rfl) (by kernel_rfl) (by decide) h ?_
  clear h
  intro a w h
  refine env_nbox (i := 2) (d := 32) (by kernel_rfl) (by decide) (by kernel_rfl) (by decide) (s := 193) rfl rfl h ?_
  clear h
  intro a w h
  exact hQ a w (h.keep [1, 2, 3, 990, 5, 7, 8, 10, 12, 14, 18, 20, 21, 23, 32])
theorem lChecks25a_region {Q : Exit → Act → World → Prop} (p0 : Pay) (l0 : Fo) (s : Nat) (s2 : Nat) (h1 : p0.1 = 0) {w0 : World} {a : Act} {w : World} (h : Hold 275 [(1, .sat (oP s p0 l0)), (2, .val (.bool false)), (3, .sat (aB (s2 + 1) (Bl.bs p0 l0))), (990, .sat (gP (s2 + 1) none)), (5, .val (.string (Bl.atom p0 l0).1)), (7, .val (.bool ((Bl.atom p0 l0).2.2))), (8, .val (.int .i64 (Bl.int p0 l0).1)), (10, .val (.bool ((Bl.int p0 l0).2.2))), (12, .val (.bool ((Bl.callable p0 l0).2))), (14, .val (.bool ((Bl.atomic p0 l0).2))), (18, .val (.int .i64 (Bl.char p0 l0).1)), (20, .val (.bool ((Bl.char p0 l0).2.2))), (21, .val (.int .i64 (Bl.code p0 l0).1)), (23, .val (.bool ((Bl.code p0 l0).2.2))), (32, .sat (nP (s2 + 1) none (3, 0, Tm.errName) (.node (2, 0, (⟨#[105, 110, 115, 116, 97, 110, 116, 105, 97, 116, 105, 111, 110, 95, 101, 114, 114, 111, 114]⟩)) .nil (.node Tm.emptyA .nil .nil))))] w0 a w)
    (hQ : ∀ a' w', Hold 275 [(1, .sat (oP s p0 l0)), (2, .val (.bool false)), (3, .sat (aB (s2 + 1) (Bl.bs p0 l0))), (990, .sat (gP (s2 + 1) none)), (5, .val (.string (Bl.atom p0 l0).1)), (7, .val (.bool ((Bl.atom p0 l0).2.2))), (8, .val (.int .i64 (Bl.int p0 l0).1)), (10, .val (.bool ((Bl.int p0 l0).2.2))), (12, .val (.bool ((Bl.callable p0 l0).2))), (14, .val (.bool ((Bl.atomic p0 l0).2))), (18, .val (.int .i64 (Bl.char p0 l0).1)), (20, .val (.bool ((Bl.char p0 l0).2.2))), (21, .val (.int .i64 (Bl.code p0 l0).1)), (23, .val (.bool ((Bl.code p0 l0).2.2))), (32, .sat (nP (s2 + 1) none (3, 0, Tm.errName) (.node (2, 0, (⟨#[105, 110, 115, 116, 97, 110, 116, 105, 97, 116, 105, 111, 110, 95, 101, 114, 114, 111, 114]⟩)) .nil (.node Tm.emptyA .nil .nil)))), (196, .val (.bool true))] w0 a' w' → Q .normal a' w') : (Code.region 25 lChecks25Ops false).wp Try.prog Q a w := by
  refine region_seq (w0 := w) 3 (by kernel_rfl) ?_
  rw [show List.range 3 = [0, 1, 2] from rfl]
  refine env_one (i := 0) (d := 194) (k := .ptrI (p0.1)) (step_field0 (by kernel_rfl) (Opd.ofO (Opd.of_base 1 rfl)) rfl) (by kernel_rfl) (by decide) h ?_
  clear h
  intro a w h
  refine env_one (i := 1) (d := 195) (k := .val (.int .i64 (p0.1))) (step_load_int3 (by kernel_rfl) (Opd.of_base 194 rfl) rfl) (by kernel_rfl) (by decide) h ?_
  clear h
  intro a w h
  refine env_one (i := 2) (d := 196) (k := .val (.bool true)) (step_eqb_int (m := (p0.1)) (n := 0) (by kernel_rfl) (Opd.of_base 195 rfl) (Opd.const _) (by rw [h1]; rfl) rfl) (by kernel_rfl) (by decide) h ?_
  clear h
  intro a w h
  exact hQ a w (h.keep [1, 2, 3, 990, 5, 7, 8, 10, 12, 14, 18, 20, 21, 23, 32, 196])
theorem lChecks26a_region {Q : Exit → Act → World → Prop} (p0 : Pay) (l0 : Fo) (s : Nat) (s2 : Nat)  {w0 : World} {a : Act} {w : World} (h : Hold 275 [(1, .sat (oP s p0 l0)), (2, .val (.bool false)), (3, .sat (aB (s2 + 1) (Bl.bs p0 l0))), (990, .sat (gP (s2 + 1) none)), (5, .val (.string (Bl.atom p0 l0).1)), (7, .val (.bool ((Bl.atom p0 l0).2.2))), (8, .val (.int .i64 (Bl.int p0 l0).1)), (10, .val (.bool ((Bl.int p0 l0).2.2))), (12, .val (.bool ((Bl.callable p0 l0).2))), (14, .val (.bool ((Bl.atomic p0 l0).2))), (18, .val (.int .i64 (Bl.char p0 l0).1)), (20, .val (.bool ((Bl.char p0 l0).2.2))), (21, .val (.int .i64 (Bl.code p0 l0).1)), (23, .val (.bool ((Bl.code p0 l0).2.2))), (32, .sat (nP (s2 + 1) none (3, 0, Tm.errName) (.node (2, 0, (⟨#[105, 110, 115, 116, 97, 110, 116, 105, 97, 116, 105, 111, 110, 95, 101, 114, 114, 111, 114]⟩)) .nil (.node Tm.emptyA .nil .nil))))] w0 a w)
    (hQ : ∀ a' w', Hold 275 [(1, .sat (oP s p0 l0)), (2, .val (.bool false)), (3, .sat (aB (s2 + 1) (Bl.bs p0 l0))), (990, .sat (gP (s2 + 1) none)), (5, .val (.string (Bl.atom p0 l0).1)), (7, .val (.bool ((Bl.atom p0 l0).2.2))), (8, .val (.int .i64 (Bl.int p0 l0).1)), (10, .val (.bool ((Bl.int p0 l0).2.2))), (12, .val (.bool ((Bl.callable p0 l0).2))), (14, .val (.bool ((Bl.atomic p0 l0).2))), (18, .val (.int .i64 (Bl.char p0 l0).1)), (20, .val (.bool ((Bl.char p0 l0).2.2))), (21, .val (.int .i64 (Bl.code p0 l0).1)), (23, .val (.bool ((Bl.code p0 l0).2.2))), (32, .sat (nP (s2 + 1) none (3, 0, Tm.errName) (.node (2, 0, (⟨#[105, 110, 115, 116, 97, 110, 116, 105, 97, 116, 105, 111, 110, 95, 101, 114, 114, 111, 114]⟩)) .nil (.node Tm.emptyA .nil .nil)))), (33, .val (.int .i64 0))] w0 a' w' → Q .normal a' w') : (Code.region 26 lChecks26Ops false).wp Try.prog Q a w := by
  refine region_seq (w0 := w) 1 (by kernel_rfl) ?_
  rw [show List.range 1 = [0] from rfl]
  refine env_one (i := 0) (d := 33) (k := .val (.int .i64 0)) (step_assign (by kernel_rfl) (Opd.const _) rfl) (by kernel_rfl) (by decide) h ?_
  clear h
  intro a w h
  exact hQ a w (h.keep [1, 2, 3, 990, 5, 7, 8, 10, 12, 14, 18, 20, 21, 23, 32, 33])
theorem lChecks27a_region {Q : Exit → Act → World → Prop} (p0 : Pay) (l0 : Fo) (s : Nat) (s2 : Nat) (jj : Nat) (hk8 : jj < 8) {w0 : World} {a : Act} {w : World} (h : Hold 275 [(1, .sat (oP s p0 l0)), (2, .val (.bool false)), (3, .sat (aB (s2 + 1) (Bl.bs p0 l0))), (990, .sat (gP (s2 + 1) none)), (5, .val (.string (Bl.atom p0 l0).1)), (7, .val (.bool ((Bl.atom p0 l0).2.2))), (8, .val (.int .i64 (Bl.int p0 l0).1)), (10, .val (.bool ((Bl.int p0 l0).2.2))), (12, .val (.bool ((Bl.callable p0 l0).2))), (14, .val (.bool ((Bl.atomic p0 l0).2))), (18, .val (.int .i64 (Bl.char p0 l0).1)), (20, .val (.bool ((Bl.char p0 l0).2.2))), (21, .val (.int .i64 (Bl.code p0 l0).1)), (23, .val (.bool ((Bl.code p0 l0).2.2))), (32, .sat (nP (s2 + 1) none (3, 0, Tm.errName) (.node (2, 0, (⟨#[105, 110, 115, 116, 97, 110, 116, 105, 97, 116, 105, 111, 110, 95, 101, 114, 114, 111, 114]⟩)) .nil (.node Tm.emptyA .nil .nil)))), (33, .val (.int .i64 ((jj : Nat) : Int)))] w0 a w)
    (hQ : ∀ a' w', Hold 275 [(1, .sat (oP s p0 l0)), (2, .val (.bool false)), (3, .sat (aB (s2 + 1) (Bl.bs p0 l0))), (990, .sat (gP (s2 + 1) none)), (5, .val (.string (Bl.atom p0 l0).1)), (7, .val (.bool ((Bl.atom p0 l0).2.2))), (8, .val (.int .i64 (Bl.int p0 l0).1)), (10, .val (.bool ((Bl.int p0 l0).2.2))), (12, .val (.bool ((Bl.callable p0 l0).2))), (14, .val (.bool ((Bl.atomic p0 l0).2))), (18, .val (.int .i64 (Bl.char p0 l0).1)), (20, .val (.bool ((Bl.char p0 l0).2.2))), (21, .val (.int .i64 (Bl.code p0 l0).1)), (23, .val (.bool ((Bl.code p0 l0).2.2))), (32, .sat (nP (s2 + 1) none (3, 0, Tm.errName) (.node (2, 0, (⟨#[105, 110, 115, 116, 97, 110, 116, 105, 97, 116, 105, 111, 110, 95, 101, 114, 114, 111, 114]⟩)) .nil (.node Tm.emptyA .nil .nil)))), (33, .val (.int .i64 ((jj : Nat) : Int))), (198, .val (.bool true))] w0 a' w' → Q .normal a' w') : (Code.region 27 lChecks27Ops false).wp Try.prog Q a w := by
  refine region_seq (w0 := w) 2 (by kernel_rfl) ?_
  rw [show List.range 2 = [0, 1] from rfl]
  refine env_one (i := 0) (d := 197) (k := .val (.int .i64 ((jj : Nat) : Int))) (step_move (by kernel_rfl) (Opd.of_base 33 rfl) rfl) (by kernel_rfl) (by decide) h ?_
  clear h
  intro a w h
  refine env_one (i := 1) (d := 198) (k := .val (.bool true)) (step_lt_int (m := ((jj : Nat) : Int)) (n := 8) (by kernel_rfl) (Opd.of_base 197 rfl) (Opd.const _) (decide_eq_true (by omega)) rfl) (by kernel_rfl) (by decide) h ?_
  clear h
  intro a w h
  exact hQ a w (h.keep [1, 2, 3, 990, 5, 7, 8, 10, 12, 14, 18, 20, 21, 23, 32, 33, 198])
def lChecks29aEs (p0 : Pay) (l0 : Fo) (s : Nat) (s2 : Nat) (jj : Nat) : List Kd := [
  .val (.int .i64 ((jj : Nat) : Int)),
  .ptrT (((Bl.bs p0 l0) jj).1) (((Bl.bs p0 l0) jj).2),
  .term (((Bl.bs p0 l0) jj).1) (((Bl.bs p0 l0) jj).2),
  .sat (nT (s2 + 1) none (3, 0, Tm.errName) (.node (2, 0, (⟨#[105, 110, 115, 116, 97, 110, 116, 105, 97, 116, 105, 111, 110, 95, 101, 114, 114, 111, 114]⟩)) .nil (.node Tm.emptyA .nil .nil))),
  .val (.bool true),
  .val (.bool false)]
def lChecks29aDs : List Nat := [201, 202, 203, 204, 205, 206]
def lChecks29aEnv (p0 : Pay) (l0 : Fo) (s : Nat) (s2 : Nat) (jj : Nat) : Env := [(1, .sat (oP s p0 l0)), (2, .val (.bool false)), (3, .sat (aB (s2 + 1) (Bl.bs p0 l0))), (990, .sat (gP (s2 + 1) none)), (5, .val (.string (Bl.atom p0 l0).1)), (7, .val (.bool ((Bl.atom p0 l0).2.2))), (8, .val (.int .i64 (Bl.int p0 l0).1)), (10, .val (.bool ((Bl.int p0 l0).2.2))), (12, .val (.bool ((Bl.callable p0 l0).2))), (14, .val (.bool ((Bl.atomic p0 l0).2))), (18, .val (.int .i64 (Bl.char p0 l0).1)), (20, .val (.bool ((Bl.char p0 l0).2.2))), (21, .val (.int .i64 (Bl.code p0 l0).1)), (23, .val (.bool ((Bl.code p0 l0).2.2))), (32, .sat (nP (s2 + 1) none (3, 0, Tm.errName) (.node (2, 0, (⟨#[105, 110, 115, 116, 97, 110, 116, 105, 97, 116, 105, 111, 110, 95, 101, 114, 114, 111, 114]⟩)) .nil (.node Tm.emptyA .nil .nil)))), (33, .val (.int .i64 ((jj : Nat) : Int)))]
theorem lChecks29a_0 {Q : Exit → Act → World → Prop} (p0 : Pay) (l0 : Fo) (s : Nat) (s2 : Nat) (jj : Nat) (hk8 : jj < 8) (hv : Tm.validB p0 l0 = true) (h1 : p0.1 = 0) : RStep (strip lChecks29Ops) Q (fun i => ((lChecks29aEs p0 l0 s s2 jj)[i]?).getD .any) (fun i => (lChecks29aDs[i]?).getD (1000 + i)) (look (lChecks29aEnv p0 l0 s s2 jj)) 275 0 := fun _ => step_move (by kernel_rfl) (Opd.of_base 33 rfl) rfl
theorem lChecks29a_1 {Q : Exit → Act → World → Prop} (p0 : Pay) (l0 : Fo) (s : Nat) (s2 : Nat) (jj : Nat) (hk8 : jj < 8) (hv : Tm.validB p0 l0 = true) (h1 : p0.1 = 0) : RStep (strip lChecks29Ops) Q (fun i => ((lChecks29aEs p0 l0 s s2 jj)[i]?).getD .any) (fun i => (lChecks29aDs[i]?).getD (1000 + i)) (look (lChecks29aEnv p0 l0 s s2 jj)) 275 1 := fun _ => step_aidx hk8 (by kernel_rfl) (Opd.of_base 3 rfl) (Opd.dep 0 rfl rfl (by kernel_rfl)) rfl
theorem lChecks29a_2 {Q : Exit → Act → World → Prop} (p0 : Pay) (l0 : Fo) (s : Nat) (s2 : Nat) (jj : Nat) (hk8 : jj < 8) (hv : Tm.validB p0 l0 = true) (h1 : p0.1 = 0) : RStep (strip lChecks29Ops) Q (fun i => ((lChecks29aEs p0 l0 s s2 jj)[i]?).getD .any) (fun i => (lChecks29aDs[i]?).getD (1000 + i)) (look (lChecks29aEnv p0 l0 s s2 jj)) 275 2 := fun _ => step_load_term (by kernel_rfl) (Opd.dep 1 rfl rfl (by kernel_rfl)) rfl
theorem lChecks29a_3 {Q : Exit → Act → World → Prop} (p0 : Pay) (l0 : Fo) (s : Nat) (s2 : Nat) (jj : Nat) (hk8 : jj < 8) (hv : Tm.validB p0 l0 = true) (h1 : p0.1 = 0) : RStep (strip lChecks29Ops) Q (fun i => ((lChecks29aEs p0 l0 s s2 jj)[i]?).getD .any) (fun i => (lChecks29aDs[i]?).getD (1000 + i)) (look (lChecks29aEnv p0 l0 s s2 jj)) 275 3 := fun _ => step_nload (by kernel_rfl) (Opd.of_base 32 rfl) rfl
theorem lChecks29a_4 {Q : Exit → Act → World → Prop} (p0 : Pay) (l0 : Fo) (s : Nat) (s2 : Nat) (jj : Nat) (hk8 : jj < 8) (hv : Tm.validB p0 l0 = true) (h1 : p0.1 = 0) : RStep (strip lChecks29Ops) Q (fun i => ((lChecks29aEs p0 l0 s s2 jj)[i]?).getD .any) (fun i => (lChecks29aDs[i]?).getD (1000 + i)) (look (lChecks29aEnv p0 l0 s s2 jj)) 275 4 := fun _ => step_lsame (by kernel_rfl) (Opd.dep 2 rfl rfl (by kernel_rfl)) (Opd.ofT (Opd.dep 3 rfl rfl (by kernel_rfl))) (congrArg (fun b => Kd.val (.bool b)) (Eq.symm (Bl.same_of ((Bl.all_var hv h1 jj hk8).trans Bl.inst_is) (by rw [Bl.all_var hv h1 jj hk8]; exact Bl.inst_valid))))
theorem lChecks29a_5 {Q : Exit → Act → World → Prop} (p0 : Pay) (l0 : Fo) (s : Nat) (s2 : Nat) (jj : Nat) (hk8 : jj < 8) (hv : Tm.validB p0 l0 = true) (h1 : p0.1 = 0) : RStep (strip lChecks29Ops) Q (fun i => ((lChecks29aEs p0 l0 s s2 jj)[i]?).getD .any) (fun i => (lChecks29aDs[i]?).getD (1000 + i)) (look (lChecks29aEnv p0 l0 s s2 jj)) 275 5 := fun _ => step_not (by kernel_rfl) (Opd.dep 4 rfl rfl (by kernel_rfl)) rfl
theorem lChecks29a_region {Q : Exit → Act → World → Prop} (p0 : Pay) (l0 : Fo) (s : Nat) (s2 : Nat) (jj : Nat) (hk8 : jj < 8) (hv : Tm.validB p0 l0 = true) (h1 : p0.1 = 0) {w0 : World} {a : Act} {w : World} (h : Hold 275 [(1, .sat (oP s p0 l0)), (2, .val (.bool false)), (3, .sat (aB (s2 + 1) (Bl.bs p0 l0))), (990, .sat (gP (s2 + 1) none)), (5, .val (.string (Bl.atom p0 l0).1)), (7, .val (.bool ((Bl.atom p0 l0).2.2))), (8, .val (.int .i64 (Bl.int p0 l0).1)), (10, .val (.bool ((Bl.int p0 l0).2.2))), (12, .val (.bool ((Bl.callable p0 l0).2))), (14, .val (.bool ((Bl.atomic p0 l0).2))), (18, .val (.int .i64 (Bl.char p0 l0).1)), (20, .val (.bool ((Bl.char p0 l0).2.2))), (21, .val (.int .i64 (Bl.code p0 l0).1)), (23, .val (.bool ((Bl.code p0 l0).2.2))), (32, .sat (nP (s2 + 1) none (3, 0, Tm.errName) (.node (2, 0, (⟨#[105, 110, 115, 116, 97, 110, 116, 105, 97, 116, 105, 111, 110, 95, 101, 114, 114, 111, 114]⟩)) .nil (.node Tm.emptyA .nil .nil)))), (33, .val (.int .i64 ((jj : Nat) : Int)))] w0 a w)
    (hQ : ∀ a' w', Hold 275 [(1, .sat (oP s p0 l0)), (2, .val (.bool false)), (3, .sat (aB (s2 + 1) (Bl.bs p0 l0))), (990, .sat (gP (s2 + 1) none)), (5, .val (.string (Bl.atom p0 l0).1)), (7, .val (.bool ((Bl.atom p0 l0).2.2))), (8, .val (.int .i64 (Bl.int p0 l0).1)), (10, .val (.bool ((Bl.int p0 l0).2.2))), (12, .val (.bool ((Bl.callable p0 l0).2))), (14, .val (.bool ((Bl.atomic p0 l0).2))), (18, .val (.int .i64 (Bl.char p0 l0).1)), (20, .val (.bool ((Bl.char p0 l0).2.2))), (21, .val (.int .i64 (Bl.code p0 l0).1)), (23, .val (.bool ((Bl.code p0 l0).2.2))), (32, .sat (nP (s2 + 1) none (3, 0, Tm.errName) (.node (2, 0, (⟨#[105, 110, 115, 116, 97, 110, 116, 105, 97, 116, 105, 111, 110, 95, 101, 114, 114, 111, 114]⟩)) .nil (.node Tm.emptyA .nil .nil)))), (33, .val (.int .i64 ((jj : Nat) : Int))), (206, .val (.bool false))] w0 a' w' → Q .normal a' w') : (Code.region 29 lChecks29Ops true).wp Try.prog Q a w := by
  have hall : ∀ i, i < 0 → RStep (strip lChecks29Ops) Q (fun i => ((lChecks29aEs p0 l0 s s2 jj)[i]?).getD .any) (fun i => (lChecks29aDs[i]?).getD (1000 + i)) (look (lChecks29aEnv p0 l0 s s2 jj)) 275 i := fun i hi => absurd hi (by omega)
  have hall := below_succ hall (lChecks29a_0 p0 l0 s s2 jj hk8 hv h1)
  have hall := below_succ hall (lChecks29a_1 p0 l0 s s2 jj hk8 hv h1)
  have hall := below_succ hall (lChecks29a_2 p0 l0 s s2 jj hk8 hv h1)
  have hall := below_succ hall (lChecks29a_3 p0 l0 s s2 jj hk8 hv h1)
  have hall := below_succ hall (lChecks29a_4 p0 l0 s s2 jj hk8 hv h1)
  have hall := below_succ hall (lChecks29a_5 p0 l0 s s2 jj hk8 hv h1)
  refine env_then (m := 6) (n := 6) lChecks29aDs (lChecks29aEs p0 l0 s s2 jj) rfl (by kernel_rfl) (by decide) (by kernel_rfl) (of_decide_eq_true (by kernel_rfl)) (by kernel_rfl) (by kernel_rfl) (fun i_ hi_ => hall i_ hi_) h fun a w h => ?_
  clear hall
  have h := h.keep [1, 2, 3, 990, 5, 7, 8, 10, 12, 14, 18, 20, 21, 23, 32, 33, 201, 202, 203, 204, 205, 206]
  show wpOps Try.prog _ Q [] a w
  exact hQ a w (h.keep [1, 2, 3, 990, 5, 7, 8, 10, 12, 14, 18, 20, 21, 23, 32, 33, 206])
theorem lChecks28a_region {Q : Exit → Act → World → Prop} (p0 : Pay) (l0 : Fo) (s : Nat) (s2 : Nat) (jj : Nat) (hk8 : jj < 8) {w0 : World} {a : Act} {w : World} (h : Hold 275 [(1, .sat (oP s p0 l0)), (2, .val (.bool false)), (3, .sat (aB (s2 + 1) (Bl.bs p0 l0))), (990, .sat (gP (s2 + 1) none)), (5, .val (.string (Bl.atom p0 l0).1)), (7, .val (.bool ((Bl.atom p0 l0).2.2))), (8, .val (.int .i64 (Bl.int p0 l0).1)), (10, .val (.bool ((Bl.int p0 l0).2.2))), (12, .val (.bool ((Bl.callable p0 l0).2))), (14, .val (.bool ((Bl.atomic p0 l0).2))), (18, .val (.int .i64 (Bl.char p0 l0).1)), (20, .val (.bool ((Bl.char p0 l0).2.2))), (21, .val (.int .i64 (Bl.code p0 l0).1)), (23, .val (.bool ((Bl.code p0 l0).2.2))), (32, .sat (nP (s2 + 1) none (3, 0, Tm.errName) (.node (2, 0, (⟨#[105, 110, 115, 116, 97, 110, 116, 105, 97, 116, 105, 111, 110, 95, 101, 114, 114, 111, 114]⟩)) .nil (.node Tm.emptyA .nil .nil)))), (33, .val (.int .i64 ((jj : Nat) : Int)))] w0 a w)
    (hQ : ∀ a' w', Hold 275 [(1, .sat (oP s p0 l0)), (2, .val (.bool false)), (3, .sat (aB (s2 + 1) (Bl.bs p0 l0))), (990, .sat (gP (s2 + 1) none)), (5, .val (.string (Bl.atom p0 l0).1)), (7, .val (.bool ((Bl.atom p0 l0).2.2))), (8, .val (.int .i64 (Bl.int p0 l0).1)), (10, .val (.bool ((Bl.int p0 l0).2.2))), (12, .val (.bool ((Bl.callable p0 l0).2))), (14, .val (.bool ((Bl.atomic p0 l0).2))), (18, .val (.int .i64 (Bl.char p0 l0).1)), (20, .val (.bool ((Bl.char p0 l0).2.2))), (21, .val (.int .i64 (Bl.code p0 l0).1)), (23, .val (.bool ((Bl.code p0 l0).2.2))), (32, .sat (nP (s2 + 1) none (3, 0, Tm.errName) (.node (2, 0, (⟨#[105, 110, 115, 116, 97, 110, 116, 105, 97, 116, 105, 111, 110, 95, 101, 114, 114, 111, 114]⟩)) .nil (.node Tm.emptyA .nil .nil)))), (33, .val (.int .i64 ((jj + 1 : Nat) : Int)))] w0 a' w' → Q .normal a' w') : (Code.region 28 lChecks28Ops false).wp Try.prog Q a w := by
  refine region_seq (w0 := w) 3 (by kernel_rfl) ?_
  rw [show List.range 3 = [0, 1, 2] from rfl]
  refine env_one (i := 0) (d := 199) (k := .val (.int .i64 ((jj : Nat) : Int))) (step_move (by kernel_rfl) (Opd.of_base 33 rfl) rfl) (by kernel_rfl) (by decide) h ?_
  clear h
  intro a w h
  refine env_one (i := 1) (d := 200) (k := .val (.int .i64 ((jj + 1 : Nat) : Int))) (step_add (m := ((jj : Nat) : Int)) (n := 1) (s := ((jj + 1 : Nat) : Int)) (by kernel_rfl) (Opd.of_base 199 rfl) (Opd.const _) (by rw [IntKind.wrap_i64]; omega) rfl) (by kernel_rfl) (by decide) h ?_
  clear h
  intro a w h
  refine env_one (i := 2) (d := 33) (k := .val (.int .i64 ((jj + 1 : Nat) : Int))) (step_assign (by kernel_rfl) (Opd.of_base 200 rfl) rfl) (by kernel_rfl) (by decide) h ?_
  clear h
  intro a w h
  exact hQ a w (h.keep [1, 2, 3, 990, 5, 7, 8, 10, 12, 14, 18, 20, 21, 23, 32, 33])
theorem lChecks27b_region {Q : Exit → Act → World → Prop} (p0 : Pay) (l0 : Fo) (s : Nat) (s2 : Nat)  {w0 : World} {a : Act} {w : World} (h : Hold 275 [(1, .sat (oP s p0 l0)), (2, .val (.bool false)), (3, .sat (aB (s2 + 1) (Bl.bs p0 l0))), (990, .sat (gP (s2 + 1) none)), (5, .val (.string (Bl.atom p0 l0).1)), (7, .val (.bool ((Bl.atom p0 l0).2.2))), (8, .val (.int .i64 (Bl.int p0 l0).1)), (10, .val (.bool ((Bl.int p0 l0).2.2))), (12, .val (.bool ((Bl.callable p0 l0).2))), (14, .val (.bool ((Bl.atomic p0 l0).2))), (18, .val (.int .i64 (Bl.char p0 l0).1)), (20, .val (.bool ((Bl.char p0 l0).2.2))), (21, .val (.int .i64 (Bl.code p0 l0).1)), (23, .val (.bool ((Bl.code p0 l0).2.2))), (32, .sat (nP (s2 + 1) none (3, 0, Tm.errName) (.node (2, 0, (⟨#[105, 110, 115, 116, 97, 110, 116, 105, 97, 116, 105, 111, 110, 95, 101, 114, 114, 111, 114]⟩)) .nil (.node Tm.emptyA .nil .nil)))), (33, .val (.int .i64 ((8 : Nat) : Int)))] w0 a w)
    (hQ : ∀ a' w', Hold 275 [(1, .sat (oP s p0 l0)), (2, .val (.bool false)), (3, .sat (aB (s2 + 1) (Bl.bs p0 l0))), (990, .sat (gP (s2 + 1) none)), (5, .val (.string (Bl.atom p0 l0).1)), (7, .val (.bool ((Bl.atom p0 l0).2.2))), (8, .val (.int .i64 (Bl.int p0 l0).1)), (10, .val (.bool ((Bl.int p0 l0).2.2))), (12, .val (.bool ((Bl.callable p0 l0).2))), (14, .val (.bool ((Bl.atomic p0 l0).2))), (18, .val (.int .i64 (Bl.char p0 l0).1)), (20, .val (.bool ((Bl.char p0 l0).2.2))), (21, .val (.int .i64 (Bl.code p0 l0).1)), (23, .val (.bool ((Bl.code p0 l0).2.2))), (32, .sat (nP (s2 + 1) none (3, 0, Tm.errName) (.node (2, 0, (⟨#[105, 110, 115, 116, 97, 110, 116, 105, 97, 116, 105, 111, 110, 95, 101, 114, 114, 111, 114]⟩)) .nil (.node Tm.emptyA .nil .nil)))), (33, .val (.int .i64 ((8 : Nat) : Int))), (198, .val (.bool false))] w0 a' w' → Q .normal a' w') : (Code.region 27 lChecks27Ops false).wp Try.prog Q a w := by
  refine region_seq (w0 := w) 2 (by kernel_rfl) ?_
  rw [show List.range 2 = [0, 1] from rfl]
  refine env_one (i := 0) (d := 197) (k := .val (.int .i64 ((8 : Nat) : Int))) (step_move (by kernel_rfl) (Opd.of_base 33 rfl) rfl) (by kernel_rfl) (by decide) h ?_
  clear h
  intro a w h
  refine env_one (i := 1) (d := 198) (k := .val (.bool false)) (step_lt_int (m := ((8 : Nat) : Int)) (n := 8) (by kernel_rfl) (Opd.of_base 197 rfl) (Opd.const _) (by decide) rfl) (by kernel_rfl) (by decide) h ?_
  clear h
  intro a w h
  exact hQ a w (h.keep [1, 2, 3, 990, 5, 7, 8, 10, 12, 14, 18, 20, 21, 23, 32, 33, 198])
theorem lChecks31a_region {Q : Exit → Act → World → Prop} (p0 : Pay) (l0 : Fo) (s : Nat) (s2 : Nat)  {w0 : World} {a : Act} {w : World} (h : Hold 275 [(1, .sat (oP s p0 l0)), (2, .val (.bool false)), (990, .sat (gP (s2 + 1) none)), (5, .val (.string (Bl.atom p0 l0).1)), (7, .val (.bool ((Bl.atom p0 l0).2.2))), (8, .val (.int .i64 (Bl.int p0 l0).1)), (10, .val (.bool ((Bl.int p0 l0).2.2))), (12, .val (.bool ((Bl.callable p0 l0).2))), (14, .val (.bool ((Bl.atomic p0 l0).2))), (18, .val (.int .i64 (Bl.char p0 l0).1)), (20, .val (.bool ((Bl.char p0 l0).2.2))), (21, .val (.int .i64 (Bl.code p0 l0).1)), (23, .val (.bool ((Bl.code p0 l0).2.2)))] w0 a w)
    (hQ : ∀ a' w', Hold 275 [(1, .sat (oP s p0 l0)), (2, .val (.bool true)), (990, .sat (gP (s2 + 1) none)), (5, .val (.string (Bl.atom p0 l0).1)), (7, .val (.bool ((Bl.atom p0 l0).2.2))), (8, .val (.int .i64 (Bl.int p0 l0).1)), (10, .val (.bool ((Bl.int p0 l0).2.2))), (12, .val (.bool ((Bl.callable p0 l0).2))), (14, .val (.bool ((Bl.atomic p0 l0).2))), (18, .val (.int .i64 (Bl.char p0 l0).1)), (20, .val (.bool ((Bl.char p0 l0).2.2))), (21, .val (.int .i64 (Bl.code p0 l0).1)), (23, .val (.bool ((Bl.code p0 l0).2.2)))] w0 a' w' → Q .normal a' w') : (Code.region 31 lChecks31Ops false).wp Try.prog Q a w := by
  refine region_seq (w0 := w) 2 (by kernel_rfl) ?_
  rw [show List.range 2 = [0, 1] from rfl]
  refine env_one (i := 0) (d := 207) (k := .val (.bool true)) (step_awake (by kernel_rfl)  rfl) (by kernel_rfl) (by decide) h ?_
  clear h
  intro a w h
  refine env_one (i := 1) (d := 2) (k := .val (.bool true)) (step_assign (by kernel_rfl) (Opd.of_base 207 rfl) rfl) (by kernel_rfl) (by decide) h ?_
  clear h
  intro a w h
  exact hQ a w (h.keep [1, 2, 990, 5, 7, 8, 10, 12, 14, 18, 20, 21, 23])
theorem lChecks25b_region {Q : Exit → Act → World → Prop} (p0 : Pay) (l0 : Fo) (s : Nat) (s2 : Nat) (h1 : ¬ p0.1 = 0) {w0 : World} {a : Act} {w : World} (h : Hold 275 [(1, .sat (oP s p0 l0)), (2, .val (.bool false)), (3, .sat (aB (s2 + 1) (Bl.bs p0 l0))), (990, .sat (gP (s2 + 1) none)), (5, .val (.string (Bl.atom p0 l0).1)), (7, .val (.bool ((Bl.atom p0 l0).2.2))), (8, .val (.int .i64 (Bl.int p0 l0).1)), (10, .val (.bool ((Bl.int p0 l0).2.2))), (12, .val (.bool ((Bl.callable p0 l0).2))), (14, .val (.bool ((Bl.atomic p0 l0).2))), (18, .val (.int .i64 (Bl.char p0 l0).1)), (20, .val (.bool ((Bl.char p0 l0).2.2))), (21, .val (.int .i64 (Bl.code p0 l0).1)), (23, .val (.bool ((Bl.code p0 l0).2.2))), (32, .sat (nP (s2 + 1) none (3, 0, Tm.errName) (.node (2, 0, (⟨#[105, 110, 115, 116, 97, 110, 116, 105, 97, 116, 105, 111, 110, 95, 101, 114, 114, 111, 114]⟩)) .nil (.node Tm.emptyA .nil .nil))))] w0 a w)
    (hQ : ∀ a' w', Hold 275 [(1, .sat (oP s p0 l0)), (2, .val (.bool false)), (3, .sat (aB (s2 + 1) (Bl.bs p0 l0))), (990, .sat (gP (s2 + 1) none)), (5, .val (.string (Bl.atom p0 l0).1)), (7, .val (.bool ((Bl.atom p0 l0).2.2))), (8, .val (.int .i64 (Bl.int p0 l0).1)), (10, .val (.bool ((Bl.int p0 l0).2.2))), (12, .val (.bool ((Bl.callable p0 l0).2))), (14, .val (.bool ((Bl.atomic p0 l0).2))), (18, .val (.int .i64 (Bl.char p0 l0).1)), (20, .val (.bool ((Bl.char p0 l0).2.2))), (21, .val (.int .i64 (Bl.code p0 l0).1)), (23, .val (.bool ((Bl.code p0 l0).2.2))), (32, .sat (nP (s2 + 1) none (3, 0, Tm.errName) (.node (2, 0, (⟨#[105, 110, 115, 116, 97, 110, 116, 105, 97, 116, 105, 111, 110, 95, 101, 114, 114, 111, 114]⟩)) .nil (.node Tm.emptyA .nil .nil)))), (196, .val (.bool false))] w0 a' w' → Q .normal a' w') : (Code.region 25 lChecks25Ops false).wp Try.prog Q a w := by
  refine region_seq (w0 := w) 3 (by kernel_rfl) ?_
  rw [show List.range 3 = [0, 1, 2] from rfl]
  refine env_one (i := 0) (d := 194) (k := .ptrI (p0.1)) (step_field0 (by kernel_rfl) (Opd.ofO (Opd.of_base 1 rfl)) rfl) (by kernel_rfl) (by decide) h ?_
  clear h
  intro a w h
  refine env_one (i := 1) (d := 195) (k := .val (.int .i64 (p0.1))) (step_load_int3 (by kernel_rfl) (Opd.of_base 194 rfl) rfl) (by kernel_rfl) (by decide) h ?_
  clear h
  intro a w h
  refine env_one (i := 2) (d := 196) (k := .val (.bool false)) (step_eqb_int (m := (p0.1)) (n := 0) (by kernel_rfl) (Opd.of_base 195 rfl) (Opd.const _) (by simpa using h1) rfl) (by kernel_rfl) (by decide) h ?_
  clear h
  intro a w h
  exact hQ a w (h.keep [1, 2, 3, 990, 5, 7, 8, 10, 12, 14, 18, 20, 21, 23, 32, 196])
theorem lChecks32a_region {Q : Exit → Act → World → Prop} (p0 : Pay) (l0 : Fo) (s : Nat) (s2 : Nat)  {w0 : World} {a : Act} {w : World} (h : Hold 275 [(1, .sat (oP s p0 l0)), (2, .val (.bool false)), (990, .sat (gP (s2 + 1) none)), (5, .val (.string (Bl.atom p0 l0).1)), (7, .val (.bool ((p0.1) == 2))), (8, .val (.int .i64 (Bl.int p0 l0).1)), (10, .val (.bool ((p0.1) == 1))), (12, .val (.bool ((p0.1) != 1))), (14, .val (.bool ((p0.1) != 3))), (18, .val (.int .i64 (Bl.char p0 l0).1)), (20, .val (.bool ((Bl.char p0 l0).2.2))), (21, .val (.int .i64 (Bl.code p0 l0).1)), (23, .val (.bool ((Bl.code p0 l0).2.2)))] w0 a w)
    (hQ : ∀ a' w', Hold 275 [(2, .val (.bool false)), (990, .sat (gP (s2 + 1) none)), (5, .val (.string (Bl.atom p0 l0).1)), (7, .val (.bool ((p0.1) == 2))), (8, .val (.int .i64 (Bl.int p0 l0).1)), (10, .val (.bool ((p0.1) == 1))), (18, .val (.int .i64 (Bl.char p0 l0).1)), (20, .val (.bool ((Bl.char p0 l0).2.2))), (21, .val (.int .i64 (Bl.code p0 l0).1)), (23, .val (.bool ((Bl.code p0 l0).2.2))), (233, .val (.bool false))] w0 a' w' → Q .normal a' w') : (Code.region 32 lChecks32Ops false).wp Try.prog Q a w := by
  refine region_seq (w0 := w) 26 (by kernel_rfl) ?_
  rw [show List.range 26 = [0, 1, 2, 3, 4, 5, 6, 7, 8, 9, 10, 11, 12, 13, 14, 15, 16, 17, 18, 19, 20, 21, 22, 23, 24, 25] from rfl]
  refine env_one (i := 0) (d := 208) (k := .val (.bool ((p0.1) == 2))) (step_move (by kernel_rfl) (Opd.of_base 7 rfl) rfl) (by kernel_rfl) (by decide) h ?_
  clear h
  intro a w h
  refine env_one (i := 1) (d := 209) (k := .ptrI (p0.1)) (step_field0 (by kernel_rfl) (Opd.ofO (Opd.of_base 1 rfl)) rfl) (by kernel_rfl) (by decide) h ?_
  clear h
  intro a w h
  refine env_one (i := 2) (d := 210) (k := .val (.int .i64 (p0.1))) (step_load_int3 (by kernel_rfl) (Opd.of_base 209 rfl) rfl) (by kernel_rfl) (by decide) h ?_
  clear h
  intro a w h
  refine env_one (i := 3) (d := 211) (k := .val (.bool ((p0.1) == 2))) (step_eqb_int (m := (p0.1)) (n := 2) (by kernel_rfl) (Opd.of_base 210 rfl) (Opd.const _) rfl rfl) (by kernel_rfl) (by decide) h ?_
  clear h
  intro a w h
  refine env_one (i := 4) (d := 212) (k := .val (.bool false)) (step_ne_bool (by kernel_rfl) (Opd.of_base 208 rfl) (Opd.of_base 211 rfl) (by simp) rfl) (by kernel_rfl) (by decide) h ?_
  clear h
  intro a w h
  refine env_one (i := 5) (d := 213) (k := .val (.bool false)) (step_move (by kernel_rfl) (Opd.of_base 212 rfl) rfl) (by kernel_rfl) (by decide) h ?_
  clear h
  intro a w h
  refine env_guard (i := 6) (d := 214) (g := 5) (dg := 213) (b := false) (k := .val (.bool ((p0.1) == 1))) (step_move (by kernel_rfl) (Opd.of_base 10 rfl) rfl) (by kernel_rfl) (by decide) (by kernel_rfl) (by decide) rfl h ?_
  clear h
  intro a w h
  refine env_guard (i := 7) (d := 215) (g := 5) (dg := 213) (b := false) (k := .ptrI (p0.1)) (step_field0 (by kernel_rfl) (Opd.ofO (Opd.of_base 1 rfl)) rfl) (by kernel_rfl) (by decide) (by kernel_rfl) (by decide) rfl h ?_
  clear h
  intro a w h
  refine env_guard (i := 8) (d := 216) (g := 5) (dg := 213) (b := false) (k := .val (.int .i64 (p0.1))) (step_load_int3 (by kernel_rfl) (Opd.of_base 215 rfl) rfl) (by kernel_rfl) (by decide) (by kernel_rfl) (by decide) rfl h ?_
  clear h
  intro a w h
  refine env_guard (i := 9) (d := 217) (g := 5) (dg := 213) (b := false) (k := .val (.bool ((p0.1) == 1))) (step_eqb_int (m := (p0.1)) (n := 1) (by kernel_rfl) (Opd.of_base 216 rfl) (Opd.const _) rfl rfl) (by kernel_rfl) (by decide) (by kernel_rfl) (by decide) rfl h ?_
  clear h
  intro a w h
  refine env_guard (i := 10) (d := 218) (g := 5) (dg := 213) (b := false) (k := .val (.bool false)) (step_ne_bool (by kernel_rfl) (Opd.of_base 214 rfl) (Opd.of_base 217 rfl) (by simp) rfl) (by kernel_rfl) (by decide) (by kernel_rfl) (by decide) rfl h ?_
  clear h
  intro a w h
  refine env_one (i := 11) (d := 219) (k := .val (.bool false)) (step_pick_no (x := .const (.bool true)) (by kernel_rfl) (Opd.of_base 213 rfl) (Opd.of_base 218 rfl) rfl) (by kernel_rfl) (by decide) h ?_
  clear h
  intro a w h
  refine env_one (i := 12) (d := 220) (k := .val (.bool false)) (step_move (by kernel_rfl) (Opd.of_base 219 rfl) rfl) (by kernel_rfl) (by decide) h ?_
  clear h
  intro a w h
  refine env_guard (i := 13) (d := 221) (g := 12) (dg := 220) (b := false) (k := .val (.bool ((p0.1) != 1))) (step_move (by kernel_rfl) (Opd.of_base 12 rfl) rfl) (by kernel_rfl) (by decide) (by kernel_rfl) (by decide) rfl h ?_
  clear h
  intro a w h
  refine env_guard (i := 14) (d := 222) (g := 12) (dg := 220) (b := false) (k := .ptrI (p0.1)) (step_field0 (by kernel_rfl) (Opd.ofO (Opd.of_base 1 rfl)) rfl) (by kernel_rfl) (by decide) (by kernel_rfl) (by decide) rfl h ?_
  clear h
  intro a w h
  refine env_guard (i := 15) (d := 223) (g := 12) (dg := 220) (b := false) (k := .val (.int .i64 (p0.1))) (step_load_int3 (by kernel_rfl) (Opd.of_base 222 rfl) rfl) (by kernel_rfl) (by decide) (by kernel_rfl) (by decide) rfl h ?_
  clear h
  intro a w h
  refine env_guard (i := 16) (d := 224) (g := 12) (dg := 220) (b := false) (k := .val (.bool ((p0.1) != 1))) (step_ne_int (m := (p0.1)) (n := 1) (by kernel_rfl) (Opd.of_base 223 rfl) (Opd.const _) rfl rfl) (by kernel_rfl) (by decide) (by kernel_rfl) (by decide) rfl h ?_
  clear h
  intro a w h
  refine env_guard (i := 17) (d := 225) (g := 12) (dg := 220) (b := false) (k := .val (.bool false)) (step_ne_bool (by kernel_rfl) (Opd.of_base 221 rfl) (Opd.of_base 224 rfl) (by simp) rfl) (by kernel_rfl) (by decide) (by kernel_rfl) (by decide) rfl h ?_
  clear h
  intro a w h
  refine env_one (i := 18) (d := 226) (k := .val (.bool false)) (step_pick_no (x := .const (.bool true)) (by kernel_rfl) (Opd.of_base 220 rfl) (Opd.of_base 225 rfl) rfl) (by kernel_rfl) (by decide) h ?_
  clear h
  intro a w h
  refine env_one (i := 19) (d := 227) (k := .val (.bool false)) (step_move (by kernel_rfl) (Opd.of_base 226 rfl) rfl) (by kernel_rfl) (by decide) h ?_
  clear h
  intro a w h
  refine env_guard (i := 20) (d := 228) (g := 19) (dg := 227) (b := false) (k := .val (.bool ((p0.1) != 3))) (step_move (by kernel_rfl) (Opd.of_base 14 rfl) rfl) (by kernel_rfl) (by decide) (by kernel_rfl) (by decide) rfl h ?_
  clear h
  intro a w h
  refine env_guard (i := 21) (d := 229) (g := 19) (dg := 227) (b := false) (k := .ptrI (p0.1)) (step_field0 (by kernel_rfl) (Opd.ofO (Opd.of_base 1 rfl)) rfl) (by kernel_rfl) (by decide) (by kernel_rfl) (by decide) rfl h ?_
  clear h
  intro a w h
  refine env_guard (i := 22) (d := 230) (g := 19) (dg := 227) (b := false) (k := .val (.int .i64 (p0.1))) (step_load_int3 (by kernel_rfl) (Opd.of_base 229 rfl) rfl) (by kernel_rfl) (by decide) (by kernel_rfl) (by decide) rfl h ?_
  clear h
  intro a w h
  refine env_guard (i := 23) (d := 231) (g := 19) (dg := 227) (b := false) (k := .val (.bool ((p0.1) != 3))) (step_ne_int (m := (p0.1)) (n := 3) (by kernel_rfl) (Opd.of_base 230 rfl) (Opd.const _) rfl rfl) (by kernel_rfl) (by decide) (by kernel_rfl) (by decide) rfl h ?_
  clear h
  intro a w h
  refine env_guard (i := 24) (d := 232) (g := 19) (dg := 227) (b := false) (k := .val (.bool false)) (step_ne_bool (by kernel_rfl) (Opd.of_base 228 rfl) (Opd.of_base 231 rfl) (by simp) rfl) (by kernel_rfl) (by decide) (by kernel_rfl) (by decide) rfl h ?_
  clear h
  intro a w h
  refine env_one (i := 25) (d := 233) (k := .val (.bool false)) (step_pick_no (x := .const (.bool true)) (by kernel_rfl) (Opd.of_base 227 rfl) (Opd.of_base 232 rfl) rfl) (by kernel_rfl) (by decide) h ?_
  clear h
  intro a w h
  exact hQ a w (h.keep [2, 990, 5, 7, 8, 10, 18, 20, 21, 23, 233])
theorem lChecks36a_region {Q : Exit → Act → World → Prop} (p0 : Pay) (l0 : Fo) (s : Nat) (s2 : Nat)  {w0 : World} {a : Act} {w : World} (h : Hold 275 [(2, .val (.bool false)), (990, .sat (gP (s2 + 1) none))] w0 a w)
    (hQ : ∀ a' w', Hold 275 [(2, .val (.bool true)), (990, .sat (gP (s2 + 1) none))] w0 a' w' → Q .normal a' w') : (Code.region 36 lChecks36Ops false).wp Try.prog Q a w := by
  refine region_seq (w0 := w) 2 (by kernel_rfl) ?_
  rw [show List.range 2 = [0, 1] from rfl]
  refine env_one (i := 0) (d := 274) (k := .val (.bool true)) (step_awake (by kernel_rfl)  rfl) (by kernel_rfl) (by decide) h ?_
  clear h
  intro a w h
  refine env_one (i := 1) (d := 2) (k := .val (.bool true)) (step_assign (by kernel_rfl) (Opd.of_base 274 rfl) rfl) (by kernel_rfl) (by decide) h ?_
  clear h
  intro a w h
  exact hQ a w (h.keep [2, 990])
theorem lChecks23a_region {Q : Exit → Act → World → Prop} (p0 : Pay) (l0 : Fo) (s : Nat) (s2 : Nat)  {w0 : World} {a : Act} {w : World} (h : Hold 275 [(1, .sat (oP s p0 l0)), (2, .val (.bool false)), (3, .sat (aB (s2 + 1) (Bl.bs p0 l0))), (990, .sat (gP (s2 + 1) none)), (5, .val (.string (Bl.atom p0 l0).1)), (7, .val (.bool ((Bl.atom p0 l0).2.2))), (8, .val (.int .i64 (Bl.int p0 l0).1)), (10, .val (.bool ((Bl.int p0 l0).2.2))), (12, .val (.bool ((Bl.callable p0 l0).2))), (14, .val (.bool ((Bl.atomic p0 l0).2))), (18, .val (.int .i64 (Bl.char p0 l0).1)), (20, .val (.bool ((Bl.char p0 l0).2.2))), (21, .val (.int .i64 (Bl.code p0 l0).1)), (23, .val (.bool ((Bl.code p0 l0).2.2)))] w0 a w)
    (hQ : ∀ a' w', Hold 275 [(1, .sat (oP s p0 l0)), (2, .val (.bool true)), (3, .sat (aB (s2 + 1) (Bl.bs p0 l0))), (990, .sat (gP (s2 + 1) none)), (5, .val (.string (Bl.atom p0 l0).1)), (7, .val (.bool ((Bl.atom p0 l0).2.2))), (8, .val (.int .i64 (Bl.int p0 l0).1)), (10, .val (.bool ((Bl.int p0 l0).2.2))), (12, .val (.bool ((Bl.callable p0 l0).2))), (14, .val (.bool ((Bl.atomic p0 l0).2))), (18, .val (.int .i64 (Bl.char p0 l0).1)), (20, .val (.bool ((Bl.char p0 l0).2.2))), (21, .val (.int .i64 (Bl.code p0 l0).1)), (23, .val (.bool ((Bl.code p0 l0).2.2)))] w0 a' w' → Q .normal a' w') : (Code.region 23 lChecks23Ops false).wp Try.prog Q a w := by
  refine region_seq (w0 := w) 2 (by kernel_rfl) ?_
  rw [show List.range 2 = [0, 1] from rfl]
  refine env_one (i := 0) (d := 191) (k := .val (.bool true)) (step_awake (by kernel_rfl)  rfl) (by kernel_rfl) (by decide) h ?_
  clear h
  intro a w h
  refine env_one (i := 1) (d := 2) (k := .val (.bool true)) (step_assign (by kernel_rfl) (Opd.of_base 191 rfl) rfl) (by kernel_rfl) (by decide) h ?_
  clear h
  intro a w h
  exact hQ a w (h.keep [1, 2, 3, 990, 5, 7, 8, 10, 12, 14, 18, 20, 21, 23])
set_option maxHeartbeats 1000000 in
theorem lChecks_any (p0 : Pay) (l0 : Fo) (A0 : Option Addr) (c0 : Nat) (B : Nat) (w : World) (hA0 : ArgsB w B A0 (Tm.len l0) l0) (hB : B ≤ w.heap.size)  : Calls Try.prog 8 #[tv p0 A0 (Tm.len l0) c0] w (fun e w' => e = .returned (.bool true) ∧ Below w.heap.size w w') := by
  refine calls_of_wp Try.func8 lChecks_body ?_
  obtain ⟨v0, hv0⟩ : ∃ v : Value, v = tv p0 A0 (Tm.len l0) c0 := ⟨_, rfl⟩
  rw [← hv0]
  have hk0 : (Kd.term p0 l0).R v0 w := by rw [hv0]; exact ⟨A0, c0, rfl, hA0.up hB⟩
  have hsN : (#[v0] ++ Array.replicate (Try.f8.ntmps - #[v0].size) undef : Array Value).size = 275 := by kernel_rfl
  have gs0 : (#[v0] ++ Array.replicate (Try.f8.ntmps - #[v0].size) undef : Array Value).getD 0 undef = v0 := by kernel_rfl
  generalize (#[v0] ++ Array.replicate (Try.f8.ntmps - #[v0].size) undef : Array Value) = tm at hsN gs0 ⊢
  obtain ⟨a, ha0⟩ : ∃ a : Act, a = ⟨tm, []⟩ := ⟨_, rfl⟩
  have h : Hold 275 [(0, .term p0 l0), (990, .sat (gP 0 none))] w ⟨tm, []⟩ w := ⟨hsN, rfl, Below.refl _ _, (slots_cons 0 (by rw [gs0]; exact hk0) (slots_cons 990 (k0 := .sat (gP 0 none)) ⟨Nat.zero_le _, fun r e => by cases e⟩ slots_nil))⟩
  refine wp_seq ?_
  refine lChecks0a_region p0 l0  h ?_
  intro a w1 h
  show Code.wp _ _ _ a w1
  refine wp_seq ?_
  refine lChecks1_region p0 l0 h ?_
  intro a w1 h
  obtain ⟨s, hws, h⟩ := h
  show Code.wp _ _ _ a w1
  refine wp_seq ?_
  refine lChecks2_region p0 l0 s h ?_
  intro a w1 h
  obtain ⟨s2, hss, h⟩ := h
  show Code.wp _ _ _ a w1
  refine wp_seq ?_
  refine lChecks3a_region p0 l0 s s2  h ?_
  intro a w1 h
  show Code.wp _ _ _ a w1
  refine wp_seq ?_
  refine lChecks4a_region p0 l0 s s2  h ?_
  intro a w1 h
  show Code.wp _ _ _ a w1
  refine wp_seq ?_
  refine lChecks5a_region p0 l0 s s2  h ?_
  intro a w1 h
  show Code.wp _ _ _ a w1
  refine wp_seq ?_
  refine lChecks6a_region p0 l0 s s2  h ?_
  intro a w1 h
  show Code.wp _ _ _ a w1
  refine wp_seq ?_
  refine lChecks7a_region p0 l0 s s2  h ?_
  intro a w1 h
  show Code.wp _ _ _ a w1
  refine wp_seq ?_
  refine lChecks8a_region p0 l0 s s2  h ?_
  intro a w1 h
  show Code.wp _ _ _ a w1
  refine wp_seq ?_
  refine lChecks9a_region p0 l0 s s2  h ?_
  intro a w1 h
  show Code.wp _ _ _ a w1
  refine wp_seq ?_
  refine lChecks10a_region p0 l0 s s2  h ?_
  intro a w1 h
  show Code.wp _ _ _ a w1
  refine wp_seq ?_
  refine lChecks11_region p0 l0 s s2 hws hss h ?_
  intro a w1 h
  show Code.wp _ _ _ a w1
  refine wp_seq ?_
  refine lChecks12_region p0 l0 s s2 hws hss h ?_
  intro a w1 h
  show Code.wp _ _ _ a w1
  refine wp_seq ?_
  refine lChecks13a_region p0 l0 s s2  h ?_
  intro a w1 h
  show Code.wp _ _ _ a w1
  refine wp_seq ?_
  refine wp_seq ?_
  refine lChecks14a_region p0 l0 s s2  h ?_
  intro a w1 h
  show Code.wp _ _ _ a w1
  refine wp_block ?_
  have h := h.keep [1, 2, 3, 4, 990, 5, 7, 8, 10, 12, 14, 15, 17, 18, 20, 21, 23, 25, 27, 28, 29]
  refine wp_for (n := 8) (fun kk a w1 => Hold 275 [(1, .sat (oP s p0 l0)), (2, .val (.bool false)), (3, .sat (aB (s2 + 1) (Bl.bs p0 l0))), (4, .sat (aK (Bl.oks p0 l0))), (990, .sat (gP (s2 + 1) none)), (5, .val (.string (Bl.atom p0 l0).1)), (7, .val (.bool ((Bl.atom p0 l0).2.2))), (8, .val (.int .i64 (Bl.int p0 l0).1)), (10, .val (.bool ((Bl.int p0 l0).2.2))), (12, .val (.bool ((Bl.callable p0 l0).2))), (14, .val (.bool ((Bl.atomic p0 l0).2))), (15, .sat (nR (s2 + 1) none ((Bl.list p0 l0).1))), (17, .val (.bool ((Bl.list p0 l0).2.2))), (18, .val (.int .i64 (Bl.char p0 l0).1)), (20, .val (.bool ((Bl.char p0 l0).2.2))), (21, .val (.int .i64 (Bl.code p0 l0).1)), (23, .val (.bool ((Bl.code p0 l0).2.2))), (25, .val (.int .i64 (Bl.ind p0 l0).2.1)), (27, .val (.bool ((Bl.ind p0 l0).2.2.2))), (28, .val (.bool (Tm.validB p0 l0))), (29, .val (.int .i64 ((kk : Nat) : Int)))] w a w1) h ?_ ?_
  · intro kk a w1 hi h
    refine wp_seq ?_
    refine wp_seq ?_
    have hk8 := hi
    refine lChecks15a_region p0 l0 s s2 kk hk8 h ?_
    intro a w1 h
    show Code.wp _ _ _ a w1
    refine env_cond (b := true) rfl h ?_
    refine wp_skip ?_
    have h := h.keep [1, 2, 3, 4, 990, 5, 7, 8, 10, 12, 14, 15, 17, 18, 20, 21, 23, 25, 27, 28, 29]
    show Code.wp _ _ _ a w1
    refine wp_seq ?_
    refine wp_block ?_
    refine wp_seq ?_
    refine lChecks17a_region p0 l0 s s2 kk hk8 h ?_
    intro a w1 h
    show Code.wp _ _ _ a w1
    refine wp_seq ?_
    rcases Bl.all_good p0 l0 kk hk8 with ⟨g1, g2, g3⟩ | ⟨g1, g2, g3⟩ | ⟨g1, g2, g3⟩
    · have gf : (Bl.formal ((Bl.bs p0 l0) kk).1 ((Bl.bs p0 l0) kk).2).2 = false := by rw [g3]; kernel_rfl
      refine lChecks18a_region p0 l0 s s2 kk hk8 gf g1 g2 g3 h ?_
      intro a w1 h
      show Code.wp _ _ _ a w1
      refine env_cond (b := false) rfl h ?_
      refine wp_skip ?_
      have h := h.keep [1, 2, 3, 4, 990, 5, 7, 8, 10, 12, 14, 15, 17, 18, 20, 21, 23, 25, 27, 28, 29]
      show Code.wp _ _ _ a w1
      refine lChecks16a_region p0 l0 s s2 kk hk8 h ?_
      intro a w1 h
      exact h.keep [1, 2, 3, 4, 990, 5, 7, 8, 10, 12, 14, 15, 17, 18, 20, 21, 23, 25, 27, 28, 29]
    · have gf : (Bl.formal ((Bl.bs p0 l0) kk).1 ((Bl.bs p0 l0) kk).2).2 = true := g3
      refine lChecks18b_region p0 l0 s s2 kk hk8 gf g1 g2 h ?_
      intro a w1 h
      show Code.wp _ _ _ a w1
      refine env_cond (b := false) rfl h ?_
      refine wp_skip ?_
      have h := h.keep [1, 2, 3, 4, 990, 5, 7, 8, 10, 12, 14, 15, 17, 18, 20, 21, 23, 25, 27, 28, 29]
      show Code.wp _ _ _ a w1
      refine lChecks16a_region p0 l0 s s2 kk hk8 h ?_
      intro a w1 h
      exact h.keep [1, 2, 3, 4, 990, 5, 7, 8, 10, 12, 14, 15, 17, 18, 20, 21, 23, 25, 27, 28, 29]
    · have gf : (Bl.formal ((Bl.bs p0 l0) kk).1 ((Bl.bs p0 l0) kk).2).2 = false := by rw [g3]; kernel_rfl
      refine lChecks18c_region p0 l0 s s2 kk hk8 gf g1 g2 g3 h ?_
      intro a w1 h
      show Code.wp _ _ _ a w1
      refine env_cond (b := false) rfl h ?_
      refine wp_skip ?_
      have h := h.keep [1, 2, 3, 4, 990, 5, 7, 8, 10, 12, 14, 15, 17, 18, 20, 21, 23, 25, 27, 28, 29]
      show Code.wp _ _ _ a w1
      refine lChecks16a_region p0 l0 s s2 kk hk8 h ?_
      intro a w1 h
      exact h.keep [1, 2, 3, 4, 990, 5, 7, 8, 10, 12, 14, 15, 17, 18, 20, 21, 23, 25, 27, 28, 29]
  · intro a w1 h
    refine wp_seq ?_
    refine wp_seq ?_
    refine lChecks15b_region p0 l0 s s2  h ?_
    intro a w1 h
    show Code.wp _ _ _ a w1
    refine env_cond (b := false) rfl h ?_
    refine wp_exit ?_
    have h := h.keep [1, 2, 3, 990, 5, 7, 8, 10, 12, 14, 15, 17, 18, 20, 21, 23, 25, 27, 28]
    show Code.wp _ _ _ a w1
    refine wp_seq ?_
    refine wp_seq ?_
    refine lChecks20_all p0 l0 s s2  h ?_
    intro a w1 h
    show Code.wp _ _ _ a w1
    refine env_cond (b := false) rfl h ?_
    refine wp_skip ?_
    have h := h.keep [1, 2, 3, 990, 5, 7, 8, 10, 12, 14, 18, 20, 21, 23, 28]
    show Code.wp _ _ _ a w1
    refine wp_seq ?_
    refine wp_seq ?_
    refine lChecks22a_region p0 l0 s s2  h ?_
    intro a w1 h
    rcases Bool.eq_false_or_eq_true (Tm.validB p0 l0) with hv | hv
    · rw [hv] at h
      (try simp only [Bool.not_true, Bool.not_false] at h)
      show Code.wp _ _ _ a w1
      refine env_cond (b := false) rfl h ?_
      refine wp_skip ?_
      have h := h.keep [1, 2, 3, 990, 5, 7, 8, 10, 12, 14, 18, 20, 21, 23]
      show Code.wp _ _ _ a w1
      refine wp_seq ?_
      refine lChecks24a_region p0 l0 s s2  h ?_
      intro a w1 h
      show Code.wp _ _ _ a w1
      refine wp_seq ?_
      refine wp_seq ?_
      by_cases h1 : p0.1 = 0
      · refine lChecks25a_region p0 l0 s s2 h1 h ?_
        intro a w1 h
        show Code.wp _ _ _ a w1
        refine env_cond (b := true) rfl h ?_
        have h := h.keep [1, 2, 3, 990, 5, 7, 8, 10, 12, 14, 18, 20, 21, 23, 32]
        show Code.wp _ _ _ a w1
        refine wp_seq ?_
        refine wp_seq ?_
        refine lChecks26a_region p0 l0 s s2  h ?_
        intro a w1 h
        show Code.wp _ _ _ a w1
        refine wp_block ?_
        have h := h.keep [1, 2, 3, 990, 5, 7, 8, 10, 12, 14, 18, 20, 21, 23, 32, 33]
        refine wp_for (n := 8) (fun jj a w1 => Hold 275 [(1, .sat (oP s p0 l0)), (2, .val (.bool false)), (3, .sat (aB (s2 + 1) (Bl.bs p0 l0))), (990, .sat (gP (s2 + 1) none)), (5, .val (.string (Bl.atom p0 l0).1)), (7, .val (.bool ((Bl.atom p0 l0).2.2))), (8, .val (.int .i64 (Bl.int p0 l0).1)), (10, .val (.bool ((Bl.int p0 l0).2.2))), (12, .val (.bool ((Bl.callable p0 l0).2))), (14, .val (.bool ((Bl.atomic p0 l0).2))), (18, .val (.int .i64 (Bl.char p0 l0).1)), (20, .val (.bool ((Bl.char p0 l0).2.2))), (21, .val (.int .i64 (Bl.code p0 l0).1)), (23, .val (.bool ((Bl.code p0 l0).2.2))), (32, .sat (nP (s2 + 1) none (3, 0, Tm.errName) (.node (2, 0, (⟨#[105, 110, 115, 116, 97, 110, 116, 105, 97, 116, 105, 111, 110, 95, 101, 114, 114, 111, 114]⟩)) .nil (.node Tm.emptyA .nil .nil)))), (33, .val (.int .i64 ((jj : Nat) : Int)))] w a w1) h ?_ ?_
        · intro jj a w1 hi h
          refine wp_seq ?_
          refine wp_seq ?_
          have hk8 := hi
          refine lChecks27a_region p0 l0 s s2 jj hk8 h ?_
          intro a w1 h
          show Code.wp _ _ _ a w1
          refine env_cond (b := true) rfl h ?_
          refine wp_skip ?_
          have h := h.keep [1, 2, 3, 990, 5, 7, 8, 10, 12, 14, 18, 20, 21, 23, 32, 33]
          show Code.wp _ _ _ a w1
          refine wp_seq ?_
          refine wp_block ?_
          refine wp_seq ?_
          refine lChecks29a_region p0 l0 s s2 jj hk8 hv h1 h ?_
          intro a w1 h
          show Code.wp _ _ _ a w1
          refine env_cond (b := false) rfl h ?_
          refine wp_skip ?_
          have h := h.keep [1, 2, 3, 990, 5, 7, 8, 10, 12, 14, 18, 20, 21, 23, 32, 33]
          show Code.wp _ _ _ a w1
          refine lChecks28a_region p0 l0 s s2 jj hk8 h ?_
          intro a w1 h
          exact h.keep [1, 2, 3, 990, 5, 7, 8, 10, 12, 14, 18, 20, 21, 23, 32, 33]
        · intro a w1 h
          refine wp_seq ?_
          refine wp_seq ?_
          refine lChecks27b_region p0 l0 s s2  h ?_
          intro a w1 h
          show Code.wp _ _ _ a w1
          refine env_cond (b := false) rfl h ?_
          refine wp_exit ?_
          have h := h.keep [1, 2, 990, 5, 7, 8, 10, 12, 14, 18, 20, 21, 23]
          show Code.wp _ _ _ a w1
          refine wp_seq ?_
          refine lChecks31a_region p0 l0 s s2  h ?_
          intro a w1 h
          show Code.wp _ _ _ a w1
          refine wp_ret ?_
          (try simp only [then_ret, block_ret])
          exact law_out rfl (h.get 2 rfl) h.defers ⟨rfl, h.world⟩
      · refine lChecks25b_region p0 l0 s s2 h1 h ?_
        intro a w1 h
        show Code.wp _ _ _ a w1
        refine env_cond (b := false) rfl h ?_
        refine wp_skip ?_
        have h := h.keep [1, 2, 990, 5, 7, 8, 10, 12, 14, 18, 20, 21, 23]
        show Code.wp _ _ _ a w1
        refine wp_seq ?_
        refine wp_seq ?_
        rw [Bl.atom_ok2 hv h1, Bl.int_ok2 hv h1, Bl.callable_ok2 hv h1, Bl.atomic_ok2 hv h1] at h
        refine lChecks32a_region p0 l0 s s2  h ?_
        intro a w1 h
        show Code.wp _ _ _ a w1
        refine env_cond (b := false) rfl h ?_
        refine wp_skip ?_
        have h := h.keep [2, 990, 5, 7, 8, 10, 18, 20, 21, 23]
        show Code.wp _ _ _ a w1
        refine wp_seq ?_
        refine wp_seq ?_
        refine lChecks34_all p0 l0 s s2 hv h1 h ?_
        intro a w1 h
        show Code.wp _ _ _ a w1
        refine env_cond (b := false) rfl h ?_
        refine wp_skip ?_
        have h := h.keep [2, 990]
        show Code.wp _ _ _ a w1
        refine wp_seq ?_
        refine lChecks36a_region p0 l0 s s2  h ?_
        intro a w1 h
        show Code.wp _ _ _ a w1
        refine wp_ret ?_
        (try simp only [then_ret, block_ret])
        exact law_out rfl (h.get 2 rfl) h.defers ⟨rfl, h.world⟩
    · rw [hv] at h
      (try simp only [Bool.not_true, Bool.not_false] at h)
      show Code.wp _ _ _ a w1
      refine env_cond (b := true) rfl h ?_
      have h := h.keep [1, 2, 3, 990, 5, 7, 8, 10, 12, 14, 18, 20, 21, 23]
      show Code.wp _ _ _ a w1
      refine wp_seq ?_
      refine lChecks23a_region p0 l0 s s2  h ?_
      intro a w1 h
      show Code.wp _ _ _ a w1
      refine wp_ret ?_
      (try simp only [then_ret, block_ret])
      exact law_out rfl (h.get 2 rfl) h.defers ⟨rfl, h.world⟩
end Go.Proofs.Ytapcnehpechkpaa
