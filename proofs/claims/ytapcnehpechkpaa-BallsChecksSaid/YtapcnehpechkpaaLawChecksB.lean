/-
  Towards BallsChecks: the values of checks that pass.
-/
import Derived.Test.YtapcnehpechkpaaLawChecksA
namespace Go.Proofs.Ytapcnehpechkpaa
set_option linter.unusedVariables false
set_option linter.unusedSimpArgs false
set_option maxRecDepth 100000
open Go.RowKit
theorem lChecks34a_region {Q : Exit → Act → World → Prop} (p0 : Pay) (l0 : Fo) (s : Nat) (s2 : Nat) (b0 : (Bl.atom p0 l0).2.2 = false) (b1 : (Bl.int p0 l0).2.2 = false) (b4 : (Bl.list p0 l0).2.2 = false) (b5 : (Bl.char p0 l0).2.2 = false) (b6 : (Bl.code p0 l0).2.2 = false) (b7 : (Bl.ind p0 l0).2.2.2 = false) (e0 : (p0.1 == 2) = false) (e1 : (p0.1 == 1) = false) {w0 : World} {a : Act} {w : World} (h : Hold 275 [(2, .val (.bool false)), (990, .sat (gP (s2 + 1) none)), (5, .val (.string (Bl.atom p0 l0).1)), (7, .val (.bool ((p0.1) == 2))), (8, .val (.int .i64 (Bl.int p0 l0).1)), (10, .val (.bool ((p0.1) == 1))), (18, .val (.int .i64 (Bl.char p0 l0).1)), (20, .val (.bool ((Bl.char p0 l0).2.2))), (21, .val (.int .i64 (Bl.code p0 l0).1)), (23, .val (.bool ((Bl.code p0 l0).2.2)))] w0 a w)
    (hQ : ∀ a' w', Hold 275 [(2, .val (.bool false)), (990, .sat (gP (s2 + 1) none)), (273, .val (.bool false))] w0 a' w' → Q .normal a' w') : (Code.region 34 lChecks34Ops false).wp Try.prog Q a w := by
  refine region_seq (w0 := w) 40 (by kernel_rfl) ?_
  rw [show List.range 40 = [0, 1, 2, 3, 4, 5, 6, 7, 8, 9, 10, 11, 12, 13, 14, 15, 16, 17, 18, 19, 20, 21, 22, 23, 24, 25, 26, 27, 28, 29, 30, 31, 32, 33, 34, 35, 36, 37, 38, 39] from rfl]
  refine env_one (i := 0) (d := 234) (k := .val (.bool false)) (step_move (by kernel_rfl) (Opd.of_base 20 rfl) (by rw [b5]; rfl)) (by kernel_rfl) (by decide) h ?_
  clear h
  intro a w h
  refine env_one (i := 1) (d := 235) (k := .val (.bool false)) (step_move (by kernel_rfl) (Opd.of_base 7 rfl) (by rw [e0]; rfl)) (by kernel_rfl) (by decide) h ?_
  clear h
  intro a w h
  refine env_one (i := 2) (d := 236) (k := .val (.bool false)) (step_move (by kernel_rfl) (Opd.of_base 235 rfl) rfl) (by kernel_rfl) (by decide) h ?_
  clear h
  intro a w h
  refine env_skip (i := 3) (d := 237) (g := 2) (dg := 236) (b := true) (by kernel_rfl) (by decide) (by kernel_rfl) rfl rfl h ?_
  clear h
  intro a w h
  refine env_skip (i := 4) (d := 238) (g := 2) (dg := 236) (b := true) (by kernel_rfl) (by decide) (by kernel_rfl) rfl rfl h ?_
  clear h
  intro a w h
  refine env_skip (i := 5) (d := 239) (g := 2) (dg := 236) (b := true) (by kernel_rfl) (by decide) (by kernel_rfl) rfl rfl h ?_
  clear h
  intro a w h
  refine env_one (i := 6) (d := 240) (k := .val (.bool false)) (step_pick_no (x := .tmp 239) (by kernel_rfl) (Opd.of_base 236 rfl) (Opd.const _) rfl) (by kernel_rfl) (by decide) h ?_
  clear h
  intro a w h
  refine env_one (i := 7) (d := 241) (k := .val (.bool false)) (step_ne_bool (by kernel_rfl) (Opd.of_base 234 rfl) (Opd.of_base 240 rfl) (by simp) rfl) (by kernel_rfl) (by decide) h ?_
  clear h
  intro a w h
  refine env_one (i := 8) (d := 242) (k := .val (.bool false)) (step_move (by kernel_rfl) (Opd.of_base 241 rfl) rfl) (by kernel_rfl) (by decide) h ?_
  clear h
  intro a w h
  refine env_guard (i := 9) (d := 243) (g := 8) (dg := 242) (b := false) (k := .val (.bool false)) (step_move (by kernel_rfl) (Opd.of_base 23 rfl) (by rw [b6]; rfl)) (by kernel_rfl) (by decide) (by kernel_rfl) (by decide) rfl h ?_
  clear h
  intro a w h
  refine env_guard (i := 10) (d := 244) (g := 8) (dg := 242) (b := false) (k := .val (.bool false)) (step_move (by kernel_rfl) (Opd.of_base 10 rfl) (by rw [e1]; rfl)) (by kernel_rfl) (by decide) (by kernel_rfl) (by decide) rfl h ?_
  clear h
  intro a w h
  refine env_guard (i := 11) (d := 245) (g := 8) (dg := 242) (b := false) (k := .val (.bool false)) (step_move (by kernel_rfl) (Opd.of_base 244 rfl) rfl) (by kernel_rfl) (by decide) (by kernel_rfl) (by decide) rfl h ?_
  clear h
  intro a w h
  refine env_skip (i := 12) (d := 246) (g := 11) (dg := 245) (b := true) (by kernel_rfl) (by decide) (by kernel_rfl) rfl rfl h ?_
  clear h
  intro a w h
  refine env_skip (i := 13) (d := 247) (g := 11) (dg := 245) (b := true) (by kernel_rfl) (by decide) (by kernel_rfl) rfl rfl h ?_
  clear h
  intro a w h
  refine env_guard (i := 14) (d := 248) (g := 8) (dg := 242) (b := false) (k := .val (.bool false)) (step_pick_no (x := .tmp 247) (by kernel_rfl) (Opd.of_base 245 rfl) (Opd.const _) rfl) (by kernel_rfl) (by decide) (by kernel_rfl) (by decide) rfl h ?_
  clear h
  intro a w h
  refine env_guard (i := 15) (d := 249) (g := 8) (dg := 242) (b := false) (k := .val (.bool false)) (step_move (by kernel_rfl) (Opd.of_base 248 rfl) rfl) (by kernel_rfl) (by decide) (by kernel_rfl) (by decide) rfl h ?_
  clear h
  intro a w h
  refine env_skip (i := 16) (d := 250) (g := 15) (dg := 249) (b := true) (by kernel_rfl) (by decide) (by kernel_rfl) rfl rfl h ?_
  clear h
  intro a w h
  refine env_skip (i := 17) (d := 251) (g := 15) (dg := 249) (b := true) (by kernel_rfl) (by decide) (by kernel_rfl) rfl rfl h ?_
  clear h
  intro a w h
  refine env_guard (i := 18) (d := 252) (g := 8) (dg := 242) (b := false) (k := .val (.bool false)) (step_pick_no (x := .tmp 251) (by kernel_rfl) (Opd.of_base 249 rfl) (Opd.const _) rfl) (by kernel_rfl) (by decide) (by kernel_rfl) (by decide) rfl h ?_
  clear h
  intro a w h
  refine env_guard (i := 19) (d := 253) (g := 8) (dg := 242) (b := false) (k := .val (.bool false)) (step_ne_bool (by kernel_rfl) (Opd.of_base 243 rfl) (Opd.of_base 252 rfl) (by simp) rfl) (by kernel_rfl) (by decide) (by kernel_rfl) (by decide) rfl h ?_
  clear h
  intro a w h
  refine env_one (i := 20) (d := 254) (k := .val (.bool false)) (step_pick_no (x := .const (.bool true)) (by kernel_rfl) (Opd.of_base 242 rfl) (Opd.of_base 253 rfl) rfl) (by kernel_rfl) (by decide) h ?_
  clear h
  intro a w h
  refine env_one (i := 21) (d := 255) (k := .val (.bool false)) (step_move (by kernel_rfl) (Opd.of_base 254 rfl) rfl) (by kernel_rfl) (by decide) h ?_
  clear h
  intro a w h
  refine env_guard (i := 22) (d := 256) (g := 21) (dg := 255) (b := false) (k := .val (.bool false)) (step_move (by kernel_rfl) (Opd.of_base 23 rfl) (by rw [b6]; rfl)) (by kernel_rfl) (by decide) (by kernel_rfl) (by decide) rfl h ?_
  clear h
  intro a w h
  refine env_guard (i := 23) (d := 257) (g := 21) (dg := 255) (b := false) (k := .val (.bool false)) (step_move (by kernel_rfl) (Opd.of_base 256 rfl) rfl) (by kernel_rfl) (by decide) (by kernel_rfl) (by decide) rfl h ?_
  clear h
  intro a w h
  refine env_skip (i := 24) (d := 258) (g := 23) (dg := 257) (b := true) (by kernel_rfl) (by decide) (by kernel_rfl) rfl rfl h ?_
  clear h
  intro a w h
  refine env_skip (i := 25) (d := 259) (g := 23) (dg := 257) (b := true) (by kernel_rfl) (by decide) (by kernel_rfl) rfl rfl h ?_
  clear h
  intro a w h
  refine env_skip (i := 26) (d := 260) (g := 23) (dg := 257) (b := true) (by kernel_rfl) (by decide) (by kernel_rfl) rfl rfl h ?_
  clear h
  intro a w h
  refine env_guard (i := 27) (d := 261) (g := 21) (dg := 255) (b := false) (k := .val (.bool false)) (step_pick_no (x := .tmp 260) (by kernel_rfl) (Opd.of_base 257 rfl) (Opd.const _) rfl) (by kernel_rfl) (by decide) (by kernel_rfl) (by decide) rfl h ?_
  clear h
  intro a w h
  refine env_one (i := 28) (d := 262) (k := .val (.bool false)) (step_pick_no (x := .const (.bool true)) (by kernel_rfl) (Opd.of_base 255 rfl) (Opd.of_base 261 rfl) rfl) (by kernel_rfl) (by decide) h ?_
  clear h
  intro a w h
  refine env_one (i := 29) (d := 263) (k := .val (.bool false)) (step_move (by kernel_rfl) (Opd.of_base 262 rfl) rfl) (by kernel_rfl) (by decide) h ?_
  clear h
  intro a w h
  refine env_guard (i := 30) (d := 264) (g := 29) (dg := 263) (b := false) (k := .val (.bool false)) (step_move (by kernel_rfl) (Opd.of_base 20 rfl) (by rw [b5]; rfl)) (by kernel_rfl) (by decide) (by kernel_rfl) (by decide) rfl h ?_
  clear h
  intro a w h
  refine env_guard (i := 31) (d := 265) (g := 29) (dg := 263) (b := false) (k := .val (.bool false)) (step_move (by kernel_rfl) (Opd.of_base 264 rfl) rfl) (by kernel_rfl) (by decide) (by kernel_rfl) (by decide) rfl h ?_
  clear h
  intro a w h
  refine env_skip (i := 32) (d := 266) (g := 31) (dg := 265) (b := true) (by kernel_rfl) (by decide) (by kernel_rfl) rfl rfl h ?_
  clear h
  intro a w h
  refine env_skip (i := 33) (d := 267) (g := 31) (dg := 265) (b := true) (by kernel_rfl) (by decide) (by kernel_rfl) rfl rfl h ?_
  clear h
  intro a w h
  refine env_skip (i := 34) (d := 268) (g := 31) (dg := 265) (b := true) (by kernel_rfl) (by decide) (by kernel_rfl) rfl rfl h ?_
  clear h
  intro a w h
  refine env_skip (i := 35) (d := 269) (g := 31) (dg := 265) (b := true) (by kernel_rfl) (by decide) (by kernel_rfl) rfl rfl h ?_
  clear h
  intro a w h
  refine env_skip (i := 36) (d := 270) (g := 31) (dg := 265) (b := true) (by kernel_rfl) (by decide) (by kernel_rfl) rfl rfl h ?_
  clear h
  intro a w h
  refine env_skip (i := 37) (d := 271) (g := 31) (dg := 265) (b := true) (by kernel_rfl) (by decide) (by kernel_rfl) rfl rfl h ?_
  clear h
  intro a w h
  refine env_guard (i := 38) (d := 272) (g := 29) (dg := 263) (b := false) (k := .val (.bool false)) (step_pick_no (x := .tmp 271) (by kernel_rfl) (Opd.of_base 265 rfl) (Opd.const _) rfl) (by kernel_rfl) (by decide) (by kernel_rfl) (by decide) rfl h ?_
  clear h
  intro a w h
  refine env_one (i := 39) (d := 273) (k := .val (.bool false)) (step_pick_no (x := .const (.bool true)) (by kernel_rfl) (Opd.of_base 263 rfl) (Opd.of_base 272 rfl) rfl) (by kernel_rfl) (by decide) h ?_
  clear h
  intro a w h
  exact hQ a w (h.keep [2, 990, 273])
theorem lChecks34b_region {Q : Exit → Act → World → Prop} (p0 : Pay) (l0 : Fo) (s : Nat) (s2 : Nat) (b0 : (Bl.atom p0 l0).2.2 = false) (b1 : (Bl.int p0 l0).2.2 = false) (b4 : (Bl.list p0 l0).2.2 = false) (b5 : (Bl.char p0 l0).2.2 = false) (b6 : (Bl.code p0 l0).2.2 = false) (b7 : (Bl.ind p0 l0).2.2.2 = true) (e0 : (p0.1 == 2) = false) (e1 : (p0.1 == 1) = false) {w0 : World} {a : Act} {w : World} (h : Hold 275 [(2, .val (.bool false)), (990, .sat (gP (s2 + 1) none)), (5, .val (.string (Bl.atom p0 l0).1)), (7, .val (.bool ((p0.1) == 2))), (8, .val (.int .i64 (Bl.int p0 l0).1)), (10, .val (.bool ((p0.1) == 1))), (18, .val (.int .i64 (Bl.char p0 l0).1)), (20, .val (.bool ((Bl.char p0 l0).2.2))), (21, .val (.int .i64 (Bl.code p0 l0).1)), (23, .val (.bool ((Bl.code p0 l0).2.2)))] w0 a w)
    (hQ : ∀ a' w', Hold 275 [(2, .val (.bool false)), (990, .sat (gP (s2 + 1) none)), (273, .val (.bool false))] w0 a' w' → Q .normal a' w') : (Code.region 34 lChecks34Ops false).wp Try.prog Q a w := by
  refine region_seq (w0 := w) 40 (by kernel_rfl) ?_
  rw [show List.range 40 = [0, 1, 2, 3, 4, 5, 6, 7, 8, 9, 10, 11, 12, 13, 14, 15, 16, 17, 18, 19, 20, 21, 22, 23, 24, 25, 26, 27, 28, 29, 30, 31, 32, 33, 34, 35, 36, 37, 38, 39] from rfl]
  refine env_one (i := 0) (d := 234) (k := .val (.bool false)) (step_move (by kernel_rfl) (Opd.of_base 20 rfl) (by rw [b5]; rfl)) (by kernel_rfl) (by decide) h ?_
  clear h
  intro a w h
  refine env_one (i := 1) (d := 235) (k := .val (.bool false)) (step_move (by kernel_rfl) (Opd.of_base 7 rfl) (by rw [e0]; rfl)) (by kernel_rfl) (by decide) h ?_
  clear h
  intro a w h
  refine env_one (i := 2) (d := 236) (k := .val (.bool false)) (step_move (by kernel_rfl) (Opd.of_base 235 rfl) rfl) (by kernel_rfl) (by decide) h ?_
  clear h
  intro a w h
  refine env_skip (i := 3) (d := 237) (g := 2) (dg := 236) (b := true) (by kernel_rfl) (by decide) (by kernel_rfl) rfl rfl h ?_
  clear h
  intro a w h
  refine env_skip (i := 4) (d := 238) (g := 2) (dg := 236) (b := true) (by kernel_rfl) (by decide) (by kernel_rfl) rfl rfl h ?_
  clear h
  intro a w h
  refine env_skip (i := 5) (d := 239) (g := 2) (dg := 236) (b := true) (by kernel_rfl) (by decide) (by kernel_rfl) rfl rfl h ?_
  clear h
  intro a w h
  refine env_one (i := 6) (d := 240) (k := .val (.bool false)) (step_pick_no (x := .tmp 239) (by kernel_rfl) (Opd.of_base 236 rfl) (Opd.const _) rfl) (by kernel_rfl) (by decide) h ?_
  clear h
  intro a w h
  refine env_one (i := 7) (d := 241) (k := .val (.bool false)) (step_ne_bool (by kernel_rfl) (Opd.of_base 234 rfl) (Opd.of_base 240 rfl) (by simp) rfl) (by kernel_rfl) (by decide) h ?_
  clear h
  intro a w h
  refine env_one (i := 8) (d := 242) (k := .val (.bool false)) (step_move (by kernel_rfl) (Opd.of_base 241 rfl) rfl) (by kernel_rfl) (by decide) h ?_
  clear h
  intro a w h
  refine env_guard (i := 9) (d := 243) (g := 8) (dg := 242) (b := false) (k := .val (.bool false)) (step_move (by kernel_rfl) (Opd.of_base 23 rfl) (by rw [b6]; rfl)) (by kernel_rfl) (by decide) (by kernel_rfl) (by decide) rfl h ?_
  clear h
  intro a w h
  refine env_guard (i := 10) (d := 244) (g := 8) (dg := 242) (b := false) (k := .val (.bool false)) (step_move (by kernel_rfl) (Opd.of_base 10 rfl) (by rw [e1]; rfl)) (by kernel_rfl) (by decide) (by kernel_rfl) (by decide) rfl h ?_
  clear h
  intro a w h
  refine env_guard (i := 11) (d := 245) (g := 8) (dg := 242) (b := false) (k := .val (.bool false)) (step_move (by kernel_rfl) (Opd.of_base 244 rfl) rfl) (by kernel_rfl) (by decide) (by kernel_rfl) (by decide) rfl h ?_
  clear h
  intro a w h
  refine env_skip (i := 12) (d := 246) (g := 11) (dg := 245) (b := true) (by kernel_rfl) (by decide) (by kernel_rfl) rfl rfl h ?_
  clear h
  intro a w h
  refine env_skip (i := 13) (d := 247) (g := 11) (dg := 245) (b := true) (by kernel_rfl) (by decide) (by kernel_rfl) rfl rfl h ?_
  clear h
  intro a w h
  refine env_guard (i := 14) (d := 248) (g := 8) (dg := 242) (b := false) (k := .val (.bool false)) (step_pick_no (x := .tmp 247) (by kernel_rfl) (Opd.of_base 245 rfl) (Opd.const _) rfl) (by kernel_rfl) (by decide) (by kernel_rfl) (by decide) rfl h ?_
  clear h
  intro a w h
  refine env_guard (i := 15) (d := 249) (g := 8) (dg := 242) (b := false) (k := .val (.bool false)) (step_move (by kernel_rfl) (Opd.of_base 248 rfl) rfl) (by kernel_rfl) (by decide) (by kernel_rfl) (by decide) rfl h ?_
  clear h
  intro a w h
  refine env_skip (i := 16) (d := 250) (g := 15) (dg := 249) (b := true) (by kernel_rfl) (by decide) (by kernel_rfl) rfl rfl h ?_
  clear h
  intro a w h
  refine env_skip (i := 17) (d := 251) (g := 15) (dg := 249) (b := true) (by kernel_rfl) (by decide) (by kernel_rfl) rfl rfl h ?_
  clear h
  intro a w h
  refine env_guard (i := 18) (d := 252) (g := 8) (dg := 242) (b := false) (k := .val (.bool false)) (step_pick_no (x := .tmp 251) (by kernel_rfl) (Opd.of_base 249 rfl) (Opd.const _) rfl) (by kernel_rfl) (by decide) (by kernel_rfl) (by decide) rfl h ?_
  clear h
  intro a w h
  refine env_guard (i := 19) (d := 253) (g := 8) (dg := 242) (b := false) (k := .val (.bool false)) (step_ne_bool (by kernel_rfl) (Opd.of_base 243 rfl) (Opd.of_base 252 rfl) (by simp) rfl) (by kernel_rfl) (by decide) (by kernel_rfl) (by decide) rfl h ?_
  clear h
  intro a w h
  refine env_one (i := 20) (d := 254) (k := .val (.bool false)) (step_pick_no (x := .const (.bool true)) (by kernel_rfl) (Opd.of_base 242 rfl) (Opd.of_base 253 rfl) rfl) (by kernel_rfl) (by decide) h ?_
  clear h
  intro a w h
  refine env_one (i := 21) (d := 255) (k := .val (.bool false)) (step_move (by kernel_rfl) (Opd.of_base 254 rfl) rfl) (by kernel_rfl) (by decide) h ?_
  clear h
  intro a w h
  refine env_guard (i := 22) (d := 256) (g := 21) (dg := 255) (b := false) (k := .val (.bool false)) (step_move (by kernel_rfl) (Opd.of_base 23 rfl) (by rw [b6]; rfl)) (by kernel_rfl) (by decide) (by kernel_rfl) (by decide) rfl h ?_
  clear h
  intro a w h
  refine env_guard (i := 23) (d := 257) (g := 21) (dg := 255) (b := false) (k := .val (.bool false)) (step_move (by kernel_rfl) (Opd.of_base 256 rfl) rfl) (by kernel_rfl) (by decide) (by kernel_rfl) (by decide) rfl h ?_
  clear h
  intro a w h
  refine env_skip (i := 24) (d := 258) (g := 23) (dg := 257) (b := true) (by kernel_rfl) (by decide) (by kernel_rfl) rfl rfl h ?_
  clear h
  intro a w h
  refine env_skip (i := 25) (d := 259) (g := 23) (dg := 257) (b := true) (by kernel_rfl) (by decide) (by kernel_rfl) rfl rfl h ?_
  clear h
  intro a w h
  refine env_skip (i := 26) (d := 260) (g := 23) (dg := 257) (b := true) (by kernel_rfl) (by decide) (by kernel_rfl) rfl rfl h ?_
  clear h
  intro a w h
  refine env_guard (i := 27) (d := 261) (g := 21) (dg := 255) (b := false) (k := .val (.bool false)) (step_pick_no (x := .tmp 260) (by kernel_rfl) (Opd.of_base 257 rfl) (Opd.const _) rfl) (by kernel_rfl) (by decide) (by kernel_rfl) (by decide) rfl h ?_
  clear h
  intro a w h
  refine env_one (i := 28) (d := 262) (k := .val (.bool false)) (step_pick_no (x := .const (.bool true)) (by kernel_rfl) (Opd.of_base 255 rfl) (Opd.of_base 261 rfl) rfl) (by kernel_rfl) (by decide) h ?_
  clear h
  intro a w h
  refine env_one (i := 29) (d := 263) (k := .val (.bool false)) (step_move (by kernel_rfl) (Opd.of_base 262 rfl) rfl) (by kernel_rfl) (by decide) h ?_
  clear h
  intro a w h
  refine env_guard (i := 30) (d := 264) (g := 29) (dg := 263) (b := false) (k := .val (.bool false)) (step_move (by kernel_rfl) (Opd.of_base 20 rfl) (by rw [b5]; rfl)) (by kernel_rfl) (by decide) (by kernel_rfl) (by decide) rfl h ?_
  clear h
  intro a w h
  refine env_guard (i := 31) (d := 265) (g := 29) (dg := 263) (b := false) (k := .val (.bool false)) (step_move (by kernel_rfl) (Opd.of_base 264 rfl) rfl) (by kernel_rfl) (by decide) (by kernel_rfl) (by decide) rfl h ?_
  clear h
  intro a w h
  refine env_skip (i := 32) (d := 266) (g := 31) (dg := 265) (b := true) (by kernel_rfl) (by decide) (by kernel_rfl) rfl rfl h ?_
  clear h
  intro a w h
  refine env_skip (i := 33) (d := 267) (g := 31) (dg := 265) (b := true) (by kernel_rfl) (by decide) (by kernel_rfl) rfl rfl h ?_
  clear h
  intro a w h
  refine env_skip (i := 34) (d := 268) (g := 31) (dg := 265) (b := true) (by kernel_rfl) (by decide) (by kernel_rfl) rfl rfl h ?_
  clear h
  intro a w h
  refine env_skip (i := 35) (d := 269) (g := 31) (dg := 265) (b := true) (by kernel_rfl) (by decide) (by kernel_rfl) rfl rfl h ?_
  clear h
  intro a w h
  refine env_skip (i := 36) (d := 270) (g := 31) (dg := 265) (b := true) (by kernel_rfl) (by decide) (by kernel_rfl) rfl rfl h ?_
  clear h
  intro a w h
  refine env_skip (i := 37) (d := 271) (g := 31) (dg := 265) (b := true) (by kernel_rfl) (by decide) (by kernel_rfl) rfl rfl h ?_
  clear h
  intro a w h
  refine env_guard (i := 38) (d := 272) (g := 29) (dg := 263) (b := false) (k := .val (.bool false)) (step_pick_no (x := .tmp 271) (by kernel_rfl) (Opd.of_base 265 rfl) (Opd.const _) rfl) (by kernel_rfl) (by decide) (by kernel_rfl) (by decide) rfl h ?_
  clear h
  intro a w h
  refine env_one (i := 39) (d := 273) (k := .val (.bool false)) (step_pick_no (x := .const (.bool true)) (by kernel_rfl) (Opd.of_base 263 rfl) (Opd.of_base 272 rfl) rfl) (by kernel_rfl) (by decide) h ?_
  clear h
  intro a w h
  exact hQ a w (h.keep [2, 990, 273])
theorem lChecks34c_region {Q : Exit → Act → World → Prop} (p0 : Pay) (l0 : Fo) (s : Nat) (s2 : Nat) (b0 : (Bl.atom p0 l0).2.2 = false) (b1 : (Bl.int p0 l0).2.2 = false) (b4 : (Bl.list p0 l0).2.2 = true) (b5 : (Bl.char p0 l0).2.2 = false) (b6 : (Bl.code p0 l0).2.2 = false) (b7 : (Bl.ind p0 l0).2.2.2 = false) (e0 : (p0.1 == 2) = false) (e1 : (p0.1 == 1) = false) {w0 : World} {a : Act} {w : World} (h : Hold 275 [(2, .val (.bool false)), (990, .sat (gP (s2 + 1) none)), (5, .val (.string (Bl.atom p0 l0).1)), (7, .val (.bool ((p0.1) == 2))), (8, .val (.int .i64 (Bl.int p0 l0).1)), (10, .val (.bool ((p0.1) == 1))), (18, .val (.int .i64 (Bl.char p0 l0).1)), (20, .val (.bool ((Bl.char p0 l0).2.2))), (21, .val (.int .i64 (Bl.code p0 l0).1)), (23, .val (.bool ((Bl.code p0 l0).2.2)))] w0 a w)
    (hQ : ∀ a' w', Hold 275 [(2, .val (.bool false)), (990, .sat (gP (s2 + 1) none)), (273, .val (.bool false))] w0 a' w' → Q .normal a' w') : (Code.region 34 lChecks34Ops false).wp Try.prog Q a w := by
  refine region_seq (w0 := w) 40 (by kernel_rfl) ?_
  rw [show List.range 40 = [0, 1, 2, 3, 4, 5, 6, 7, 8, 9, 10, 11, 12, 13, 14, 15, 16, 17, 18, 19, 20, 21, 22, 23, 24, 25, 26, 27, 28, 29, 30, 31, 32, 33, 34, 35, 36, 37, 38, 39] from rfl]
  refine env_one (i := 0) (d := 234) (k := .val (.bool false)) (step_move (by kernel_rfl) (Opd.of_base 20 rfl) (by rw [b5]; rfl)) (by kernel_rfl) (by decide) h ?_
  clear h
  intro a w h
  refine env_one (i := 1) (d := 235) (k := .val (.bool false)) (step_move (by kernel_rfl) (Opd.of_base 7 rfl) (by rw [e0]; rfl)) (by kernel_rfl) (by decide) h ?_
  clear h
  intro a w h
  refine env_one (i := 2) (d := 236) (k := .val (.bool false)) (step_move (by kernel_rfl) (Opd.of_base 235 rfl) rfl) (by kernel_rfl) (by decide) h ?_
  clear h
  intro a w h
  refine env_skip (i := 3) (d := 237) (g := 2) (dg := 236) (b := true) (by kernel_rfl) (by decide) (by kernel_rfl) rfl rfl h ?_
  clear h
  intro a w h
  refine env_skip (i := 4) (d := 238) (g := 2) (dg := 236) (b := true) (by kernel_rfl) (by decide) (by kernel_rfl) rfl rfl h ?_
  clear h
  intro a w h
  refine env_skip (i := 5) (d := 239) (g := 2) (dg := 236) (b := true) (by kernel_rfl) (by decide) (by kernel_rfl) rfl rfl h ?_
  clear h
  intro a w h
  refine env_one (i := 6) (d := 240) (k := .val (.bool false)) (step_pick_no (x := .tmp 239) (by kernel_rfl) (Opd.of_base 236 rfl) (Opd.const _) rfl) (by kernel_rfl) (by decide) h ?_
  clear h
  intro a w h
  refine env_one (i := 7) (d := 241) (k := .val (.bool false)) (step_ne_bool (by kernel_rfl) (Opd.of_base 234 rfl) (Opd.of_base 240 rfl) (by simp) rfl) (by kernel_rfl) (by decide) h ?_
  clear h
  intro a w h
  refine env_one (i := 8) (d := 242) (k := .val (.bool false)) (step_move (by kernel_rfl) (Opd.of_base 241 rfl) rfl) (by kernel_rfl) (by decide) h ?_
  clear h
  intro a w h
  refine env_guard (i := 9) (d := 243) (g := 8) (dg := 242) (b := false) (k := .val (.bool false)) (step_move (by kernel_rfl) (Opd.of_base 23 rfl) (by rw [b6]; rfl)) (by kernel_rfl) (by decide) (by kernel_rfl) (by decide) rfl h ?_
  clear h
  intro a w h
  refine env_guard (i := 10) (d := 244) (g := 8) (dg := 242) (b := false) (k := .val (.bool false)) (step_move (by kernel_rfl) (Opd.of_base 10 rfl) (by rw [e1]; rfl)) (by kernel_rfl) (by decide) (by kernel_rfl) (by decide) rfl h ?_
  clear h
  intro a w h
  refine env_guard (i := 11) (d := 245) (g := 8) (dg := 242) (b := false) (k := .val (.bool false)) (step_move (by kernel_rfl) (Opd.of_base 244 rfl) rfl) (by kernel_rfl) (by decide) (by kernel_rfl) (by decide) rfl h ?_
  clear h
  intro a w h
  refine env_skip (i := 12) (d := 246) (g := 11) (dg := 245) (b := true) (by kernel_rfl) (by decide) (by kernel_rfl) rfl rfl h ?_
  clear h
  intro a w h
  refine env_skip (i := 13) (d := 247) (g := 11) (dg := 245) (b := true) (by kernel_rfl) (by decide) (by kernel_rfl) rfl rfl h ?_
  clear h
  intro a w h
  refine env_guard (i := 14) (d := 248) (g := 8) (dg := 242) (b := false) (k := .val (.bool false)) (step_pick_no (x := .tmp 247) (by kernel_rfl) (Opd.of_base 245 rfl) (Opd.const _) rfl) (by kernel_rfl) (by decide) (by kernel_rfl) (by decide) rfl h ?_
  clear h
  intro a w h
  refine env_guard (i := 15) (d := 249) (g := 8) (dg := 242) (b := false) (k := .val (.bool false)) (step_move (by kernel_rfl) (Opd.of_base 248 rfl) rfl) (by kernel_rfl) (by decide) (by kernel_rfl) (by decide) rfl h ?_
  clear h
  intro a w h
  refine env_skip (i := 16) (d := 250) (g := 15) (dg := 249) (b := true) (by kernel_rfl) (by decide) (by kernel_rfl) rfl rfl h ?_
  clear h
  intro a w h
  refine env_skip (i := 17) (d := 251) (g := 15) (dg := 249) (b := true) (by kernel_rfl) (by decide) (by kernel_rfl) rfl rfl h ?_
  clear h
  intro a w h
  refine env_guard (i := 18) (d := 252) (g := 8) (dg := 242) (b := false) (k := .val (.bool false)) (step_pick_no (x := .tmp 251) (by kernel_rfl) (Opd.of_base 249 rfl) (Opd.const _) rfl) (by kernel_rfl) (by decide) (by kernel_rfl) (by decide) rfl h ?_
  clear h
  intro a w h
  refine env_guard (i := 19) (d := 253) (g := 8) (dg := 242) (b := false) (k := .val (.bool false)) (step_ne_bool (by kernel_rfl) (Opd.of_base 243 rfl) (Opd.of_base 252 rfl) (by simp) rfl) (by kernel_rfl) (by decide) (by kernel_rfl) (by decide) rfl h ?_
  clear h
  intro a w h
  refine env_one (i := 20) (d := 254) (k := .val (.bool false)) (step_pick_no (x := .const (.bool true)) (by kernel_rfl) (Opd.of_base 242 rfl) (Opd.of_base 253 rfl) rfl) (by kernel_rfl) (by decide) h ?_
  clear h
  intro a w h
  refine env_one (i := 21) (d := 255) (k := .val (.bool false)) (step_move (by kernel_rfl) (Opd.of_base 254 rfl) rfl) (by kernel_rfl) (by decide) h ?_
  clear h
  intro a w h
  refine env_guard (i := 22) (d := 256) (g := 21) (dg := 255) (b := false) (k := .val (.bool false)) (step_move (by kernel_rfl) (Opd.of_base 23 rfl) (by rw [b6]; rfl)) (by kernel_rfl) (by decide) (by kernel_rfl) (by decide) rfl h ?_
  clear h
  intro a w h
  refine env_guard (i := 23) (d := 257) (g := 21) (dg := 255) (b := false) (k := .val (.bool false)) (step_move (by kernel_rfl) (Opd.of_base 256 rfl) rfl) (by kernel_rfl) (by decide) (by kernel_rfl) (by decide) rfl h ?_
  clear h
  intro a w h
  refine env_skip (i := 24) (d := 258) (g := 23) (dg := 257) (b := true) (by kernel_rfl) (by decide) (by kernel_rfl) rfl rfl h ?_
  clear h
  intro a w h
  refine env_skip (i := 25) (d := 259) (g := 23) (dg := 257) (b := true) (by kernel_rfl) (by decide) (by kernel_rfl) rfl rfl h ?_
  clear h
  intro a w h
  refine env_skip (i := 26) (d := 260) (g := 23) (dg := 257) (b := true) (by kernel_rfl) (by decide) (by kernel_rfl) rfl rfl h ?_
  clear h
  intro a w h
  refine env_guard (i := 27) (d := 261) (g := 21) (dg := 255) (b := false) (k := .val (.bool false)) (step_pick_no (x := .tmp 260) (by kernel_rfl) (Opd.of_base 257 rfl) (Opd.const _) rfl) (by kernel_rfl) (by decide) (by kernel_rfl) (by decide) rfl h ?_
  clear h
  intro a w h
  refine env_one (i := 28) (d := 262) (k := .val (.bool false)) (step_pick_no (x := .const (.bool true)) (by kernel_rfl) (Opd.of_base 255 rfl) (Opd.of_base 261 rfl) rfl) (by kernel_rfl) (by decide) h ?_
  clear h
  intro a w h
  refine env_one (i := 29) (d := 263) (k := .val (.bool false)) (step_move (by kernel_rfl) (Opd.of_base 262 rfl) rfl) (by kernel_rfl) (by decide) h ?_
  clear h
  intro a w h
  refine env_guard (i := 30) (d := 264) (g := 29) (dg := 263) (b := false) (k := .val (.bool false)) (step_move (by kernel_rfl) (Opd.of_base 20 rfl) (by rw [b5]; rfl)) (by kernel_rfl) (by decide) (by kernel_rfl) (by decide) rfl h ?_
  clear h
  intro a w h
  refine env_guard (i := 31) (d := 265) (g := 29) (dg := 263) (b := false) (k := .val (.bool false)) (step_move (by kernel_rfl) (Opd.of_base 264 rfl) rfl) (by kernel_rfl) (by decide) (by kernel_rfl) (by decide) rfl h ?_
  clear h
  intro a w h
  refine env_skip (i := 32) (d := 266) (g := 31) (dg := 265) (b := true) (by kernel_rfl) (by decide) (by kernel_rfl) rfl rfl h ?_
  clear h
  intro a w h
  refine env_skip (i := 33) (d := 267) (g := 31) (dg := 265) (b := true) (by kernel_rfl) (by decide) (by kernel_rfl) rfl rfl h ?_
  clear h
  intro a w h
  refine env_skip (i := 34) (d := 268) (g := 31) (dg := 265) (b := true) (by kernel_rfl) (by decide) (by kernel_rfl) rfl rfl h ?_
  clear h
  intro a w h
  refine env_skip (i := 35) (d := 269) (g := 31) (dg := 265) (b := true) (by kernel_rfl) (by decide) (by kernel_rfl) rfl rfl h ?_
  clear h
  intro a w h
  refine env_skip (i := 36) (d := 270) (g := 31) (dg := 265) (b := true) (by kernel_rfl) (by decide) (by kernel_rfl) rfl rfl h ?_
  clear h
  intro a w h
  refine env_skip (i := 37) (d := 271) (g := 31) (dg := 265) (b := true) (by kernel_rfl) (by decide) (by kernel_rfl) rfl rfl h ?_
  clear h
  intro a w h
  refine env_guard (i := 38) (d := 272) (g := 29) (dg := 263) (b := false) (k := .val (.bool false)) (step_pick_no (x := .tmp 271) (by kernel_rfl) (Opd.of_base 265 rfl) (Opd.const _) rfl) (by kernel_rfl) (by decide) (by kernel_rfl) (by decide) rfl h ?_
  clear h
  intro a w h
  refine env_one (i := 39) (d := 273) (k := .val (.bool false)) (step_pick_no (x := .const (.bool true)) (by kernel_rfl) (Opd.of_base 263 rfl) (Opd.of_base 272 rfl) rfl) (by kernel_rfl) (by decide) h ?_
  clear h
  intro a w h
  exact hQ a w (h.keep [2, 990, 273])
theorem lChecks34d_region {Q : Exit → Act → World → Prop} (p0 : Pay) (l0 : Fo) (s : Nat) (s2 : Nat) (b0 : (Bl.atom p0 l0).2.2 = false) (b1 : (Bl.int p0 l0).2.2 = false) (b4 : (Bl.list p0 l0).2.2 = true) (b5 : (Bl.char p0 l0).2.2 = false) (b6 : (Bl.code p0 l0).2.2 = false) (b7 : (Bl.ind p0 l0).2.2.2 = true) (e0 : (p0.1 == 2) = false) (e1 : (p0.1 == 1) = false) {w0 : World} {a : Act} {w : World} (h : Hold 275 [(2, .val (.bool false)), (990, .sat (gP (s2 + 1) none)), (5, .val (.string (Bl.atom p0 l0).1)), (7, .val (.bool ((p0.1) == 2))), (8, .val (.int .i64 (Bl.int p0 l0).1)), (10, .val (.bool ((p0.1) == 1))), (18, .val (.int .i64 (Bl.char p0 l0).1)), (20, .val (.bool ((Bl.char p0 l0).2.2))), (21, .val (.int .i64 (Bl.code p0 l0).1)), (23, .val (.bool ((Bl.code p0 l0).2.2)))] w0 a w)
    (hQ : ∀ a' w', Hold 275 [(2, .val (.bool false)), (990, .sat (gP (s2 + 1) none)), (273, .val (.bool false))] w0 a' w' → Q .normal a' w') : (Code.region 34 lChecks34Ops false).wp Try.prog Q a w := by
  refine region_seq (w0 := w) 40 (by kernel_rfl) ?_
  rw [show List.range 40 = [0, 1, 2, 3, 4, 5, 6, 7, 8, 9, 10, 11, 12, 13, 14, 15, 16, 17, 18, 19, 20, 21, 22, 23, 24, 25, 26, 27, 28, 29, 30, 31, 32, 33, 34, 35, 36, 37, 38, 39] from rfl]
  refine env_one (i := 0) (d := 234) (k := .val (.bool false)) (step_move (by kernel_rfl) (Opd.of_base 20 rfl) (by rw [b5]; rfl)) (by kernel_rfl) (by decide) h ?_
  clear h
  intro a w h
  refine env_one (i := 1) (d := 235) (k := .val (.bool false)) (step_move (by kernel_rfl) (Opd.of_base 7 rfl) (by rw [e0]; rfl)) (by kernel_rfl) (by decide) h ?_
  clear h
  intro a w h
  refine env_one (i := 2) (d := 236) (k := .val (.bool false)) (step_move (by kernel_rfl) (Opd.of_base 235 rfl) rfl) (by kernel_rfl) (by decide) h ?_
  clear h
  intro a w h
  refine env_skip (i := 3) (d := 237) (g := 2) (dg := 236) (b := true) (by kernel_rfl) (by decide) (by kernel_rfl) rfl rfl h ?_
  clear h
  intro a w h
  refine env_skip (i := 4) (d := 238) (g := 2) (dg := 236) (b := true) (by kernel_rfl) (by decide) (by kernel_rfl) rfl rfl h ?_
  clear h
  intro a w h
  refine env_skip (i := 5) (d := 239) (g := 2) (dg := 236) (b := true) (by kernel_rfl) (by decide) (by kernel_rfl) rfl rfl h ?_
  clear h
  intro a w h
  refine env_one (i := 6) (d := 240) (k := .val (.bool false)) (step_pick_no (x := .tmp 239) (by kernel_rfl) (Opd.of_base 236 rfl) (Opd.const _) rfl) (by kernel_rfl) (by decide) h ?_
  clear h
  intro a w h
  refine env_one (i := 7) (d := 241) (k := .val (.bool false)) (step_ne_bool (by kernel_rfl) (Opd.of_base 234 rfl) (Opd.of_base 240 rfl) (by simp) rfl) (by kernel_rfl) (by decide) h ?_
  clear h
  intro a w h
  refine env_one (i := 8) (d := 242) (k := .val (.bool false)) (step_move (by kernel_rfl) (Opd.of_base 241 rfl) rfl) (by kernel_rfl) (by decide) h ?_
  clear h
  intro a w h
  refine env_guard (i := 9) (d := 243) (g := 8) (dg := 242) (b := false) (k := .val (.bool false)) (step_move (by kernel_rfl) (Opd.of_base 23 rfl) (by rw [b6]; rfl)) (by kernel_rfl) (by decide) (by kernel_rfl) (by decide) rfl h ?_
  clear h
  intro a w h
  refine env_guard (i := 10) (d := 244) (g := 8) (dg := 242) (b := false) (k := .val (.bool false)) (step_move (by kernel_rfl) (Opd.of_base 10 rfl) (by rw [e1]; rfl)) (by kernel_rfl) (by decide) (by kernel_rfl) (by decide) rfl h ?_
  clear h
  intro a w h
  refine env_guard (i := 11) (d := 245) (g := 8) (dg := 242) (b := false) (k := .val (.bool false)) (step_move (by kernel_rfl) (Opd.of_base 244 rfl) rfl) (by kernel_rfl) (by decide) (by kernel_rfl) (by decide) rfl h ?_
  clear h
  intro a w h
  refine env_skip (i := 12) (d := 246) (g := 11) (dg := 245) (b := true) (by kernel_rfl) (by decide) (by kernel_rfl) rfl rfl h ?_
  clear h
  intro a w h
  refine env_skip (i := 13) (d := 247) (g := 11) (dg := 245) (b := true) (by kernel_rfl) (by decide) (by kernel_rfl) rfl rfl h ?_
  clear h
  intro a w h
  refine env_guard (i := 14) (d := 248) (g := 8) (dg := 242) (b := false) (k := .val (.bool false)) (step_pick_no (x := .tmp 247) (by kernel_rfl) (Opd.of_base 245 rfl) (Opd.const _) rfl) (by kernel_rfl) (by decide) (by kernel_rfl) (by decide) rfl h ?_
  clear h
  intro a w h
  refine env_guard (i := 15) (d := 249) (g := 8) (dg := 242) (b := false) (k := .val (.bool false)) (step_move (by kernel_rfl) (Opd.of_base 248 rfl) rfl) (by kernel_rfl) (by decide) (by kernel_rfl) (by decide) rfl h ?_
  clear h
  intro a w h
  refine env_skip (i := 16) (d := 250) (g := 15) (dg := 249) (b := true) (by kernel_rfl) (by decide) (by kernel_rfl) rfl rfl h ?_
  clear h
  intro a w h
  refine env_skip (i := 17) (d := 251) (g := 15) (dg := 249) (b := true) (by kernel_rfl) (by decide) (by kernel_rfl) rfl rfl h ?_
  clear h
  intro a w h
  refine env_guard (i := 18) (d := 252) (g := 8) (dg := 242) (b := false) (k := .val (.bool false)) (step_pick_no (x := .tmp 251) (by kernel_rfl) (Opd.of_base 249 rfl) (Opd.const _) rfl) (by kernel_rfl) (by decide) (by kernel_rfl) (by decide) rfl h ?_
  clear h
  intro a w h
  refine env_guard (i := 19) (d := 253) (g := 8) (dg := 242) (b := false) (k := .val (.bool false)) (step_ne_bool (by kernel_rfl) (Opd.of_base 243 rfl) (Opd.of_base 252 rfl) (by simp) rfl) (by kernel_rfl) (by decide) (by kernel_rfl) (by decide) rfl h ?_
  clear h
  intro a w h
  refine env_one (i := 20) (d := 254) (k := .val (.bool false)) (step_pick_no (x := .const (.bool true)) (by kernel_rfl) (Opd.of_base 242 rfl) (Opd.of_base 253 rfl) rfl) (by kernel_rfl) (by decide) h ?_
  clear h
  intro a w h
  refine env_one (i := 21) (d := 255) (k := .val (.bool false)) (step_move (by kernel_rfl) (Opd.of_base 254 rfl) rfl) (by kernel_rfl) (by decide) h ?_
  clear h
  intro a w h
  refine env_guard (i := 22) (d := 256) (g := 21) (dg := 255) (b := false) (k := .val (.bool false)) (step_move (by kernel_rfl) (Opd.of_base 23 rfl) (by rw [b6]; rfl)) (by kernel_rfl) (by decide) (by kernel_rfl) (by decide) rfl h ?_
  clear h
  intro a w h
  refine env_guard (i := 23) (d := 257) (g := 21) (dg := 255) (b := false) (k := .val (.bool false)) (step_move (by kernel_rfl) (Opd.of_base 256 rfl) rfl) (by kernel_rfl) (by decide) (by kernel_rfl) (by decide) rfl h ?_
  clear h
  intro a w h
  refine env_skip (i := 24) (d := 258) (g := 23) (dg := 257) (b := true) (by kernel_rfl) (by decide) (by kernel_rfl) rfl rfl h ?_
  clear h
  intro a w h
  refine env_skip (i := 25) (d := 259) (g := 23) (dg := 257) (b := true) (by kernel_rfl) (by decide) (by kernel_rfl) rfl rfl h ?_
  clear h
  intro a w h
  refine env_skip (i := 26) (d := 260) (g := 23) (dg := 257) (b := true) (by kernel_rfl) (by decide) (by kernel_rfl) rfl rfl h ?_
  clear h
  intro a w h
  refine env_guard (i := 27) (d := 261) (g := 21) (dg := 255) (b := false) (k := .val (.bool false)) (step_pick_no (x := .tmp 260) (by kernel_rfl) (Opd.of_base 257 rfl) (Opd.const _) rfl) (by kernel_rfl) (by decide) (by kernel_rfl) (by decide) rfl h ?_
  clear h
  intro a w h
  refine env_one (i := 28) (d := 262) (k := .val (.bool false)) (step_pick_no (x := .const (.bool true)) (by kernel_rfl) (Opd.of_base 255 rfl) (Opd.of_base 261 rfl) rfl) (by kernel_rfl) (by decide) h ?_
  clear h
  intro a w h
  refine env_one (i := 29) (d := 263) (k := .val (.bool false)) (step_move (by kernel_rfl) (Opd.of_base 262 rfl) rfl) (by kernel_rfl) (by decide) h ?_
  clear h
  intro a w h
  refine env_guard (i := 30) (d := 264) (g := 29) (dg := 263) (b := false) (k := .val (.bool false)) (step_move (by kernel_rfl) (Opd.of_base 20 rfl) (by rw [b5]; rfl)) (by kernel_rfl) (by decide) (by kernel_rfl) (by decide) rfl h ?_
  clear h
  intro a w h
  refine env_guard (i := 31) (d := 265) (g := 29) (dg := 263) (b := false) (k := .val (.bool false)) (step_move (by kernel_rfl) (Opd.of_base 264 rfl) rfl) (by kernel_rfl) (by decide) (by kernel_rfl) (by decide) rfl h ?_
  clear h
  intro a w h
  refine env_skip (i := 32) (d := 266) (g := 31) (dg := 265) (b := true) (by kernel_rfl) (by decide) (by kernel_rfl) rfl rfl h ?_
  clear h
  intro a w h
  refine env_skip (i := 33) (d := 267) (g := 31) (dg := 265) (b := true) (by kernel_rfl) (by decide) (by kernel_rfl) rfl rfl h ?_
  clear h
  intro a w h
  refine env_skip (i := 34) (d := 268) (g := 31) (dg := 265) (b := true) (by kernel_rfl) (by decide) (by kernel_rfl) rfl rfl h ?_
  clear h
  intro a w h
  refine env_skip (i := 35) (d := 269) (g := 31) (dg := 265) (b := true) (by kernel_rfl) (by decide) (by kernel_rfl) rfl rfl h ?_
  clear h
  intro a w h
  refine env_skip (i := 36) (d := 270) (g := 31) (dg := 265) (b := true) (by kernel_rfl) (by decide) (by kernel_rfl) rfl rfl h ?_
  clear h
  intro a w h
  refine env_skip (i := 37) (d := 271) (g := 31) (dg := 265) (b := true) (by kernel_rfl) (by decide) (by kernel_rfl) rfl rfl h ?_
  clear h
  intro a w h
  refine env_guard (i := 38) (d := 272) (g := 29) (dg := 263) (b := false) (k := .val (.bool false)) (step_pick_no (x := .tmp 271) (by kernel_rfl) (Opd.of_base 265 rfl) (Opd.const _) rfl) (by kernel_rfl) (by decide) (by kernel_rfl) (by decide) rfl h ?_
  clear h
  intro a w h
  refine env_one (i := 39) (d := 273) (k := .val (.bool false)) (step_pick_no (x := .const (.bool true)) (by kernel_rfl) (Opd.of_base 263 rfl) (Opd.of_base 272 rfl) rfl) (by kernel_rfl) (by decide) h ?_
  clear h
  intro a w h
  exact hQ a w (h.keep [2, 990, 273])
theorem lChecks34e_region {Q : Exit → Act → World → Prop} (p0 : Pay) (l0 : Fo) (s : Nat) (s2 : Nat) (b0 : (Bl.atom p0 l0).2.2 = true) (b1 : (Bl.int p0 l0).2.2 = false) (b4 : (Bl.list p0 l0).2.2 = false) (b5 : (Bl.char p0 l0).2.2 = false) (b6 : (Bl.code p0 l0).2.2 = false) (b7 : (Bl.ind p0 l0).2.2.2 = false) (e0 : (p0.1 == 2) = true) (e1 : (p0.1 == 1) = false) (e5 : (((p0.2.2.size : Nat) : Int) == 1) = false) {w0 : World} {a : Act} {w : World} (h : Hold 275 [(2, .val (.bool false)), (990, .sat (gP (s2 + 1) none)), (5, .val (.string (Bl.atom p0 l0).1)), (7, .val (.bool ((p0.1) == 2))), (8, .val (.int .i64 (Bl.int p0 l0).1)), (10, .val (.bool ((p0.1) == 1))), (18, .val (.int .i64 (Bl.char p0 l0).1)), (20, .val (.bool ((Bl.char p0 l0).2.2))), (21, .val (.int .i64 (Bl.code p0 l0).1)), (23, .val (.bool ((Bl.code p0 l0).2.2)))] w0 a w)
    (hQ : ∀ a' w', Hold 275 [(2, .val (.bool false)), (990, .sat (gP (s2 + 1) none)), (273, .val (.bool false))] w0 a' w' → Q .normal a' w') : (Code.region 34 lChecks34Ops false).wp Try.prog Q a w := by
  refine region_seq (w0 := w) 40 (by kernel_rfl) ?_
  rw [show List.range 40 = [0, 1, 2, 3, 4, 5, 6, 7, 8, 9, 10, 11, 12, 13, 14, 15, 16, 17, 18, 19, 20, 21, 22, 23, 24, 25, 26, 27, 28, 29, 30, 31, 32, 33, 34, 35, 36, 37, 38, 39] from rfl]
  refine env_one (i := 0) (d := 234) (k := .val (.bool false)) (step_move (by kernel_rfl) (Opd.of_base 20 rfl) (by rw [b5]; rfl)) (by kernel_rfl) (by decide) h ?_
  clear h
  intro a w h
  refine env_one (i := 1) (d := 235) (k := .val (.bool true)) (step_move (by kernel_rfl) (Opd.of_base 7 rfl) (by rw [e0]; rfl)) (by kernel_rfl) (by decide) h ?_
  clear h
  intro a w h
  refine env_one (i := 2) (d := 236) (k := .val (.bool true)) (step_move (by kernel_rfl) (Opd.of_base 235 rfl) rfl) (by kernel_rfl) (by decide) h ?_
  clear h
  intro a w h
  refine env_guard (i := 3) (d := 237) (g := 2) (dg := 236) (b := true) (k := .val (.string p0.2.2)) (step_move (by kernel_rfl) (Opd.of_base 5 rfl) (by rw [Bl.atom_val b0]; rfl)) (by kernel_rfl) (by decide) (by kernel_rfl) (by decide) rfl h ?_
  clear h
  intro a w h
  refine env_guard (i := 4) (d := 238) (g := 2) (dg := 236) (b := true) (k := .val (.int .i64 ((p0.2.2.size : Nat) : Int))) (step_len_str (by kernel_rfl) (Opd.of_base 237 rfl) rfl) (by kernel_rfl) (by decide) (by kernel_rfl) (by decide) rfl h ?_
  clear h
  intro a w h
  refine env_guard (i := 5) (d := 239) (g := 2) (dg := 236) (b := true) (k := .val (.bool false)) (step_eqb_int (m := ((p0.2.2.size : Nat) : Int)) (n := 1) (by kernel_rfl) (Opd.of_base 238 rfl) (Opd.const _) e5 rfl) (by kernel_rfl) (by decide) (by kernel_rfl) (by decide) rfl h ?_
  clear h
  intro a w h
  refine env_one (i := 6) (d := 240) (k := .val (.bool false)) (step_pick_yes (y := .const (.bool false)) (by kernel_rfl) (Opd.of_base 236 rfl) (Opd.of_base 239 rfl) rfl) (by kernel_rfl) (by decide) h ?_
  clear h
  intro a w h
  refine env_one (i := 7) (d := 241) (k := .val (.bool false)) (step_ne_bool (by kernel_rfl) (Opd.of_base 234 rfl) (Opd.of_base 240 rfl) (by simp) rfl) (by kernel_rfl) (by decide) h ?_
  clear h
  intro a w h
  refine env_one (i := 8) (d := 242) (k := .val (.bool false)) (step_move (by kernel_rfl) (Opd.of_base 241 rfl) rfl) (by kernel_rfl) (by decide) h ?_
  clear h
  intro a w h
  refine env_guard (i := 9) (d := 243) (g := 8) (dg := 242) (b := false) (k := .val (.bool false)) (step_move (by kernel_rfl) (Opd.of_base 23 rfl) (by rw [b6]; rfl)) (by kernel_rfl) (by decide) (by kernel_rfl) (by decide) rfl h ?_
  clear h
  intro a w h
  refine env_guard (i := 10) (d := 244) (g := 8) (dg := 242) (b := false) (k := .val (.bool false)) (step_move (by kernel_rfl) (Opd.of_base 10 rfl) (by rw [e1]; rfl)) (by kernel_rfl) (by decide) (by kernel_rfl) (by decide) rfl h ?_
  clear h
  intro a w h
  refine env_guard (i := 11) (d := 245) (g := 8) (dg := 242) (b := false) (k := .val (.bool false)) (step_move (by kernel_rfl) (Opd.of_base 244 rfl) rfl) (by kernel_rfl) (by decide) (by kernel_rfl) (by decide) rfl h ?_
  clear h
  intro a w h
  refine env_skip (i := 12) (d := 246) (g := 11) (dg := 245) (b := true) (by kernel_rfl) (by decide) (by kernel_rfl) rfl rfl h ?_
  clear h
  intro a w h
  refine env_skip (i := 13) (d := 247) (g := 11) (dg := 245) (b := true) (by kernel_rfl) (by decide) (by kernel_rfl) rfl rfl h ?_
  clear h
  intro a w h
  refine env_guard (i := 14) (d := 248) (g := 8) (dg := 242) (b := false) (k := .val (.bool false)) (step_pick_no (x := .tmp 247) (by kernel_rfl) (Opd.of_base 245 rfl) (Opd.const _) rfl) (by kernel_rfl) (by decide) (by kernel_rfl) (by decide) rfl h ?_
  clear h
  intro a w h
  refine env_guard (i := 15) (d := 249) (g := 8) (dg := 242) (b := false) (k := .val (.bool false)) (step_move (by kernel_rfl) (Opd.of_base 248 rfl) rfl) (by kernel_rfl) (by decide) (by kernel_rfl) (by decide) rfl h ?_
  clear h
  intro a w h
  refine env_skip (i := 16) (d := 250) (g := 15) (dg := 249) (b := true) (by kernel_rfl) (by decide) (by kernel_rfl) rfl rfl h ?_
  clear h
  intro a w h
  refine env_skip (i := 17) (d := 251) (g := 15) (dg := 249) (b := true) (by kernel_rfl) (by decide) (by kernel_rfl) rfl rfl h ?_
  clear h
  intro a w h
  refine env_guard (i := 18) (d := 252) (g := 8) (dg := 242) (b := false) (k := .val (.bool false)) (step_pick_no (x := .tmp 251) (by kernel_rfl) (Opd.of_base 249 rfl) (Opd.const _) rfl) (by kernel_rfl) (by decide) (by kernel_rfl) (by decide) rfl h ?_
  clear h
  intro a w h
  refine env_guard (i := 19) (d := 253) (g := 8) (dg := 242) (b := false) (k := .val (.bool false)) (step_ne_bool (by kernel_rfl) (Opd.of_base 243 rfl) (Opd.of_base 252 rfl) (by simp) rfl) (by kernel_rfl) (by decide) (by kernel_rfl) (by decide) rfl h ?_
  clear h
  intro a w h
  refine env_one (i := 20) (d := 254) (k := .val (.bool false)) (step_pick_no (x := .const (.bool true)) (by kernel_rfl) (Opd.of_base 242 rfl) (Opd.of_base 253 rfl) rfl) (by kernel_rfl) (by decide) h ?_
  clear h
  intro a w h
  refine env_one (i := 21) (d := 255) (k := .val (.bool false)) (step_move (by kernel_rfl) (Opd.of_base 254 rfl) rfl) (by kernel_rfl) (by decide) h ?_
  clear h
  intro a w h
  refine env_guard (i := 22) (d := 256) (g := 21) (dg := 255) (b := false) (k := .val (.bool false)) (step_move (by kernel_rfl) (Opd.of_base 23 rfl) (by rw [b6]; rfl)) (by kernel_rfl) (by decide) (by kernel_rfl) (by decide) rfl h ?_
  clear h
  intro a w h
  refine env_guard (i := 23) (d := 257) (g := 21) (dg := 255) (b := false) (k := .val (.bool false)) (step_move (by kernel_rfl) (Opd.of_base 256 rfl) rfl) (by kernel_rfl) (by decide) (by kernel_rfl) (by decide) rfl h ?_
  clear h
  intro a w h
  refine env_skip (i := 24) (d := 258) (g := 23) (dg := 257) (b := true) (by kernel_rfl) (by decide) (by kernel_rfl) rfl rfl h ?_
  clear h
  intro a w h
  refine env_skip (i := 25) (d := 259) (g := 23) (dg := 257) (b := true) (by kernel_rfl) (by decide) (by kernel_rfl) rfl rfl h ?_
  clear h
  intro a w h
  refine env_skip (i := 26) (d := 260) (g := 23) (dg := 257) (b := true) (by kernel_rfl) (by decide) (by kernel_rfl) rfl rfl h ?_
  clear h
  intro a w h
  refine env_guard (i := 27) (d := 261) (g := 21) (dg := 255) (b := false) (k := .val (.bool false)) (step_pick_no (x := .tmp 260) (by kernel_rfl) (Opd.of_base 257 rfl) (Opd.const _) rfl) (by kernel_rfl) (by decide) (by kernel_rfl) (by decide) rfl h ?_
  clear h
  intro a w h
  refine env_one (i := 28) (d := 262) (k := .val (.bool false)) (step_pick_no (x := .const (.bool true)) (by kernel_rfl) (Opd.of_base 255 rfl) (Opd.of_base 261 rfl) rfl) (by kernel_rfl) (by decide) h ?_
  clear h
  intro a w h
  refine env_one (i := 29) (d := 263) (k := .val (.bool false)) (step_move (by kernel_rfl) (Opd.of_base 262 rfl) rfl) (by kernel_rfl) (by decide) h ?_
  clear h
  intro a w h
  refine env_guard (i := 30) (d := 264) (g := 29) (dg := 263) (b := false) (k := .val (.bool false)) (step_move (by kernel_rfl) (Opd.of_base 20 rfl) (by rw [b5]; rfl)) (by kernel_rfl) (by decide) (by kernel_rfl) (by decide) rfl h ?_
  clear h
  intro a w h
  refine env_guard (i := 31) (d := 265) (g := 29) (dg := 263) (b := false) (k := .val (.bool false)) (step_move (by kernel_rfl) (Opd.of_base 264 rfl) rfl) (by kernel_rfl) (by decide) (by kernel_rfl) (by decide) rfl h ?_
  clear h
  intro a w h
  refine env_skip (i := 32) (d := 266) (g := 31) (dg := 265) (b := true) (by kernel_rfl) (by decide) (by kernel_rfl) rfl rfl h ?_
  clear h
  intro a w h
  refine env_skip (i := 33) (d := 267) (g := 31) (dg := 265) (b := true) (by kernel_rfl) (by decide) (by kernel_rfl) rfl rfl h ?_
  clear h
  intro a w h
  refine env_skip (i := 34) (d := 268) (g := 31) (dg := 265) (b := true) (by kernel_rfl) (by decide) (by kernel_rfl) rfl rfl h ?_
  clear h
  intro a w h
  refine env_skip (i := 35) (d := 269) (g := 31) (dg := 265) (b := true) (by kernel_rfl) (by decide) (by kernel_rfl) rfl rfl h ?_
  clear h
  intro a w h
  refine env_skip (i := 36) (d := 270) (g := 31) (dg := 265) (b := true) (by kernel_rfl) (by decide) (by kernel_rfl) rfl rfl h ?_
  clear h
  intro a w h
  refine env_skip (i := 37) (d := 271) (g := 31) (dg := 265) (b := true) (by kernel_rfl) (by decide) (by kernel_rfl) rfl rfl h ?_
  clear h
  intro a w h
  refine env_guard (i := 38) (d := 272) (g := 29) (dg := 263) (b := false) (k := .val (.bool false)) (step_pick_no (x := .tmp 271) (by kernel_rfl) (Opd.of_base 265 rfl) (Opd.const _) rfl) (by kernel_rfl) (by decide) (by kernel_rfl) (by decide) rfl h ?_
  clear h
  intro a w h
  refine env_one (i := 39) (d := 273) (k := .val (.bool false)) (step_pick_no (x := .const (.bool true)) (by kernel_rfl) (Opd.of_base 263 rfl) (Opd.of_base 272 rfl) rfl) (by kernel_rfl) (by decide) h ?_
  clear h
  intro a w h
  exact hQ a w (h.keep [2, 990, 273])
theorem lChecks34f_region {Q : Exit → Act → World → Prop} (p0 : Pay) (l0 : Fo) (s : Nat) (s2 : Nat) (b0 : (Bl.atom p0 l0).2.2 = true) (b1 : (Bl.int p0 l0).2.2 = false) (b4 : (Bl.list p0 l0).2.2 = false) (b5 : (Bl.char p0 l0).2.2 = true) (b6 : (Bl.code p0 l0).2.2 = false) (b7 : (Bl.ind p0 l0).2.2.2 = false) (e0 : (p0.1 == 2) = true) (e1 : (p0.1 == 1) = false) (e5 : (((p0.2.2.size : Nat) : Int) == 1) = true) {w0 : World} {a : Act} {w : World} (h : Hold 275 [(2, .val (.bool false)), (990, .sat (gP (s2 + 1) none)), (5, .val (.string (Bl.atom p0 l0).1)), (7, .val (.bool ((p0.1) == 2))), (8, .val (.int .i64 (Bl.int p0 l0).1)), (10, .val (.bool ((p0.1) == 1))), (18, .val (.int .i64 (Bl.char p0 l0).1)), (20, .val (.bool ((Bl.char p0 l0).2.2))), (21, .val (.int .i64 (Bl.code p0 l0).1)), (23, .val (.bool ((Bl.code p0 l0).2.2)))] w0 a w)
    (hQ : ∀ a' w', Hold 275 [(2, .val (.bool false)), (990, .sat (gP (s2 + 1) none)), (273, .val (.bool false))] w0 a' w' → Q .normal a' w') : (Code.region 34 lChecks34Ops false).wp Try.prog Q a w := by
  refine region_seq (w0 := w) 40 (by kernel_rfl) ?_
  rw [show List.range 40 = [0, 1, 2, 3, 4, 5, 6, 7, 8, 9, 10, 11, 12, 13, 14, 15, 16, 17, 18, 19, 20, 21, 22, 23, 24, 25, 26, 27, 28, 29, 30, 31, 32, 33, 34, 35, 36, 37, 38, 39] from rfl]
  refine env_one (i := 0) (d := 234) (k := .val (.bool true)) (step_move (by kernel_rfl) (Opd.of_base 20 rfl) (by rw [b5]; rfl)) (by kernel_rfl) (by decide) h ?_
  clear h
  intro a w h
  refine env_one (i := 1) (d := 235) (k := .val (.bool true)) (step_move (by kernel_rfl) (Opd.of_base 7 rfl) (by rw [e0]; rfl)) (by kernel_rfl) (by decide) h ?_
  clear h
  intro a w h
  refine env_one (i := 2) (d := 236) (k := .val (.bool true)) (step_move (by kernel_rfl) (Opd.of_base 235 rfl) rfl) (by kernel_rfl) (by decide) h ?_
  clear h
  intro a w h
  refine env_guard (i := 3) (d := 237) (g := 2) (dg := 236) (b := true) (k := .val (.string p0.2.2)) (step_move (by kernel_rfl) (Opd.of_base 5 rfl) (by rw [Bl.atom_val b0]; rfl)) (by kernel_rfl) (by decide) (by kernel_rfl) (by decide) rfl h ?_
  clear h
  intro a w h
  refine env_guard (i := 4) (d := 238) (g := 2) (dg := 236) (b := true) (k := .val (.int .i64 ((p0.2.2.size : Nat) : Int))) (step_len_str (by kernel_rfl) (Opd.of_base 237 rfl) rfl) (by kernel_rfl) (by decide) (by kernel_rfl) (by decide) rfl h ?_
  clear h
  intro a w h
  refine env_guard (i := 5) (d := 239) (g := 2) (dg := 236) (b := true) (k := .val (.bool true)) (step_eqb_int (m := ((p0.2.2.size : Nat) : Int)) (n := 1) (by kernel_rfl) (Opd.of_base 238 rfl) (Opd.const _) e5 rfl) (by kernel_rfl) (by decide) (by kernel_rfl) (by decide) rfl h ?_
  clear h
  intro a w h
  refine env_one (i := 6) (d := 240) (k := .val (.bool true)) (step_pick_yes (y := .const (.bool false)) (by kernel_rfl) (Opd.of_base 236 rfl) (Opd.of_base 239 rfl) rfl) (by kernel_rfl) (by decide) h ?_
  clear h
  intro a w h
  refine env_one (i := 7) (d := 241) (k := .val (.bool false)) (step_ne_bool (by kernel_rfl) (Opd.of_base 234 rfl) (Opd.of_base 240 rfl) (by simp) rfl) (by kernel_rfl) (by decide) h ?_
  clear h
  intro a w h
  refine env_one (i := 8) (d := 242) (k := .val (.bool false)) (step_move (by kernel_rfl) (Opd.of_base 241 rfl) rfl) (by kernel_rfl) (by decide) h ?_
  clear h
  intro a w h
  refine env_guard (i := 9) (d := 243) (g := 8) (dg := 242) (b := false) (k := .val (.bool false)) (step_move (by kernel_rfl) (Opd.of_base 23 rfl) (by rw [b6]; rfl)) (by kernel_rfl) (by decide) (by kernel_rfl) (by decide) rfl h ?_
  clear h
  intro a w h
  refine env_guard (i := 10) (d := 244) (g := 8) (dg := 242) (b := false) (k := .val (.bool false)) (step_move (by kernel_rfl) (Opd.of_base 10 rfl) (by rw [e1]; rfl)) (by kernel_rfl) (by decide) (by kernel_rfl) (by decide) rfl h ?_
  clear h
  intro a w h
  refine env_guard (i := 11) (d := 245) (g := 8) (dg := 242) (b := false) (k := .val (.bool false)) (step_move (by kernel_rfl) (Opd.of_base 244 rfl) rfl) (by kernel_rfl) (by decide) (by kernel_rfl) (by decide) rfl h ?_
  clear h
  intro a w h
  refine env_skip (i := 12) (d := 246) (g := 11) (dg := 245) (b := true) (by kernel_rfl) (by decide) (by kernel_rfl) rfl rfl h ?_
  clear h
  intro a w h
  refine env_skip (i := 13) (d := 247) (g := 11) (dg := 245) (b := true) (by kernel_rfl) (by decide) (by kernel_rfl) rfl rfl h ?_
  clear h
  intro a w h
  refine env_guard (i := 14) (d := 248) (g := 8) (dg := 242) (b := false) (k := .val (.bool false)) (step_pick_no (x := .tmp 247) (by kernel_rfl) (Opd.of_base 245 rfl) (Opd.const _) rfl) (by kernel_rfl) (by decide) (by kernel_rfl) (by decide) rfl h ?_
  clear h
  intro a w h
  refine env_guard (i := 15) (d := 249) (g := 8) (dg := 242) (b := false) (k := .val (.bool false)) (step_move (by kernel_rfl) (Opd.of_base 248 rfl) rfl) (by kernel_rfl) (by decide) (by kernel_rfl) (by decide) rfl h ?_
  clear h
  intro a w h
  refine env_skip (i := 16) (d := 250) (g := 15) (dg := 249) (b := true) (by kernel_rfl) (by decide) (by kernel_rfl) rfl rfl h ?_
  clear h
  intro a w h
  refine env_skip (i := 17) (d := 251) (g := 15) (dg := 249) (b := true) (by kernel_rfl) (by decide) (by kernel_rfl) rfl rfl h ?_
  clear h
  intro a w h
  refine env_guard (i := 18) (d := 252) (g := 8) (dg := 242) (b := false) (k := .val (.bool false)) (step_pick_no (x := .tmp 251) (by kernel_rfl) (Opd.of_base 249 rfl) (Opd.const _) rfl) (by kernel_rfl) (by decide) (by kernel_rfl) (by decide) rfl h ?_
  clear h
  intro a w h
  refine env_guard (i := 19) (d := 253) (g := 8) (dg := 242) (b := false) (k := .val (.bool false)) (step_ne_bool (by kernel_rfl) (Opd.of_base 243 rfl) (Opd.of_base 252 rfl) (by simp) rfl) (by kernel_rfl) (by decide) (by kernel_rfl) (by decide) rfl h ?_
  clear h
  intro a w h
  refine env_one (i := 20) (d := 254) (k := .val (.bool false)) (step_pick_no (x := .const (.bool true)) (by kernel_rfl) (Opd.of_base 242 rfl) (Opd.of_base 253 rfl) rfl) (by kernel_rfl) (by decide) h ?_
  clear h
  intro a w h
  refine env_one (i := 21) (d := 255) (k := .val (.bool false)) (step_move (by kernel_rfl) (Opd.of_base 254 rfl) rfl) (by kernel_rfl) (by decide) h ?_
  clear h
  intro a w h
  refine env_guard (i := 22) (d := 256) (g := 21) (dg := 255) (b := false) (k := .val (.bool false)) (step_move (by kernel_rfl) (Opd.of_base 23 rfl) (by rw [b6]; rfl)) (by kernel_rfl) (by decide) (by kernel_rfl) (by decide) rfl h ?_
  clear h
  intro a w h
  refine env_guard (i := 23) (d := 257) (g := 21) (dg := 255) (b := false) (k := .val (.bool false)) (step_move (by kernel_rfl) (Opd.of_base 256 rfl) rfl) (by kernel_rfl) (by decide) (by kernel_rfl) (by decide) rfl h ?_
  clear h
  intro a w h
  refine env_skip (i := 24) (d := 258) (g := 23) (dg := 257) (b := true) (by kernel_rfl) (by decide) (by kernel_rfl) rfl rfl h ?_
  clear h
  intro a w h
  refine env_skip (i := 25) (d := 259) (g := 23) (dg := 257) (b := true) (by kernel_rfl) (by decide) (by kernel_rfl) rfl rfl h ?_
  clear h
  intro a w h
  refine env_skip (i := 26) (d := 260) (g := 23) (dg := 257) (b := true) (by kernel_rfl) (by decide) (by kernel_rfl) rfl rfl h ?_
  clear h
  intro a w h
  refine env_guard (i := 27) (d := 261) (g := 21) (dg := 255) (b := false) (k := .val (.bool false)) (step_pick_no (x := .tmp 260) (by kernel_rfl) (Opd.of_base 257 rfl) (Opd.const _) rfl) (by kernel_rfl) (by decide) (by kernel_rfl) (by decide) rfl h ?_
  clear h
  intro a w h
  refine env_one (i := 28) (d := 262) (k := .val (.bool false)) (step_pick_no (x := .const (.bool true)) (by kernel_rfl) (Opd.of_base 255 rfl) (Opd.of_base 261 rfl) rfl) (by kernel_rfl) (by decide) h ?_
  clear h
  intro a w h
  refine env_one (i := 29) (d := 263) (k := .val (.bool false)) (step_move (by kernel_rfl) (Opd.of_base 262 rfl) rfl) (by kernel_rfl) (by decide) h ?_
  clear h
  intro a w h
  refine env_guard (i := 30) (d := 264) (g := 29) (dg := 263) (b := false) (k := .val (.bool true)) (step_move (by kernel_rfl) (Opd.of_base 20 rfl) (by rw [b5]; rfl)) (by kernel_rfl) (by decide) (by kernel_rfl) (by decide) rfl h ?_
  clear h
  intro a w h
  refine env_guard (i := 31) (d := 265) (g := 29) (dg := 263) (b := false) (k := .val (.bool true)) (step_move (by kernel_rfl) (Opd.of_base 264 rfl) rfl) (by kernel_rfl) (by decide) (by kernel_rfl) (by decide) rfl h ?_
  clear h
  intro a w h
  refine env_guard (i := 32) (d := 266) (g := 31) (dg := 265) (b := true) (k := .val (.int .i64 ((byte0 p0.2.2 : Nat) : Int))) (step_move (by kernel_rfl) (Opd.of_base 18 rfl) (by rw [Bl.char_val b5]; rfl)) (by kernel_rfl) (by decide) (by kernel_rfl) (by decide) rfl h ?_
  clear h
  intro a w h
  refine env_guard (i := 33) (d := 267) (g := 31) (dg := 265) (b := true) (k := .val (.int .u8 ((byte0 p0.2.2 : Nat) : Int))) (step_to8 (z := byte0 p0.2.2) (byte0_lt _) (by kernel_rfl) (Opd.of_base 266 rfl) rfl) (by kernel_rfl) (by decide) (by kernel_rfl) (by decide) rfl h ?_
  clear h
  intro a w h
  refine env_guard (i := 34) (d := 268) (g := 31) (dg := 265) (b := true) (k := .sat (b1P (byte0 p0.2.2))) (step_b1 (z := byte0 p0.2.2) (by kernel_rfl) (Opd.of_base 267 rfl) rfl) (by kernel_rfl) (by decide) (by kernel_rfl) (by decide) rfl h ?_
  clear h
  intro a w h
  refine env_guard (i := 35) (d := 269) (g := 31) (dg := 265) (b := true) (k := .val (.string ⟨#[UInt8.ofNat (byte0 p0.2.2)]⟩)) (step_str1 (z := (byte0 p0.2.2)) (byte0_lt _) (by kernel_rfl) (Opd.of_base 268 rfl) rfl) (by kernel_rfl) (by decide) (by kernel_rfl) (by decide) rfl h ?_
  clear h
  intro a w h
  refine env_guard (i := 36) (d := 270) (g := 31) (dg := 265) (b := true) (k := .val (.string p0.2.2)) (step_move (by kernel_rfl) (Opd.of_base 5 rfl) (by rw [Bl.atom_val b0]; rfl)) (by kernel_rfl) (by decide) (by kernel_rfl) (by decide) rfl h ?_
  clear h
  intro a w h
  refine env_guard (i := 37) (d := 271) (g := 31) (dg := 265) (b := true) (k := .val (.bool false)) (step_ne_str (s := ⟨#[UInt8.ofNat (byte0 p0.2.2)]⟩) (t := p0.2.2) (by kernel_rfl) (Opd.of_base 269 rfl) (Opd.of_base 270 rfl) (by rw [decide_eq_true (Bl.one_byte (by simpa using e5))]; rfl) rfl) (by kernel_rfl) (by decide) (by kernel_rfl) (by decide) rfl h ?_
  clear h
  intro a w h
  refine env_guard (i := 38) (d := 272) (g := 29) (dg := 263) (b := false) (k := .val (.bool false)) (step_pick_yes (y := .const (.bool false)) (by kernel_rfl) (Opd.of_base 265 rfl) (Opd.of_base 271 rfl) rfl) (by kernel_rfl) (by decide) (by kernel_rfl) (by decide) rfl h ?_
  clear h
  intro a w h
  refine env_one (i := 39) (d := 273) (k := .val (.bool false)) (step_pick_no (x := .const (.bool true)) (by kernel_rfl) (Opd.of_base 263 rfl) (Opd.of_base 272 rfl) rfl) (by kernel_rfl) (by decide) h ?_
  clear h
  intro a w h
  exact hQ a w (h.keep [2, 990, 273])
theorem lChecks34g_region {Q : Exit → Act → World → Prop} (p0 : Pay) (l0 : Fo) (s : Nat) (s2 : Nat) (b0 : (Bl.atom p0 l0).2.2 = true) (b1 : (Bl.int p0 l0).2.2 = false) (b4 : (Bl.list p0 l0).2.2 = true) (b5 : (Bl.char p0 l0).2.2 = false) (b6 : (Bl.code p0 l0).2.2 = false) (b7 : (Bl.ind p0 l0).2.2.2 = false) (e0 : (p0.1 == 2) = true) (e1 : (p0.1 == 1) = false) (e5 : (((p0.2.2.size : Nat) : Int) == 1) = false) {w0 : World} {a : Act} {w : World} (h : Hold 275 [(2, .val (.bool false)), (990, .sat (gP (s2 + 1) none)), (5, .val (.string (Bl.atom p0 l0).1)), (7, .val (.bool ((p0.1) == 2))), (8, .val (.int .i64 (Bl.int p0 l0).1)), (10, .val (.bool ((p0.1) == 1))), (18, .val (.int .i64 (Bl.char p0 l0).1)), (20, .val (.bool ((Bl.char p0 l0).2.2))), (21, .val (.int .i64 (Bl.code p0 l0).1)), (23, .val (.bool ((Bl.code p0 l0).2.2)))] w0 a w)
    (hQ : ∀ a' w', Hold 275 [(2, .val (.bool false)), (990, .sat (gP (s2 + 1) none)), (273, .val (.bool false))] w0 a' w' → Q .normal a' w') : (Code.region 34 lChecks34Ops false).wp Try.prog Q a w := by
  refine region_seq (w0 := w) 40 (by kernel_rfl) ?_
  rw [show List.range 40 = [0, 1, 2, 3, 4, 5, 6, 7, 8, 9, 10, 11, 12, 13, 14, 15, 16, 17, 18, 19, 20, 21, 22, 23, 24, 25, 26, 27, 28, 29, 30, 31, 32, 33, 34, 35, 36, 37, 38, 39] from rfl]
  refine env_one (i := 0) (d := 234) (k := .val (.bool false)) (step_move (by kernel_rfl) (Opd.of_base 20 rfl) (by rw [b5]; rfl)) (by kernel_rfl) (by decide) h ?_
  clear h
  intro a w h
  refine env_one (i := 1) (d := 235) (k := .val (.bool true)) (step_move (by kernel_rfl) (Opd.of_base 7 rfl) (by rw [e0]; rfl)) (by kernel_rfl) (by decide) h ?_
  clear h
  intro a w h
  refine env_one (i := 2) (d := 236) (k := .val (.bool true)) (step_move (by kernel_rfl) (Opd.of_base 235 rfl) rfl) (by kernel_rfl) (by decide) h ?_
  clear h
  intro a w h
  refine env_guard (i := 3) (d := 237) (g := 2) (dg := 236) (b := true) (k := .val (.string p0.2.2)) (step_move (by kernel_rfl) (Opd.of_base 5 rfl) (by rw [Bl.atom_val b0]; rfl)) (by kernel_rfl) (by decide) (by kernel_rfl) (by decide) rfl h ?_
  clear h
  intro a w h
  refine env_guard (i := 4) (d := 238) (g := 2) (dg := 236) (b := true) (k := .val (.int .i64 ((p0.2.2.size : Nat) : Int))) (step_len_str (by kernel_rfl) (Opd.of_base 237 rfl) rfl) (by kernel_rfl) (by decide) (by kernel_rfl) (by decide) rfl h ?_
  clear h
  intro a w h
  refine env_guard (i := 5) (d := 239) (g := 2) (dg := 236) (b := true) (k := .val (.bool false)) (step_eqb_int (m := ((p0.2.2.size : Nat) : Int)) (n := 1) (by kernel_rfl) (Opd.of_base 238 rfl) (Opd.const _) e5 rfl) (by kernel_rfl) (by decide) (by kernel_rfl) (by decide) rfl h ?_
  clear h
  intro a w h
  refine env_one (i := 6) (d := 240) (k := .val (.bool false)) (step_pick_yes (y := .const (.bool false)) (by kernel_rfl) (Opd.of_base 236 rfl) (Opd.of_base 239 rfl) rfl) (by kernel_rfl) (by decide) h ?_
  clear h
  intro a w h
  refine env_one (i := 7) (d := 241) (k := .val (.bool false)) (step_ne_bool (by kernel_rfl) (Opd.of_base 234 rfl) (Opd.of_base 240 rfl) (by simp) rfl) (by kernel_rfl) (by decide) h ?_
  clear h
  intro a w h
  refine env_one (i := 8) (d := 242) (k := .val (.bool false)) (step_move (by kernel_rfl) (Opd.of_base 241 rfl) rfl) (by kernel_rfl) (by decide) h ?_
  clear h
  intro a w h
  refine env_guard (i := 9) (d := 243) (g := 8) (dg := 242) (b := false) (k := .val (.bool false)) (step_move (by kernel_rfl) (Opd.of_base 23 rfl) (by rw [b6]; rfl)) (by kernel_rfl) (by decide) (by kernel_rfl) (by decide) rfl h ?_
  clear h
  intro a w h
  refine env_guard (i := 10) (d := 244) (g := 8) (dg := 242) (b := false) (k := .val (.bool false)) (step_move (by kernel_rfl) (Opd.of_base 10 rfl) (by rw [e1]; rfl)) (by kernel_rfl) (by decide) (by kernel_rfl) (by decide) rfl h ?_
  clear h
  intro a w h
  refine env_guard (i := 11) (d := 245) (g := 8) (dg := 242) (b := false) (k := .val (.bool false)) (step_move (by kernel_rfl) (Opd.of_base 244 rfl) rfl) (by kernel_rfl) (by decide) (by kernel_rfl) (by decide) rfl h ?_
  clear h
  intro a w h
  refine env_skip (i := 12) (d := 246) (g := 11) (dg := 245) (b := true) (by kernel_rfl) (by decide) (by kernel_rfl) rfl rfl h ?_
  clear h
  intro a w h
  refine env_skip (i := 13) (d := 247) (g := 11) (dg := 245) (b := true) (by kernel_rfl) (by decide) (by kernel_rfl) rfl rfl h ?_
  clear h
  intro a w h
  refine env_guard (i := 14) (d := 248) (g := 8) (dg := 242) (b := false) (k := .val (.bool false)) (step_pick_no (x := .tmp 247) (by kernel_rfl) (Opd.of_base 245 rfl) (Opd.const _) rfl) (by kernel_rfl) (by decide) (by kernel_rfl) (by decide) rfl h ?_
  clear h
  intro a w h
  refine env_guard (i := 15) (d := 249) (g := 8) (dg := 242) (b := false) (k := .val (.bool false)) (step_move (by kernel_rfl) (Opd.of_base 248 rfl) rfl) (by kernel_rfl) (by decide) (by kernel_rfl) (by decide) rfl h ?_
  clear h
  intro a w h
  refine env_skip (i := 16) (d := 250) (g := 15) (dg := 249) (b := true) (by kernel_rfl) (by decide) (by kernel_rfl) rfl rfl h ?_
  clear h
  intro a w h
  refine env_skip (i := 17) (d := 251) (g := 15) (dg := 249) (b := true) (by kernel_rfl) (by decide) (by kernel_rfl) rfl rfl h ?_
  clear h
  intro a w h
  refine env_guard (i := 18) (d := 252) (g := 8) (dg := 242) (b := false) (k := .val (.bool false)) (step_pick_no (x := .tmp 251) (by kernel_rfl) (Opd.of_base 249 rfl) (Opd.const _) rfl) (by kernel_rfl) (by decide) (by kernel_rfl) (by decide) rfl h ?_
  clear h
  intro a w h
  refine env_guard (i := 19) (d := 253) (g := 8) (dg := 242) (b := false) (k := .val (.bool false)) (step_ne_bool (by kernel_rfl) (Opd.of_base 243 rfl) (Opd.of_base 252 rfl) (by simp) rfl) (by kernel_rfl) (by decide) (by kernel_rfl) (by decide) rfl h ?_
  clear h
  intro a w h
  refine env_one (i := 20) (d := 254) (k := .val (.bool false)) (step_pick_no (x := .const (.bool true)) (by kernel_rfl) (Opd.of_base 242 rfl) (Opd.of_base 253 rfl) rfl) (by kernel_rfl) (by decide) h ?_
  clear h
  intro a w h
  refine env_one (i := 21) (d := 255) (k := .val (.bool false)) (step_move (by kernel_rfl) (Opd.of_base 254 rfl) rfl) (by kernel_rfl) (by decide) h ?_
  clear h
  intro a w h
  refine env_guard (i := 22) (d := 256) (g := 21) (dg := 255) (b := false) (k := .val (.bool false)) (step_move (by kernel_rfl) (Opd.of_base 23 rfl) (by rw [b6]; rfl)) (by kernel_rfl) (by decide) (by kernel_rfl) (by decide) rfl h ?_
  clear h
  intro a w h
  refine env_guard (i := 23) (d := 257) (g := 21) (dg := 255) (b := false) (k := .val (.bool false)) (step_move (by kernel_rfl) (Opd.of_base 256 rfl) rfl) (by kernel_rfl) (by decide) (by kernel_rfl) (by decide) rfl h ?_
  clear h
  intro a w h
  refine env_skip (i := 24) (d := 258) (g := 23) (dg := 257) (b := true) (by kernel_rfl) (by decide) (by kernel_rfl) rfl rfl h ?_
  clear h
  intro a w h
  refine env_skip (i := 25) (d := 259) (g := 23) (dg := 257) (b := true) (by kernel_rfl) (by decide) (by kernel_rfl) rfl rfl h ?_
  clear h
  intro a w h
  refine env_skip (i := 26) (d := 260) (g := 23) (dg := 257) (b := true) (by kernel_rfl) (by decide) (by kernel_rfl) rfl rfl h ?_
  clear h
  intro a w h
  refine env_guard (i := 27) (d := 261) (g := 21) (dg := 255) (b := false) (k := .val (.bool false)) (step_pick_no (x := .tmp 260) (by kernel_rfl) (Opd.of_base 257 rfl) (Opd.const _) rfl) (by kernel_rfl) (by decide) (by kernel_rfl) (by decide) rfl h ?_
  clear h
  intro a w h
  refine env_one (i := 28) (d := 262) (k := .val (.bool false)) (step_pick_no (x := .const (.bool true)) (by kernel_rfl) (Opd.of_base 255 rfl) (Opd.of_base 261 rfl) rfl) (by kernel_rfl) (by decide) h ?_
  clear h
  intro a w h
  refine env_one (i := 29) (d := 263) (k := .val (.bool false)) (step_move (by kernel_rfl) (Opd.of_base 262 rfl) rfl) (by kernel_rfl) (by decide) h ?_
  clear h
  intro a w h
  refine env_guard (i := 30) (d := 264) (g := 29) (dg := 263) (b := false) (k := .val (.bool false)) (step_move (by kernel_rfl) (Opd.of_base 20 rfl) (by rw [b5]; rfl)) (by kernel_rfl) (by decide) (by kernel_rfl) (by decide) rfl h ?_
  clear h
  intro a w h
  refine env_guard (i := 31) (d := 265) (g := 29) (dg := 263) (b := false) (k := .val (.bool false)) (step_move (by kernel_rfl) (Opd.of_base 264 rfl) rfl) (by kernel_rfl) (by decide) (by kernel_rfl) (by decide) rfl h ?_
  clear h
  intro a w h
  refine env_skip (i := 32) (d := 266) (g := 31) (dg := 265) (b := true) (by kernel_rfl) (by decide) (by kernel_rfl) rfl rfl h ?_
  clear h
  intro a w h
  refine env_skip (i := 33) (d := 267) (g := 31) (dg := 265) (b := true) (by kernel_rfl) (by decide) (by kernel_rfl) rfl rfl h ?_
  clear h
  intro a w h
  refine env_skip (i := 34) (d := 268) (g := 31) (dg := 265) (b := true) (by kernel_rfl) (by decide) (by kernel_rfl) rfl rfl h ?_
  clear h
  intro a w h
  refine env_skip (i := 35) (d := 269) (g := 31) (dg := 265) (b := true) (by kernel_rfl) (by decide) (by kernel_rfl) rfl rfl h ?_
  clear h
  intro a w h
  refine env_skip (i := 36) (d := 270) (g := 31) (dg := 265) (b := true) (by kernel_rfl) (by decide) (by kernel_rfl) rfl rfl h ?_
  clear h
  intro a w h
  refine env_skip (i := 37) (d := 271) (g := 31) (dg := 265) (b := true) (by kernel_rfl) (by decide) (by kernel_rfl) rfl rfl h ?_
  clear h
  intro a w h
  refine env_guard (i := 38) (d := 272) (g := 29) (dg := 263) (b := false) (k := .val (.bool false)) (step_pick_no (x := .tmp 271) (by kernel_rfl) (Opd.of_base 265 rfl) (Opd.const _) rfl) (by kernel_rfl) (by decide) (by kernel_rfl) (by decide) rfl h ?_
  clear h
  intro a w h
  refine env_one (i := 39) (d := 273) (k := .val (.bool false)) (step_pick_no (x := .const (.bool true)) (by kernel_rfl) (Opd.of_base 263 rfl) (Opd.of_base 272 rfl) rfl) (by kernel_rfl) (by decide) h ?_
  clear h
  intro a w h
  exact hQ a w (h.keep [2, 990, 273])
theorem lChecks34h_region {Q : Exit → Act → World → Prop} (p0 : Pay) (l0 : Fo) (s : Nat) (s2 : Nat) (b0 : (Bl.atom p0 l0).2.2 = true) (b1 : (Bl.int p0 l0).2.2 = false) (b4 : (Bl.list p0 l0).2.2 = true) (b5 : (Bl.char p0 l0).2.2 = true) (b6 : (Bl.code p0 l0).2.2 = false) (b7 : (Bl.ind p0 l0).2.2.2 = false) (e0 : (p0.1 == 2) = true) (e1 : (p0.1 == 1) = false) (e5 : (((p0.2.2.size : Nat) : Int) == 1) = true) {w0 : World} {a : Act} {w : World} (h : Hold 275 [(2, .val (.bool false)), (990, .sat (gP (s2 + 1) none)), (5, .val (.string (Bl.atom p0 l0).1)), (7, .val (.bool ((p0.1) == 2))), (8, .val (.int .i64 (Bl.int p0 l0).1)), (10, .val (.bool ((p0.1) == 1))), (18, .val (.int .i64 (Bl.char p0 l0).1)), (20, .val (.bool ((Bl.char p0 l0).2.2))), (21, .val (.int .i64 (Bl.code p0 l0).1)), (23, .val (.bool ((Bl.code p0 l0).2.2)))] w0 a w)
    (hQ : ∀ a' w', Hold 275 [(2, .val (.bool false)), (990, .sat (gP (s2 + 1) none)), (273, .val (.bool false))] w0 a' w' → Q .normal a' w') : (Code.region 34 lChecks34Ops false).wp Try.prog Q a w := by
  refine region_seq (w0 := w) 40 (by kernel_rfl) ?_
  rw [show List.range 40 = [0, 1, 2, 3, 4, 5, 6, 7, 8, 9, 10, 11, 12, 13, 14, 15, 16, 17, 18, 19, 20, 21, 22, 23, 24, 25, 26, 27, 28, 29, 30, 31, 32, 33, 34, 35, 36, 37, 38, 39] from rfl]
  refine env_one (i := 0) (d := 234) (k := .val (.bool true)) (step_move (by kernel_rfl) (Opd.of_base 20 rfl) (by rw [b5]; rfl)) (by kernel_rfl) (by decide) h ?_
  clear h
  intro a w h
  refine env_one (i := 1) (d := 235) (k := .val (.bool true)) (step_move (by kernel_rfl) (Opd.of_base 7 rfl) (by rw [e0]; rfl)) (by kernel_rfl) (by decide) h ?_
  clear h
  intro a w h
  refine env_one (i := 2) (d := 236) (k := .val (.bool true)) (step_move (by kernel_rfl) (Opd.of_base 235 rfl) rfl) (by kernel_rfl) (by decide) h ?_
  clear h
  intro a w h
  refine env_guard (i := 3) (d := 237) (g := 2) (dg := 236) (b := true) (k := .val (.string p0.2.2)) (step_move (by kernel_rfl) (Opd.of_base 5 rfl) (by rw [Bl.atom_val b0]; rfl)) (by kernel_rfl) (by decide) (by kernel_rfl) (by decide) rfl h ?_
  clear h
  intro a w h
  refine env_guard (i := 4) (d := 238) (g := 2) (dg := 236) (b := true) (k := .val (.int .i64 ((p0.2.2.size : Nat) : Int))) (step_len_str (by kernel_rfl) (Opd.of_base 237 rfl) rfl) (by kernel_rfl) (by decide) (by kernel_rfl) (by decide) rfl h ?_
  clear h
  intro a w h
  refine env_guard (i := 5) (d := 239) (g := 2) (dg := 236) (b := true) (k := .val (.bool true)) (step_eqb_int (m := ((p0.2.2.size : Nat) : Int)) (n := 1) (by kernel_rfl) (Opd.of_base 238 rfl) (Opd.const _) e5 rfl) (by kernel_rfl) (by decide) (by kernel_rfl) (by decide) rfl h ?_
  clear h
  intro a w h
  refine env_one (i := 6) (d := 240) (k := .val (.bool true)) (step_pick_yes (y := .const (.bool false)) (by kernel_rfl) (Opd.of_base 236 rfl) (Opd.of_base 239 rfl) rfl) (by kernel_rfl) (by decide) h ?_
  clear h
  intro a w h
  refine env_one (i := 7) (d := 241) (k := .val (.bool false)) (step_ne_bool (by kernel_rfl) (Opd.of_base 234 rfl) (Opd.of_base 240 rfl) (by simp) rfl) (by kernel_rfl) (by decide) h ?_
  clear h
  intro a w h
  refine env_one (i := 8) (d := 242) (k := .val (.bool false)) (step_move (by kernel_rfl) (Opd.of_base 241 rfl) rfl) (by kernel_rfl) (by decide) h ?_
  clear h
  intro a w h
  refine env_guard (i := 9) (d := 243) (g := 8) (dg := 242) (b := false) (k := .val (.bool false)) (step_move (by kernel_rfl) (Opd.of_base 23 rfl) (by rw [b6]; rfl)) (by kernel_rfl) (by decide) (by kernel_rfl) (by decide) rfl h ?_
  clear h
  intro a w h
  refine env_guard (i := 10) (d := 244) (g := 8) (dg := 242) (b := false) (k := .val (.bool false)) (step_move (by kernel_rfl) (Opd.of_base 10 rfl) (by rw [e1]; rfl)) (by kernel_rfl) (by decide) (by kernel_rfl) (by decide) rfl h ?_
  clear h
  intro a w h
  refine env_guard (i := 11) (d := 245) (g := 8) (dg := 242) (b := false) (k := .val (.bool false)) (step_move (by kernel_rfl) (Opd.of_base 244 rfl) rfl) (by kernel_rfl) (by decide) (by kernel_rfl) (by decide) rfl h ?_
  clear h
  intro a w h
  refine env_skip (i := 12) (d := 246) (g := 11) (dg := 245) (b := true) (by kernel_rfl) (by decide) (by kernel_rfl) rfl rfl h ?_
  clear h
  intro a w h
  refine env_skip (i := 13) (d := 247) (g := 11) (dg := 245) (b := true) (by kernel_rfl) (by decide) (by kernel_rfl) rfl rfl h ?_
  clear h
  intro a w h
  refine env_guard (i := 14) (d := 248) (g := 8) (dg := 242) (b := false) (k := .val (.bool false)) (step_pick_no (x := .tmp 247) (by kernel_rfl) (Opd.of_base 245 rfl) (Opd.const _) rfl) (by kernel_rfl) (by decide) (by kernel_rfl) (by decide) rfl h ?_
  clear h
  intro a w h
  refine env_guard (i := 15) (d := 249) (g := 8) (dg := 242) (b := false) (k := .val (.bool false)) (step_move (by kernel_rfl) (Opd.of_base 248 rfl) rfl) (by kernel_rfl) (by decide) (by kernel_rfl) (by decide) rfl h ?_
  clear h
  intro a w h
  refine env_skip (i := 16) (d := 250) (g := 15) (dg := 249) (b := true) (by kernel_rfl) (by decide) (by kernel_rfl) rfl rfl h ?_
  clear h
  intro a w h
  refine env_skip (i := 17) (d := 251) (g := 15) (dg := 249) (b := true) (by kernel_rfl) (by decide) (by kernel_rfl) rfl rfl h ?_
  clear h
  intro a w h
  refine env_guard (i := 18) (d := 252) (g := 8) (dg := 242) (b := false) (k := .val (.bool false)) (step_pick_no (x := .tmp 251) (by kernel_rfl) (Opd.of_base 249 rfl) (Opd.const _) rfl) (by kernel_rfl) (by decide) (by kernel_rfl) (by decide) rfl h ?_
  clear h
  intro a w h
  refine env_guard (i := 19) (d := 253) (g := 8) (dg := 242) (b := false) (k := .val (.bool false)) (step_ne_bool (by kernel_rfl) (Opd.of_base 243 rfl) (Opd.of_base 252 rfl) (by simp) rfl) (by kernel_rfl) (by decide) (by kernel_rfl) (by decide) rfl h ?_
  clear h
  intro a w h
  refine env_one (i := 20) (d := 254) (k := .val (.bool false)) (step_pick_no (x := .const (.bool true)) (by kernel_rfl) (Opd.of_base 242 rfl) (Opd.of_base 253 rfl) rfl) (by kernel_rfl) (by decide) h ?_
  clear h
  intro a w h
  refine env_one (i := 21) (d := 255) (k := .val (.bool false)) (step_move (by kernel_rfl) (Opd.of_base 254 rfl) rfl) (by kernel_rfl) (by decide) h ?_
  clear h
  intro a w h
  refine env_guard (i := 22) (d := 256) (g := 21) (dg := 255) (b := false) (k := .val (.bool false)) (step_move (by kernel_rfl) (Opd.of_base 23 rfl) (by rw [b6]; rfl)) (by kernel_rfl) (by decide) (by kernel_rfl) (by decide) rfl h ?_
  clear h
  intro a w h
  refine env_guard (i := 23) (d := 257) (g := 21) (dg := 255) (b := false) (k := .val (.bool false)) (step_move (by kernel_rfl) (Opd.of_base 256 rfl) rfl) (by kernel_rfl) (by decide) (by kernel_rfl) (by decide) rfl h ?_
  clear h
  intro a w h
  refine env_skip (i := 24) (d := 258) (g := 23) (dg := 257) (b := true) (by kernel_rfl) (by decide) (by kernel_rfl) rfl rfl h ?_
  clear h
  intro a w h
  refine env_skip (i := 25) (d := 259) (g := 23) (dg := 257) (b := true) (by kernel_rfl) (by decide) (by kernel_rfl) rfl rfl h ?_
  clear h
  intro a w h
  refine env_skip (i := 26) (d := 260) (g := 23) (dg := 257) (b := true) (by kernel_rfl) (by decide) (by kernel_rfl) rfl rfl h ?_
  clear h
  intro a w h
  refine env_guard (i := 27) (d := 261) (g := 21) (dg := 255) (b := false) (k := .val (.bool false)) (step_pick_no (x := .tmp 260) (by kernel_rfl) (Opd.of_base 257 rfl) (Opd.const _) rfl) (by kernel_rfl) (by decide) (by kernel_rfl) (by decide) rfl h ?_
  clear h
  intro a w h
  refine env_one (i := 28) (d := 262) (k := .val (.bool false)) (step_pick_no (x := .const (.bool true)) (by kernel_rfl) (Opd.of_base 255 rfl) (Opd.of_base 261 rfl) rfl) (by kernel_rfl) (by decide) h ?_
  clear h
  intro a w h
  refine env_one (i := 29) (d := 263) (k := .val (.bool false)) (step_move (by kernel_rfl) (Opd.of_base 262 rfl) rfl) (by kernel_rfl) (by decide) h ?_
  clear h
  intro a w h
  refine env_guard (i := 30) (d := 264) (g := 29) (dg := 263) (b := false) (k := .val (.bool true)) (step_move (by kernel_rfl) (Opd.of_base 20 rfl) (by rw [b5]; rfl)) (by kernel_rfl) (by decide) (by kernel_rfl) (by decide) rfl h ?_
  clear h
  intro a w h
  refine env_guard (i := 31) (d := 265) (g := 29) (dg := 263) (b := false) (k := .val (.bool true)) (step_move (by kernel_rfl) (Opd.of_base 264 rfl) rfl) (by kernel_rfl) (by decide) (by kernel_rfl) (by decide) rfl h ?_
  clear h
  intro a w h
  refine env_guard (i := 32) (d := 266) (g := 31) (dg := 265) (b := true) (k := .val (.int .i64 ((byte0 p0.2.2 : Nat) : Int))) (step_move (by kernel_rfl) (Opd.of_base 18 rfl) (by rw [Bl.char_val b5]; rfl)) (by kernel_rfl) (by decide) (by kernel_rfl) (by decide) rfl h ?_
  clear h
  intro a w h
  refine env_guard (i := 33) (d := 267) (g := 31) (dg := 265) (b := true) (k := .val (.int .u8 ((byte0 p0.2.2 : Nat) : Int))) (step_to8 (z := byte0 p0.2.2) (byte0_lt _) (by kernel_rfl) (Opd.of_base 266 rfl) rfl) (by kernel_rfl) (by decide) (by kernel_rfl) (by decide) rfl h ?_
  clear h
  intro a w h
  refine env_guard (i := 34) (d := 268) (g := 31) (dg := 265) (b := true) (k := .sat (b1P (byte0 p0.2.2))) (step_b1 (z := byte0 p0.2.2) (by kernel_rfl) (Opd.of_base 267 rfl) rfl) (by kernel_rfl) (by decide) (by kernel_rfl) (by decide) rfl h ?_
  clear h
  intro a w h
  refine env_guard (i := 35) (d := 269) (g := 31) (dg := 265) (b := true) (k := .val (.string ⟨#[UInt8.ofNat (byte0 p0.2.2)]⟩)) (step_str1 (z := (byte0 p0.2.2)) (byte0_lt _) (by kernel_rfl) (Opd.of_base 268 rfl) rfl) (by kernel_rfl) (by decide) (by kernel_rfl) (by decide) rfl h ?_
  clear h
  intro a w h
  refine env_guard (i := 36) (d := 270) (g := 31) (dg := 265) (b := true) (k := .val (.string p0.2.2)) (step_move (by kernel_rfl) (Opd.of_base 5 rfl) (by rw [Bl.atom_val b0]; rfl)) (by kernel_rfl) (by decide) (by kernel_rfl) (by decide) rfl h ?_
  clear h
  intro a w h
  refine env_guard (i := 37) (d := 271) (g := 31) (dg := 265) (b := true) (k := .val (.bool false)) (step_ne_str (s := ⟨#[UInt8.ofNat (byte0 p0.2.2)]⟩) (t := p0.2.2) (by kernel_rfl) (Opd.of_base 269 rfl) (Opd.of_base 270 rfl) (by rw [decide_eq_true (Bl.one_byte (by simpa using e5))]; rfl) rfl) (by kernel_rfl) (by decide) (by kernel_rfl) (by decide) rfl h ?_
  clear h
  intro a w h
  refine env_guard (i := 38) (d := 272) (g := 29) (dg := 263) (b := false) (k := .val (.bool false)) (step_pick_yes (y := .const (.bool false)) (by kernel_rfl) (Opd.of_base 265 rfl) (Opd.of_base 271 rfl) rfl) (by kernel_rfl) (by decide) (by kernel_rfl) (by decide) rfl h ?_
  clear h
  intro a w h
  refine env_one (i := 39) (d := 273) (k := .val (.bool false)) (step_pick_no (x := .const (.bool true)) (by kernel_rfl) (Opd.of_base 263 rfl) (Opd.of_base 272 rfl) rfl) (by kernel_rfl) (by decide) h ?_
  clear h
  intro a w h
  exact hQ a w (h.keep [2, 990, 273])
theorem lChecks34i_region {Q : Exit → Act → World → Prop} (p0 : Pay) (l0 : Fo) (s : Nat) (s2 : Nat) (b0 : (Bl.atom p0 l0).2.2 = false) (b1 : (Bl.int p0 l0).2.2 = true) (b4 : (Bl.list p0 l0).2.2 = false) (b5 : (Bl.char p0 l0).2.2 = false) (b6 : (Bl.code p0 l0).2.2 = false) (b7 : (Bl.ind p0 l0).2.2.2 = false) (e0 : (p0.1 == 2) = false) (e1 : (p0.1 == 1) = true) (d1 : (Bl.int p0 l0).1 < 0) {w0 : World} {a : Act} {w : World} (h : Hold 275 [(2, .val (.bool false)), (990, .sat (gP (s2 + 1) none)), (5, .val (.string (Bl.atom p0 l0).1)), (7, .val (.bool ((p0.1) == 2))), (8, .val (.int .i64 (Bl.int p0 l0).1)), (10, .val (.bool ((p0.1) == 1))), (18, .val (.int .i64 (Bl.char p0 l0).1)), (20, .val (.bool ((Bl.char p0 l0).2.2))), (21, .val (.int .i64 (Bl.code p0 l0).1)), (23, .val (.bool ((Bl.code p0 l0).2.2)))] w0 a w)
    (hQ : ∀ a' w', Hold 275 [(2, .val (.bool false)), (990, .sat (gP (s2 + 1) none)), (273, .val (.bool false))] w0 a' w' → Q .normal a' w') : (Code.region 34 lChecks34Ops false).wp Try.prog Q a w := by
  refine region_seq (w0 := w) 40 (by kernel_rfl) ?_
  rw [show List.range 40 = [0, 1, 2, 3, 4, 5, 6, 7, 8, 9, 10, 11, 12, 13, 14, 15, 16, 17, 18, 19, 20, 21, 22, 23, 24, 25, 26, 27, 28, 29, 30, 31, 32, 33, 34, 35, 36, 37, 38, 39] from rfl]
  refine env_one (i := 0) (d := 234) (k := .val (.bool false)) (step_move (by kernel_rfl) (Opd.of_base 20 rfl) (by rw [b5]; rfl)) (by kernel_rfl) (by decide) h ?_
  clear h
  intro a w h
  refine env_one (i := 1) (d := 235) (k := .val (.bool false)) (step_move (by kernel_rfl) (Opd.of_base 7 rfl) (by rw [e0]; rfl)) (by kernel_rfl) (by decide) h ?_
  clear h
  intro a w h
  refine env_one (i := 2) (d := 236) (k := .val (.bool false)) (step_move (by kernel_rfl) (Opd.of_base 235 rfl) rfl) (by kernel_rfl) (by decide) h ?_
  clear h
  intro a w h
  refine env_skip (i := 3) (d := 237) (g := 2) (dg := 236) (b := true) (by kernel_rfl) (by decide) (by kernel_rfl) rfl rfl h ?_
  clear h
  intro a w h
  refine env_skip (i := 4) (d := 238) (g := 2) (dg := 236) (b := true) (by kernel_rfl) (by decide) (by kernel_rfl) rfl rfl h ?_
  clear h
  intro a w h
  refine env_skip (i := 5) (d := 239) (g := 2) (dg := 236) (b := true) (by kernel_rfl) (by decide) (by kernel_rfl) rfl rfl h ?_
  clear h
  intro a w h
  refine env_one (i := 6) (d := 240) (k := .val (.bool false)) (step_pick_no (x := .tmp 239) (by kernel_rfl) (Opd.of_base 236 rfl) (Opd.const _) rfl) (by kernel_rfl) (by decide) h ?_
  clear h
  intro a w h
  refine env_one (i := 7) (d := 241) (k := .val (.bool false)) (step_ne_bool (by kernel_rfl) (Opd.of_base 234 rfl) (Opd.of_base 240 rfl) (by simp) rfl) (by kernel_rfl) (by decide) h ?_
  clear h
  intro a w h
  refine env_one (i := 8) (d := 242) (k := .val (.bool false)) (step_move (by kernel_rfl) (Opd.of_base 241 rfl) rfl) (by kernel_rfl) (by decide) h ?_
  clear h
  intro a w h
  refine env_guard (i := 9) (d := 243) (g := 8) (dg := 242) (b := false) (k := .val (.bool false)) (step_move (by kernel_rfl) (Opd.of_base 23 rfl) (by rw [b6]; rfl)) (by kernel_rfl) (by decide) (by kernel_rfl) (by decide) rfl h ?_
  clear h
  intro a w h
  refine env_guard (i := 10) (d := 244) (g := 8) (dg := 242) (b := false) (k := .val (.bool true)) (step_move (by kernel_rfl) (Opd.of_base 10 rfl) (by rw [e1]; rfl)) (by kernel_rfl) (by decide) (by kernel_rfl) (by decide) rfl h ?_
  clear h
  intro a w h
  refine env_guard (i := 11) (d := 245) (g := 8) (dg := 242) (b := false) (k := .val (.bool true)) (step_move (by kernel_rfl) (Opd.of_base 244 rfl) rfl) (by kernel_rfl) (by decide) (by kernel_rfl) (by decide) rfl h ?_
  clear h
  intro a w h
  refine env_guard (i := 12) (d := 246) (g := 11) (dg := 245) (b := true) (k := .val (.int .i64 (Bl.int p0 l0).1)) (step_move (by kernel_rfl) (Opd.of_base 8 rfl) rfl) (by kernel_rfl) (by decide) (by kernel_rfl) (by decide) rfl h ?_
  clear h
  intro a w h
  refine env_guard (i := 13) (d := 247) (g := 11) (dg := 245) (b := true) (k := .val (.bool false)) (step_ge_int64 (m := (Bl.int p0 l0).1) (n := 0) (by kernel_rfl) (Opd.of_base 246 rfl) (Opd.const _) (decide_eq_false (by omega)) rfl) (by kernel_rfl) (by decide) (by kernel_rfl) (by decide) rfl h ?_
  clear h
  intro a w h
  refine env_guard (i := 14) (d := 248) (g := 8) (dg := 242) (b := false) (k := .val (.bool false)) (step_pick_yes (y := .const (.bool false)) (by kernel_rfl) (Opd.of_base 245 rfl) (Opd.of_base 247 rfl) rfl) (by kernel_rfl) (by decide) (by kernel_rfl) (by decide) rfl h ?_
  clear h
  intro a w h
  refine env_guard (i := 15) (d := 249) (g := 8) (dg := 242) (b := false) (k := .val (.bool false)) (step_move (by kernel_rfl) (Opd.of_base 248 rfl) rfl) (by kernel_rfl) (by decide) (by kernel_rfl) (by decide) rfl h ?_
  clear h
  intro a w h
  refine env_skip (i := 16) (d := 250) (g := 15) (dg := 249) (b := true) (by kernel_rfl) (by decide) (by kernel_rfl) rfl rfl h ?_
  clear h
  intro a w h
  refine env_skip (i := 17) (d := 251) (g := 15) (dg := 249) (b := true) (by kernel_rfl) (by decide) (by kernel_rfl) rfl rfl h ?_
  clear h
  intro a w h
  refine env_guard (i := 18) (d := 252) (g := 8) (dg := 242) (b := false) (k := .val (.bool false)) (step_pick_no (x := .tmp 251) (by kernel_rfl) (Opd.of_base 249 rfl) (Opd.const _) rfl) (by kernel_rfl) (by decide) (by kernel_rfl) (by decide) rfl h ?_
  clear h
  intro a w h
  refine env_guard (i := 19) (d := 253) (g := 8) (dg := 242) (b := false) (k := .val (.bool false)) (step_ne_bool (by kernel_rfl) (Opd.of_base 243 rfl) (Opd.of_base 252 rfl) (by simp) rfl) (by kernel_rfl) (by decide) (by kernel_rfl) (by decide) rfl h ?_
  clear h
  intro a w h
  refine env_one (i := 20) (d := 254) (k := .val (.bool false)) (step_pick_no (x := .const (.bool true)) (by kernel_rfl) (Opd.of_base 242 rfl) (Opd.of_base 253 rfl) rfl) (by kernel_rfl) (by decide) h ?_
  clear h
  intro a w h
  refine env_one (i := 21) (d := 255) (k := .val (.bool false)) (step_move (by kernel_rfl) (Opd.of_base 254 rfl) rfl) (by kernel_rfl) (by decide) h ?_
  clear h
  intro a w h
  refine env_guard (i := 22) (d := 256) (g := 21) (dg := 255) (b := false) (k := .val (.bool false)) (step_move (by kernel_rfl) (Opd.of_base 23 rfl) (by rw [b6]; rfl)) (by kernel_rfl) (by decide) (by kernel_rfl) (by decide) rfl h ?_
  clear h
  intro a w h
  refine env_guard (i := 23) (d := 257) (g := 21) (dg := 255) (b := false) (k := .val (.bool false)) (step_move (by kernel_rfl) (Opd.of_base 256 rfl) rfl) (by kernel_rfl) (by decide) (by kernel_rfl) (by decide) rfl h ?_
  clear h
  intro a w h
  refine env_skip (i := 24) (d := 258) (g := 23) (dg := 257) (b := true) (by kernel_rfl) (by decide) (by kernel_rfl) rfl rfl h ?_
  clear h
  intro a w h
  refine env_skip (i := 25) (d := 259) (g := 23) (dg := 257) (b := true) (by kernel_rfl) (by decide) (by kernel_rfl) rfl rfl h ?_
  clear h
  intro a w h
  refine env_skip (i := 26) (d := 260) (g := 23) (dg := 257) (b := true) (by kernel_rfl) (by decide) (by kernel_rfl) rfl rfl h ?_
  clear h
  intro a w h
  refine env_guard (i := 27) (d := 261) (g := 21) (dg := 255) (b := false) (k := .val (.bool false)) (step_pick_no (x := .tmp 260) (by kernel_rfl) (Opd.of_base 257 rfl) (Opd.const _) rfl) (by kernel_rfl) (by decide) (by kernel_rfl) (by decide) rfl h ?_
  clear h
  intro a w h
  refine env_one (i := 28) (d := 262) (k := .val (.bool false)) (step_pick_no (x := .const (.bool true)) (by kernel_rfl) (Opd.of_base 255 rfl) (Opd.of_base 261 rfl) rfl) (by kernel_rfl) (by decide) h ?_
  clear h
  intro a w h
  refine env_one (i := 29) (d := 263) (k := .val (.bool false)) (step_move (by kernel_rfl) (Opd.of_base 262 rfl) rfl) (by kernel_rfl) (by decide) h ?_
  clear h
  intro a w h
  refine env_guard (i := 30) (d := 264) (g := 29) (dg := 263) (b := false) (k := .val (.bool false)) (step_move (by kernel_rfl) (Opd.of_base 20 rfl) (by rw [b5]; rfl)) (by kernel_rfl) (by decide) (by kernel_rfl) (by decide) rfl h ?_
  clear h
  intro a w h
  refine env_guard (i := 31) (d := 265) (g := 29) (dg := 263) (b := false) (k := .val (.bool false)) (step_move (by kernel_rfl) (Opd.of_base 264 rfl) rfl) (by kernel_rfl) (by decide) (by kernel_rfl) (by decide) rfl h ?_
  clear h
  intro a w h
  refine env_skip (i := 32) (d := 266) (g := 31) (dg := 265) (b := true) (by kernel_rfl) (by decide) (by kernel_rfl) rfl rfl h ?_
  clear h
  intro a w h
  refine env_skip (i := 33) (d := 267) (g := 31) (dg := 265) (b := true) (by kernel_rfl) (by decide) (by kernel_rfl) rfl rfl h ?_
  clear h
  intro a w h
  refine env_skip (i := 34) (d := 268) (g := 31) (dg := 265) (b := true) (by kernel_rfl) (by decide) (by kernel_rfl) rfl rfl h ?_
  clear h
  intro a w h
  refine env_skip (i := 35) (d := 269) (g := 31) (dg := 265) (b := true) (by kernel_rfl) (by decide) (by kernel_rfl) rfl rfl h ?_
  clear h
  intro a w h
  refine env_skip (i := 36) (d := 270) (g := 31) (dg := 265) (b := true) (by kernel_rfl) (by decide) (by kernel_rfl) rfl rfl h ?_
  clear h
  intro a w h
  refine env_skip (i := 37) (d := 271) (g := 31) (dg := 265) (b := true) (by kernel_rfl) (by decide) (by kernel_rfl) rfl rfl h ?_
  clear h
  intro a w h
  refine env_guard (i := 38) (d := 272) (g := 29) (dg := 263) (b := false) (k := .val (.bool false)) (step_pick_no (x := .tmp 271) (by kernel_rfl) (Opd.of_base 265 rfl) (Opd.const _) rfl) (by kernel_rfl) (by decide) (by kernel_rfl) (by decide) rfl h ?_
  clear h
  intro a w h
  refine env_one (i := 39) (d := 273) (k := .val (.bool false)) (step_pick_no (x := .const (.bool true)) (by kernel_rfl) (Opd.of_base 263 rfl) (Opd.of_base 272 rfl) rfl) (by kernel_rfl) (by decide) h ?_
  clear h
  intro a w h
  exact hQ a w (h.keep [2, 990, 273])
theorem lChecks34j_region {Q : Exit → Act → World → Prop} (p0 : Pay) (l0 : Fo) (s : Nat) (s2 : Nat) (b0 : (Bl.atom p0 l0).2.2 = false) (b1 : (Bl.int p0 l0).2.2 = true) (b4 : (Bl.list p0 l0).2.2 = false) (b5 : (Bl.char p0 l0).2.2 = false) (b6 : (Bl.code p0 l0).2.2 = false) (b7 : (Bl.ind p0 l0).2.2.2 = false) (e0 : (p0.1 == 2) = false) (e1 : (p0.1 == 1) = true) (d1 : 255 < (Bl.int p0 l0).1) {w0 : World} {a : Act} {w : World} (h : Hold 275 [(2, .val (.bool false)), (990, .sat (gP (s2 + 1) none)), (5, .val (.string (Bl.atom p0 l0).1)), (7, .val (.bool ((p0.1) == 2))), (8, .val (.int .i64 (Bl.int p0 l0).1)), (10, .val (.bool ((p0.1) == 1))), (18, .val (.int .i64 (Bl.char p0 l0).1)), (20, .val (.bool ((Bl.char p0 l0).2.2))), (21, .val (.int .i64 (Bl.code p0 l0).1)), (23, .val (.bool ((Bl.code p0 l0).2.2)))] w0 a w)
    (hQ : ∀ a' w', Hold 275 [(2, .val (.bool false)), (990, .sat (gP (s2 + 1) none)), (273, .val (.bool false))] w0 a' w' → Q .normal a' w') : (Code.region 34 lChecks34Ops false).wp Try.prog Q a w := by
  refine region_seq (w0 := w) 40 (by kernel_rfl) ?_
  rw [show List.range 40 = [0, 1, 2, 3, 4, 5, 6, 7, 8, 9, 10, 11, 12, 13, 14, 15, 16, 17, 18, 19, 20, 21, 22, 23, 24, 25, 26, 27, 28, 29, 30, 31, 32, 33, 34, 35, 36, 37, 38, 39] from rfl]
  refine env_one (i := 0) (d := 234) (k := .val (.bool false)) (step_move (by kernel_rfl) (Opd.of_base 20 rfl) (by rw [b5]; rfl)) (by kernel_rfl) (by decide) h ?_
  clear h
  intro a w h
  refine env_one (i := 1) (d := 235) (k := .val (.bool false)) (step_move (by kernel_rfl) (Opd.of_base 7 rfl) (by rw [e0]; rfl)) (by kernel_rfl) (by decide) h ?_
  clear h
  intro a w h
  refine env_one (i := 2) (d := 236) (k := .val (.bool false)) (step_move (by kernel_rfl) (Opd.of_base 235 rfl) rfl) (by kernel_rfl) (by decide) h ?_
  clear h
  intro a w h
  refine env_skip (i := 3) (d := 237) (g := 2) (dg := 236) (b := true) (by kernel_rfl) (by decide) (by kernel_rfl) rfl rfl h ?_
  clear h
  intro a w h
  refine env_skip (i := 4) (d := 238) (g := 2) (dg := 236) (b := true) (by kernel_rfl) (by decide) (by kernel_rfl) rfl rfl h ?_
  clear h
  intro a w h
  refine env_skip (i := 5) (d := 239) (g := 2) (dg := 236) (b := true) (by kernel_rfl) (by decide) (by kernel_rfl) rfl rfl h ?_
  clear h
  intro a w h
  refine env_one (i := 6) (d := 240) (k := .val (.bool false)) (step_pick_no (x := .tmp 239) (by kernel_rfl) (Opd.of_base 236 rfl) (Opd.const _) rfl) (by kernel_rfl) (by decide) h ?_
  clear h
  intro a w h
  refine env_one (i := 7) (d := 241) (k := .val (.bool false)) (step_ne_bool (by kernel_rfl) (Opd.of_base 234 rfl) (Opd.of_base 240 rfl) (by simp) rfl) (by kernel_rfl) (by decide) h ?_
  clear h
  intro a w h
  refine env_one (i := 8) (d := 242) (k := .val (.bool false)) (step_move (by kernel_rfl) (Opd.of_base 241 rfl) rfl) (by kernel_rfl) (by decide) h ?_
  clear h
  intro a w h
  refine env_guard (i := 9) (d := 243) (g := 8) (dg := 242) (b := false) (k := .val (.bool false)) (step_move (by kernel_rfl) (Opd.of_base 23 rfl) (by rw [b6]; rfl)) (by kernel_rfl) (by decide) (by kernel_rfl) (by decide) rfl h ?_
  clear h
  intro a w h
  refine env_guard (i := 10) (d := 244) (g := 8) (dg := 242) (b := false) (k := .val (.bool true)) (step_move (by kernel_rfl) (Opd.of_base 10 rfl) (by rw [e1]; rfl)) (by kernel_rfl) (by decide) (by kernel_rfl) (by decide) rfl h ?_
  clear h
  intro a w h
  refine env_guard (i := 11) (d := 245) (g := 8) (dg := 242) (b := false) (k := .val (.bool true)) (step_move (by kernel_rfl) (Opd.of_base 244 rfl) rfl) (by kernel_rfl) (by decide) (by kernel_rfl) (by decide) rfl h ?_
  clear h
  intro a w h
  refine env_guard (i := 12) (d := 246) (g := 11) (dg := 245) (b := true) (k := .val (.int .i64 (Bl.int p0 l0).1)) (step_move (by kernel_rfl) (Opd.of_base 8 rfl) rfl) (by kernel_rfl) (by decide) (by kernel_rfl) (by decide) rfl h ?_
  clear h
  intro a w h
  refine env_guard (i := 13) (d := 247) (g := 11) (dg := 245) (b := true) (k := .val (.bool true)) (step_ge_int64 (m := (Bl.int p0 l0).1) (n := 0) (by kernel_rfl) (Opd.of_base 246 rfl) (Opd.const _) (decide_eq_true (by omega)) rfl) (by kernel_rfl) (by decide) (by kernel_rfl) (by decide) rfl h ?_
  clear h
  intro a w h
  refine env_guard (i := 14) (d := 248) (g := 8) (dg := 242) (b := false) (k := .val (.bool true)) (step_pick_yes (y := .const (.bool false)) (by kernel_rfl) (Opd.of_base 245 rfl) (Opd.of_base 247 rfl) rfl) (by kernel_rfl) (by decide) (by kernel_rfl) (by decide) rfl h ?_
  clear h
  intro a w h
  refine env_guard (i := 15) (d := 249) (g := 8) (dg := 242) (b := false) (k := .val (.bool true)) (step_move (by kernel_rfl) (Opd.of_base 248 rfl) rfl) (by kernel_rfl) (by decide) (by kernel_rfl) (by decide) rfl h ?_
  clear h
  intro a w h
  refine env_guard (i := 16) (d := 250) (g := 15) (dg := 249) (b := true) (k := .val (.int .i64 (Bl.int p0 l0).1)) (step_move (by kernel_rfl) (Opd.of_base 8 rfl) rfl) (by kernel_rfl) (by decide) (by kernel_rfl) (by decide) rfl h ?_
  clear h
  intro a w h
  refine env_guard (i := 17) (d := 251) (g := 15) (dg := 249) (b := true) (k := .val (.bool false)) (step_lt_int64 (m := (Bl.int p0 l0).1) (n := 256) (by kernel_rfl) (Opd.of_base 250 rfl) (Opd.const _) (decide_eq_false (by omega)) rfl) (by kernel_rfl) (by decide) (by kernel_rfl) (by decide) rfl h ?_
  clear h
  intro a w h
  refine env_guard (i := 18) (d := 252) (g := 8) (dg := 242) (b := false) (k := .val (.bool false)) (step_pick_yes (y := .const (.bool false)) (by kernel_rfl) (Opd.of_base 249 rfl) (Opd.of_base 251 rfl) rfl) (by kernel_rfl) (by decide) (by kernel_rfl) (by decide) rfl h ?_
  clear h
  intro a w h
  refine env_guard (i := 19) (d := 253) (g := 8) (dg := 242) (b := false) (k := .val (.bool false)) (step_ne_bool (by kernel_rfl) (Opd.of_base 243 rfl) (Opd.of_base 252 rfl) (by simp) rfl) (by kernel_rfl) (by decide) (by kernel_rfl) (by decide) rfl h ?_
  clear h
  intro a w h
  refine env_one (i := 20) (d := 254) (k := .val (.bool false)) (step_pick_no (x := .const (.bool true)) (by kernel_rfl) (Opd.of_base 242 rfl) (Opd.of_base 253 rfl) rfl) (by kernel_rfl) (by decide) h ?_
  clear h
  intro a w h
  refine env_one (i := 21) (d := 255) (k := .val (.bool false)) (step_move (by kernel_rfl) (Opd.of_base 254 rfl) rfl) (by kernel_rfl) (by decide) h ?_
  clear h
  intro a w h
  refine env_guard (i := 22) (d := 256) (g := 21) (dg := 255) (b := false) (k := .val (.bool false)) (step_move (by kernel_rfl) (Opd.of_base 23 rfl) (by rw [b6]; rfl)) (by kernel_rfl) (by decide) (by kernel_rfl) (by decide) rfl h ?_
  clear h
  intro a w h
  refine env_guard (i := 23) (d := 257) (g := 21) (dg := 255) (b := false) (k := .val (.bool false)) (step_move (by kernel_rfl) (Opd.of_base 256 rfl) rfl) (by kernel_rfl) (by decide) (by kernel_rfl) (by decide) rfl h ?_
  clear h
  intro a w h
  refine env_skip (i := 24) (d := 258) (g := 23) (dg := 257) (b := true) (by kernel_rfl) (by decide) (by kernel_rfl) rfl rfl h ?_
  clear h
  intro a w h
  refine env_skip (i := 25) (d := 259) (g := 23) (dg := 257) (b := true) (by kernel_rfl) (by decide) (by kernel_rfl) rfl rfl h ?_
  clear h
  intro a w h
  refine env_skip (i := 26) (d := 260) (g := 23) (dg := 257) (b := true) (by kernel_rfl) (by decide) (by kernel_rfl) rfl rfl h ?_
  clear h
  intro a w h
  refine env_guard (i := 27) (d := 261) (g := 21) (dg := 255) (b := false) (k := .val (.bool false)) (step_pick_no (x := .tmp 260) (by kernel_rfl) (Opd.of_base 257 rfl) (Opd.const _) rfl) (by kernel_rfl) (by decide) (by kernel_rfl) (by decide) rfl h ?_
  clear h
  intro a w h
  refine env_one (i := 28) (d := 262) (k := .val (.bool false)) (step_pick_no (x := .const (.bool true)) (by kernel_rfl) (Opd.of_base 255 rfl) (Opd.of_base 261 rfl) rfl) (by kernel_rfl) (by decide) h ?_
  clear h
  intro a w h
  refine env_one (i := 29) (d := 263) (k := .val (.bool false)) (step_move (by kernel_rfl) (Opd.of_base 262 rfl) rfl) (by kernel_rfl) (by decide) h ?_
  clear h
  intro a w h
  refine env_guard (i := 30) (d := 264) (g := 29) (dg := 263) (b := false) (k := .val (.bool false)) (step_move (by kernel_rfl) (Opd.of_base 20 rfl) (by rw [b5]; rfl)) (by kernel_rfl) (by decide) (by kernel_rfl) (by decide) rfl h ?_
  clear h
  intro a w h
  refine env_guard (i := 31) (d := 265) (g := 29) (dg := 263) (b := false) (k := .val (.bool false)) (step_move (by kernel_rfl) (Opd.of_base 264 rfl) rfl) (by kernel_rfl) (by decide) (by kernel_rfl) (by decide) rfl h ?_
  clear h
  intro a w h
  refine env_skip (i := 32) (d := 266) (g := 31) (dg := 265) (b := true) (by kernel_rfl) (by decide) (by kernel_rfl) rfl rfl h ?_
  clear h
  intro a w h
  refine env_skip (i := 33) (d := 267) (g := 31) (dg := 265) (b := true) (by kernel_rfl) (by decide) (by kernel_rfl) rfl rfl h ?_
  clear h
  intro a w h
  refine env_skip (i := 34) (d := 268) (g := 31) (dg := 265) (b := true) (by kernel_rfl) (by decide) (by kernel_rfl) rfl rfl h ?_
  clear h
  intro a w h
  refine env_skip (i := 35) (d := 269) (g := 31) (dg := 265) (b := true) (by kernel_rfl) (by decide) (by kernel_rfl) rfl rfl h ?_
  clear h
  intro a w h
  refine env_skip (i := 36) (d := 270) (g := 31) (dg := 265) (b := true) (by kernel_rfl) (by decide) (by kernel_rfl) rfl rfl h ?_
  clear h
  intro a w h
  refine env_skip (i := 37) (d := 271) (g := 31) (dg := 265) (b := true) (by kernel_rfl) (by decide) (by kernel_rfl) rfl rfl h ?_
  clear h
  intro a w h
  refine env_guard (i := 38) (d := 272) (g := 29) (dg := 263) (b := false) (k := .val (.bool false)) (step_pick_no (x := .tmp 271) (by kernel_rfl) (Opd.of_base 265 rfl) (Opd.const _) rfl) (by kernel_rfl) (by decide) (by kernel_rfl) (by decide) rfl h ?_
  clear h
  intro a w h
  refine env_one (i := 39) (d := 273) (k := .val (.bool false)) (step_pick_no (x := .const (.bool true)) (by kernel_rfl) (Opd.of_base 263 rfl) (Opd.of_base 272 rfl) rfl) (by kernel_rfl) (by decide) h ?_
  clear h
  intro a w h
  exact hQ a w (h.keep [2, 990, 273])
theorem lChecks34k_region {Q : Exit → Act → World → Prop} (p0 : Pay) (l0 : Fo) (s : Nat) (s2 : Nat) (b0 : (Bl.atom p0 l0).2.2 = false) (b1 : (Bl.int p0 l0).2.2 = true) (b4 : (Bl.list p0 l0).2.2 = false) (b5 : (Bl.char p0 l0).2.2 = false) (b6 : (Bl.code p0 l0).2.2 = true) (b7 : (Bl.ind p0 l0).2.2.2 = false) (e0 : (p0.1 == 2) = false) (e1 : (p0.1 == 1) = true) (d1 : (Bl.code p0 l0).1 = (Bl.int p0 l0).1) (d2 : ¬ (Bl.int p0 l0).1 < 0) (d3 : ¬ 255 < (Bl.int p0 l0).1) {w0 : World} {a : Act} {w : World} (h : Hold 275 [(2, .val (.bool false)), (990, .sat (gP (s2 + 1) none)), (5, .val (.string (Bl.atom p0 l0).1)), (7, .val (.bool ((p0.1) == 2))), (8, .val (.int .i64 (Bl.int p0 l0).1)), (10, .val (.bool ((p0.1) == 1))), (18, .val (.int .i64 (Bl.char p0 l0).1)), (20, .val (.bool ((Bl.char p0 l0).2.2))), (21, .val (.int .i64 (Bl.code p0 l0).1)), (23, .val (.bool ((Bl.code p0 l0).2.2)))] w0 a w)
    (hQ : ∀ a' w', Hold 275 [(2, .val (.bool false)), (990, .sat (gP (s2 + 1) none)), (273, .val (.bool false))] w0 a' w' → Q .normal a' w') : (Code.region 34 lChecks34Ops false).wp Try.prog Q a w := by
  refine region_seq (w0 := w) 40 (by kernel_rfl) ?_
  rw [show List.range 40 = [0, 1, 2, 3, 4, 5, 6, 7, 8, 9, 10, 11, 12, 13, 14, 15, 16, 17, 18, 19, 20, 21, 22, 23, 24, 25, 26, 27, 28, 29, 30, 31, 32, 33, 34, 35, 36, 37, 38, 39] from rfl]
  refine env_one (i := 0) (d := 234) (k := .val (.bool false)) (step_move (by kernel_rfl) (Opd.of_base 20 rfl) (by rw [b5]; rfl)) (by kernel_rfl) (by decide) h ?_
  clear h
  intro a w h
  refine env_one (i := 1) (d := 235) (k := .val (.bool false)) (step_move (by kernel_rfl) (Opd.of_base 7 rfl) (by rw [e0]; rfl)) (by kernel_rfl) (by decide) h ?_
  clear h
  intro a w h
  refine env_one (i := 2) (d := 236) (k := .val (.bool false)) (step_move (by kernel_rfl) (Opd.of_base 235 rfl) rfl) (by kernel_rfl) (by decide) h ?_
  clear h
  intro a w h
  refine env_skip (i := 3) (d := 237) (g := 2) (dg := 236) (b := true) (by kernel_rfl) (by decide) (by kernel_rfl) rfl rfl h ?_
  clear h
  intro a w h
  refine env_skip (i := 4) (d := 238) (g := 2) (dg := 236) (b := true) (by kernel_rfl) (by decide) (by kernel_rfl) rfl rfl h ?_
  clear h
  intro a w h
  refine env_skip (i := 5) (d := 239) (g := 2) (dg := 236) (b := true) (by kernel_rfl) (by decide) (by kernel_rfl) rfl rfl h ?_
  clear h
  intro a w h
  refine env_one (i := 6) (d := 240) (k := .val (.bool false)) (step_pick_no (x := .tmp 239) (by kernel_rfl) (Opd.of_base 236 rfl) (Opd.const _) rfl) (by kernel_rfl) (by decide) h ?_
  clear h
  intro a w h
  refine env_one (i := 7) (d := 241) (k := .val (.bool false)) (step_ne_bool (by kernel_rfl) (Opd.of_base 234 rfl) (Opd.of_base 240 rfl) (by simp) rfl) (by kernel_rfl) (by decide) h ?_
  clear h
  intro a w h
  refine env_one (i := 8) (d := 242) (k := .val (.bool false)) (step_move (by kernel_rfl) (Opd.of_base 241 rfl) rfl) (by kernel_rfl) (by decide) h ?_
  clear h
  intro a w h
  refine env_guard (i := 9) (d := 243) (g := 8) (dg := 242) (b := false) (k := .val (.bool true)) (step_move (by kernel_rfl) (Opd.of_base 23 rfl) (by rw [b6]; rfl)) (by kernel_rfl) (by decide) (by kernel_rfl) (by decide) rfl h ?_
  clear h
  intro a w h
  refine env_guard (i := 10) (d := 244) (g := 8) (dg := 242) (b := false) (k := .val (.bool true)) (step_move (by kernel_rfl) (Opd.of_base 10 rfl) (by rw [e1]; rfl)) (by kernel_rfl) (by decide) (by kernel_rfl) (by decide) rfl h ?_
  clear h
  intro a w h
  refine env_guard (i := 11) (d := 245) (g := 8) (dg := 242) (b := false) (k := .val (.bool true)) (step_move (by kernel_rfl) (Opd.of_base 244 rfl) rfl) (by kernel_rfl) (by decide) (by kernel_rfl) (by decide) rfl h ?_
  clear h
  intro a w h
  refine env_guard (i := 12) (d := 246) (g := 11) (dg := 245) (b := true) (k := .val (.int .i64 (Bl.int p0 l0).1)) (step_move (by kernel_rfl) (Opd.of_base 8 rfl) rfl) (by kernel_rfl) (by decide) (by kernel_rfl) (by decide) rfl h ?_
  clear h
  intro a w h
  refine env_guard (i := 13) (d := 247) (g := 11) (dg := 245) (b := true) (k := .val (.bool true)) (step_ge_int64 (m := (Bl.int p0 l0).1) (n := 0) (by kernel_rfl) (Opd.of_base 246 rfl) (Opd.const _) (decide_eq_true (by omega)) rfl) (by kernel_rfl) (by decide) (by kernel_rfl) (by decide) rfl h ?_
  clear h
  intro a w h
  refine env_guard (i := 14) (d := 248) (g := 8) (dg := 242) (b := false) (k := .val (.bool true)) (step_pick_yes (y := .const (.bool false)) (by kernel_rfl) (Opd.of_base 245 rfl) (Opd.of_base 247 rfl) rfl) (by kernel_rfl) (by decide) (by kernel_rfl) (by decide) rfl h ?_
  clear h
  intro a w h
  refine env_guard (i := 15) (d := 249) (g := 8) (dg := 242) (b := false) (k := .val (.bool true)) (step_move (by kernel_rfl) (Opd.of_base 248 rfl) rfl) (by kernel_rfl) (by decide) (by kernel_rfl) (by decide) rfl h ?_
  clear h
  intro a w h
  refine env_guard (i := 16) (d := 250) (g := 15) (dg := 249) (b := true) (k := .val (.int .i64 (Bl.int p0 l0).1)) (step_move (by kernel_rfl) (Opd.of_base 8 rfl) rfl) (by kernel_rfl) (by decide) (by kernel_rfl) (by decide) rfl h ?_
  clear h
  intro a w h
  refine env_guard (i := 17) (d := 251) (g := 15) (dg := 249) (b := true) (k := .val (.bool true)) (step_lt_int64 (m := (Bl.int p0 l0).1) (n := 256) (by kernel_rfl) (Opd.of_base 250 rfl) (Opd.const _) (decide_eq_true (by omega)) rfl) (by kernel_rfl) (by decide) (by kernel_rfl) (by decide) rfl h ?_
  clear h
  intro a w h
  refine env_guard (i := 18) (d := 252) (g := 8) (dg := 242) (b := false) (k := .val (.bool true)) (step_pick_yes (y := .const (.bool false)) (by kernel_rfl) (Opd.of_base 249 rfl) (Opd.of_base 251 rfl) rfl) (by kernel_rfl) (by decide) (by kernel_rfl) (by decide) rfl h ?_
  clear h
  intro a w h
  refine env_guard (i := 19) (d := 253) (g := 8) (dg := 242) (b := false) (k := .val (.bool false)) (step_ne_bool (by kernel_rfl) (Opd.of_base 243 rfl) (Opd.of_base 252 rfl) (by simp) rfl) (by kernel_rfl) (by decide) (by kernel_rfl) (by decide) rfl h ?_
  clear h
  intro a w h
  refine env_one (i := 20) (d := 254) (k := .val (.bool false)) (step_pick_no (x := .const (.bool true)) (by kernel_rfl) (Opd.of_base 242 rfl) (Opd.of_base 253 rfl) rfl) (by kernel_rfl) (by decide) h ?_
  clear h
  intro a w h
  refine env_one (i := 21) (d := 255) (k := .val (.bool false)) (step_move (by kernel_rfl) (Opd.of_base 254 rfl) rfl) (by kernel_rfl) (by decide) h ?_
  clear h
  intro a w h
  refine env_guard (i := 22) (d := 256) (g := 21) (dg := 255) (b := false) (k := .val (.bool true)) (step_move (by kernel_rfl) (Opd.of_base 23 rfl) (by rw [b6]; rfl)) (by kernel_rfl) (by decide) (by kernel_rfl) (by decide) rfl h ?_
  clear h
  intro a w h
  refine env_guard (i := 23) (d := 257) (g := 21) (dg := 255) (b := false) (k := .val (.bool true)) (step_move (by kernel_rfl) (Opd.of_base 256 rfl) rfl) (by kernel_rfl) (by decide) (by kernel_rfl) (by decide) rfl h ?_
  clear h
  intro a w h
  refine env_guard (i := 24) (d := 258) (g := 23) (dg := 257) (b := true) (k := .val (.int .i64 (Bl.int p0 l0).1)) (step_move (by kernel_rfl) (Opd.of_base 21 rfl) (by rw [d1]; rfl)) (by kernel_rfl) (by decide) (by kernel_rfl) (by decide) rfl h ?_
  clear h
  intro a w h
  refine env_guard (i := 25) (d := 259) (g := 23) (dg := 257) (b := true) (k := .val (.int .i64 (Bl.int p0 l0).1)) (step_move (by kernel_rfl) (Opd.of_base 8 rfl) rfl) (by kernel_rfl) (by decide) (by kernel_rfl) (by decide) rfl h ?_
  clear h
  intro a w h
  refine env_guard (i := 26) (d := 260) (g := 23) (dg := 257) (b := true) (k := .val (.bool false)) (step_ne_int64 (m := (Bl.int p0 l0).1) (n := (Bl.int p0 l0).1) (by kernel_rfl) (Opd.of_base 258 rfl) (Opd.of_base 259 rfl) (by simp) rfl) (by kernel_rfl) (by decide) (by kernel_rfl) (by decide) rfl h ?_
  clear h
  intro a w h
  refine env_guard (i := 27) (d := 261) (g := 21) (dg := 255) (b := false) (k := .val (.bool false)) (step_pick_yes (y := .const (.bool false)) (by kernel_rfl) (Opd.of_base 257 rfl) (Opd.of_base 260 rfl) rfl) (by kernel_rfl) (by decide) (by kernel_rfl) (by decide) rfl h ?_
  clear h
  intro a w h
  refine env_one (i := 28) (d := 262) (k := .val (.bool false)) (step_pick_no (x := .const (.bool true)) (by kernel_rfl) (Opd.of_base 255 rfl) (Opd.of_base 261 rfl) rfl) (by kernel_rfl) (by decide) h ?_
  clear h
  intro a w h
  refine env_one (i := 29) (d := 263) (k := .val (.bool false)) (step_move (by kernel_rfl) (Opd.of_base 262 rfl) rfl) (by kernel_rfl) (by decide) h ?_
  clear h
  intro a w h
  refine env_guard (i := 30) (d := 264) (g := 29) (dg := 263) (b := false) (k := .val (.bool false)) (step_move (by kernel_rfl) (Opd.of_base 20 rfl) (by rw [b5]; rfl)) (by kernel_rfl) (by decide) (by kernel_rfl) (by decide) rfl h ?_
  clear h
  intro a w h
  refine env_guard (i := 31) (d := 265) (g := 29) (dg := 263) (b := false) (k := .val (.bool false)) (step_move (by kernel_rfl) (Opd.of_base 264 rfl) rfl) (by kernel_rfl) (by decide) (by kernel_rfl) (by decide) rfl h ?_
  clear h
  intro a w h
  refine env_skip (i := 32) (d := 266) (g := 31) (dg := 265) (b := true) (by kernel_rfl) (by decide) (by kernel_rfl) rfl rfl h ?_
  clear h
  intro a w h
  refine env_skip (i := 33) (d := 267) (g := 31) (dg := 265) (b := true) (by kernel_rfl) (by decide) (by kernel_rfl) rfl rfl h ?_
  clear h
  intro a w h
  refine env_skip (i := 34) (d := 268) (g := 31) (dg := 265) (b := true) (by kernel_rfl) (by decide) (by kernel_rfl) rfl rfl h ?_
  clear h
  intro a w h
  refine env_skip (i := 35) (d := 269) (g := 31) (dg := 265) (b := true) (by kernel_rfl) (by decide) (by kernel_rfl) rfl rfl h ?_
  clear h
  intro a w h
  refine env_skip (i := 36) (d := 270) (g := 31) (dg := 265) (b := true) (by kernel_rfl) (by decide) (by kernel_rfl) rfl rfl h ?_
  clear h
  intro a w h
  refine env_skip (i := 37) (d := 271) (g := 31) (dg := 265) (b := true) (by kernel_rfl) (by decide) (by kernel_rfl) rfl rfl h ?_
  clear h
  intro a w h
  refine env_guard (i := 38) (d := 272) (g := 29) (dg := 263) (b := false) (k := .val (.bool false)) (step_pick_no (x := .tmp 271) (by kernel_rfl) (Opd.of_base 265 rfl) (Opd.const _) rfl) (by kernel_rfl) (by decide) (by kernel_rfl) (by decide) rfl h ?_
  clear h
  intro a w h
  refine env_one (i := 39) (d := 273) (k := .val (.bool false)) (step_pick_no (x := .const (.bool true)) (by kernel_rfl) (Opd.of_base 263 rfl) (Opd.of_base 272 rfl) rfl) (by kernel_rfl) (by decide) h ?_
  clear h
  intro a w h
  exact hQ a w (h.keep [2, 990, 273])
theorem lChecks34_all {Q : Exit → Act → World → Prop} (p0 : Pay) (l0 : Fo) (s : Nat) (s2 : Nat) (hv : Tm.validB p0 l0 = true) (h1 : ¬ p0.1 = 0) {w0 : World} {a : Act} {w : World} (h : Hold 275 [(2, .val (.bool false)), (990, .sat (gP (s2 + 1) none)), (5, .val (.string (Bl.atom p0 l0).1)), (7, .val (.bool ((p0.1) == 2))), (8, .val (.int .i64 (Bl.int p0 l0).1)), (10, .val (.bool ((p0.1) == 1))), (18, .val (.int .i64 (Bl.char p0 l0).1)), (20, .val (.bool ((Bl.char p0 l0).2.2))), (21, .val (.int .i64 (Bl.code p0 l0).1)), (23, .val (.bool ((Bl.code p0 l0).2.2)))] w0 a w)
    (hQ : ∀ a' w', Hold 275 [(2, .val (.bool false)), (990, .sat (gP (s2 + 1) none)), (273, .val (.bool false))] w0 a' w' → Q .normal a' w') : (Code.region 34 lChecks34Ops false).wp Try.prog Q a w := by
  rcases Bl.combos p0 l0 with ⟨b0, b1, b4, b5, b6, b7⟩ | ⟨b0, b1, b4, b5, b6, b7⟩ | ⟨b0, b1, b4, b5, b6, b7⟩ | ⟨b0, b1, b4, b5, b6, b7⟩ | ⟨b0, b1, b4, b5, b6, b7⟩ | ⟨b0, b1, b4, b5, b6, b7⟩ | ⟨b0, b1, b4, b5, b6, b7⟩ | ⟨b0, b1, b4, b5, b6, b7⟩ | ⟨b0, b1, b4, b5, b6, b7⟩ | ⟨b0, b1, b4, b5, b6, b7⟩
  · have e0 := (Bl.atom_ok2 hv h1).symm.trans b0
    have e1 := (Bl.int_ok2 hv h1).symm.trans b1
    exact lChecks34a_region p0 l0 s s2 b0 b1 b4 b5 b6 b7 e0 e1 h hQ
  · have e0 := (Bl.atom_ok2 hv h1).symm.trans b0
    have e1 := (Bl.int_ok2 hv h1).symm.trans b1
    exact lChecks34b_region p0 l0 s s2 b0 b1 b4 b5 b6 b7 e0 e1 h hQ
  · have e0 := (Bl.atom_ok2 hv h1).symm.trans b0
    have e1 := (Bl.int_ok2 hv h1).symm.trans b1
    exact lChecks34c_region p0 l0 s s2 b0 b1 b4 b5 b6 b7 e0 e1 h hQ
  · have e0 := (Bl.atom_ok2 hv h1).symm.trans b0
    have e1 := (Bl.int_ok2 hv h1).symm.trans b1
    exact lChecks34d_region p0 l0 s s2 b0 b1 b4 b5 b6 b7 e0 e1 h hQ
  · have e0 := (Bl.atom_ok2 hv h1).symm.trans b0
    have e1 := (Bl.int_ok2 hv h1).symm.trans b1
    have e5 : (((p0.2.2.size : Nat) : Int) == 1) = false := by
      have := (Bl.char_ok2 hv h1).symm.trans b5
      unfold Bl.isCh at this
      rw [e0, Bool.true_and] at this
      exact this
    exact lChecks34e_region p0 l0 s s2 b0 b1 b4 b5 b6 b7 e0 e1 e5 h hQ
  · have e0 := (Bl.atom_ok2 hv h1).symm.trans b0
    have e1 := (Bl.int_ok2 hv h1).symm.trans b1
    have e5 : (((p0.2.2.size : Nat) : Int) == 1) = true := by
      have := (Bl.char_ok2 hv h1).symm.trans b5
      unfold Bl.isCh at this
      rw [e0, Bool.true_and] at this
      exact this
    exact lChecks34f_region p0 l0 s s2 b0 b1 b4 b5 b6 b7 e0 e1 e5 h hQ
  · have e0 := (Bl.atom_ok2 hv h1).symm.trans b0
    have e1 := (Bl.int_ok2 hv h1).symm.trans b1
    have e5 : (((p0.2.2.size : Nat) : Int) == 1) = false := by
      have := (Bl.char_ok2 hv h1).symm.trans b5
      unfold Bl.isCh at this
      rw [e0, Bool.true_and] at this
      exact this
    exact lChecks34g_region p0 l0 s s2 b0 b1 b4 b5 b6 b7 e0 e1 e5 h hQ
  · have e0 := (Bl.atom_ok2 hv h1).symm.trans b0
    have e1 := (Bl.int_ok2 hv h1).symm.trans b1
    have e5 : (((p0.2.2.size : Nat) : Int) == 1) = true := by
      have := (Bl.char_ok2 hv h1).symm.trans b5
      unfold Bl.isCh at this
      rw [e0, Bool.true_and] at this
      exact this
    exact lChecks34h_region p0 l0 s s2 b0 b1 b4 b5 b6 b7 e0 e1 e5 h hQ
  · have e0 := (Bl.atom_ok2 hv h1).symm.trans b0
    have e1 := (Bl.int_ok2 hv h1).symm.trans b1
    rcases Bl.code_not b1 b6 with d1 | d1
    · exact lChecks34i_region p0 l0 s s2 b0 b1 b4 b5 b6 b7 e0 e1 d1 h hQ
    · exact lChecks34j_region p0 l0 s s2 b0 b1 b4 b5 b6 b7 e0 e1 d1 h hQ
  · have e0 := (Bl.atom_ok2 hv h1).symm.trans b0
    have e1 := (Bl.int_ok2 hv h1).symm.trans b1
    obtain ⟨d1, d2, d3⟩ := Bl.code_val b6
    exact lChecks34k_region p0 l0 s s2 b0 b1 b4 b5 b6 b7 e0 e1 d1 d2 d3 h hQ
end Go.Proofs.Ytapcnehpechkpaa
