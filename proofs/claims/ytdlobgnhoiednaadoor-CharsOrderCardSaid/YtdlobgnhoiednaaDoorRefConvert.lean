/-
  Convert and Same of the reference return what the plain functions give, for any slices of at most 1,000 pairs.
-/
import Derived.Test.YtdlobgnhoiednaaDoorConvert
namespace Go.Proofs.YtdlobgnhoiednaaDoor
set_option linter.unusedVariables false
set_option linter.unusedSimpArgs false
open Go.RowKit

theorem cell_drewN {w w1 : World} (h : ∃ q, w1 = w.drewN q) (p : Addr) : w1.cell? p = w.cell? p := by
  obtain ⟨q, rfl⟩ := h
  rfl
theorem below_of_drewN {w w1 : World} {B : Nat} (h : ∃ q, w1 = w.drewN q) : Below B w w1 := by
  obtain ⟨q, rfl⟩ := h
  exact below_drewN (Below.refl _ _) q

theorem convP_first {L : List (Int × Int)} {c : Int} {i : Nat} (hb : ∀ j, j < i → fs L j ≠ c) (hi : i < L.length) (h : fs L i = c) : convP L c = sn L i := by
  have e : L.find? (fun p => p.1 == c) = some L[i] := by
    rw [List.find?_eq_some_iff_getElem]
    refine ⟨?_, i, hi, rfl, ?_⟩
    · have := h
      unfold fs at this
      rw [getD_at hi] at this
      simpa using this
    · intro j hj
      have h2 := hb j hj
      unfold fs at h2
      rw [getD_at (by omega)] at h2
      simpa using h2
  unfold convP sn
  rw [e, getD_at hi]
  rfl

set_option maxHeartbeats 1000000 in
theorem refConvert_any (A : Option Addr) (n cap B : Nat) (c : Int) (L : List (Int × Int)) (w : World) (hn : n ≤ 1000) (h : PairsIn w B A n L) :
    Calls Tryd.prog 25 #[.slice A n cap, .int .i64 c] w fun e w' => e = .returned (.int .i64 (conv L c)) ∧ ∃ q, w' = w.drewN q := by
  have HP := Lib.hid h
  clear h
  cases hg : goodB L
  · have HE := Lib.hid (conv_no (c := c) (.inl hg))
    go_enter Tryd.func25, Tryd.ntmps25
    go_wp2_with fail
    refine (refValid_any A n cap B L _ hn HP.out).mono ?_
    rintro e w1 ⟨rfl, hq⟩
    have HQ := Lib.hid hq
    clear hq
    go_wp2_with fail
    go_ret
    exact ⟨by rw [HE.out]; rfl, HQ.out⟩
  cases hc : Ch.isCh c
  · have HE := Lib.hid (conv_no (L := L) (.inr hc))
    go_enter Tryd.func25, Tryd.ntmps25
    go_wp2_with fail
    refine (refValid_any A n cap B L _ hn HP.out).mono ?_
    rintro e w1 ⟨rfl, hq⟩
    have HQ := Lib.hid hq
    clear hq
    go_wp2_with fail
    refine (refIs_any _ _).mono ?_
    rintro e w2 ⟨rfl, rfl⟩
    go_wp2_with fail
    go_ret
    exact ⟨by rw [HE.out]; rfl, HQ.out⟩
  · have HE := Lib.hid (conv_yes hg hc)
    go_enter Tryd.func25, Tryd.ntmps25
    go_wp2_with fail
    refine (refValid_any A n cap B L _ hn HP.out).mono ?_
    rintro e w1 ⟨rfl, hq⟩
    have HQ := Lib.hid hq
    clear hq
    go_wp2_with fail
    refine (refIs_any _ _).mono ?_
    rintro e w2 ⟨rfl, rfl⟩
    go_wp2_with fail
    go_loop [5] (fun i => ∃ k : Nat, k ≤ n ∧ i = .int .i64 k ∧ ∀ j, j < k → fs L j ≠ c) (fun i => n - (intOf i).toNat)
    case atStart => exact ⟨0, Nat.zero_le _, rfl, fun j hj => absurd hj (by omega)⟩
    case round =>
      obtain ⟨k, hk, rfl, hno⟩ := hrel
      have HN := Lib.hid hno
      clear hno
      by_cases hlt : k < n
      · obtain ⟨b, off, rfl, hb, hcell⟩ := HP.out.cells (by omega)
        have h1 : w1.cell? ⟨b, off + k * 2, none⟩ = some (.int .i64 (fs L k)) := (cell_drewN HQ.out _).trans (hcell k hlt).1
        have h2 : w1.cell? ⟨b, off + k * 2 + 1, none⟩ = some (.int .i64 (sn L k)) := (cell_drewN HQ.out _).trans (hcell k hlt).2
        clear hcell
        cases hx : (fs L k == c)
        · have hne : fs L k ≠ c := by simpa using hx
          have HX := Lib.hid hne
          clear hne
          go_wp2_with fail
          refine ⟨⟨k + 1, by omega, by go_num, fun j hj => ?_⟩, by simp [intOf]; omega⟩
          by_cases hjk : j = k
          · subst hjk; exact HX.out
          · exact HN.out j (by omega)
        · have hfk : convP L c = sn L k := convP_first HN.out (by have := HP.out.len; omega) (by simpa using hx)
          have HF := Lib.hid hfk
          clear hfk
          go_wp2_with fail
          go_ret
          exact ⟨by rw [HE.out, HF.out]; rfl, HQ.out⟩
      · have hm : convP L c = c := convP_miss fun j hj => HN.out j (by have := HP.out.len; omega)
        have HM := Lib.hid hm
        clear hm
        go_wp2_with fail
        go_ret
        exact ⟨by rw [HE.out, HM.out]; rfl, HQ.out⟩

/-- Whether two tables are equal. -/
def sameB (L M : List (Int × Int)) : Bool := decide (L = M)
theorem same_of {L M : List (Int × Int)} (hl : L.length = M.length) (h : ∀ j, j < L.length → fs L j = fs M j ∧ sn L j = sn M j) : L = M := by
  apply List.ext_getElem hl
  intro j h1 h2
  have := h j h1
  unfold fs sn at this
  rw [getD_at h1, getD_at h2] at this
  exact Prod.ext this.1 this.2

theorem guardOff : Tryd.prog.eqGuardType Tryd.prog.depth 30 = false := by kernel_rfl
theorem neq_pair (a b c d : Int) (w : World) : (binOp .neq 30 (.agg #[.int .i64 a, .int .i64 b]) (.agg #[.int .i64 c, .int .i64 d])).run Tryd.prog w = .ok (.bool (!(a == c && b == d))) w := by
  have u3 := Tryd.underlying3
  have a3 := Tryd.isAgg3
  have z3 := Tryd.sizeOf3
  have hS : Tryd.prog.underlying 30 = some (.struct (Tryd.prog.fieldsOf 30)) := by kernel_rfl
  have hp : Tryd.prog.stoodInHeld 30 = false := by kernel_rfl
  rw [run_neq_struct, show (10000 : Nat) = 9999 + 1 from rfl, run_equalIn_agg w 9999 30 _ _ hS hp]
  simp only [Program.fieldsOf, Tryd.underlying30]
  go_simp
  by_cases h1 : a = c <;> by_cases h2 : b = d <;> simp [h1, h2]
theorem neq_no {a b c d : Int} (h : a = c ∧ b = d) (w : World) : (binOp .neq 30 (.agg #[.int .i64 a, .int .i64 b]) (.agg #[.int .i64 c, .int .i64 d])).run Tryd.prog w = .ok (.bool false) w := by
  rw [neq_pair]; simp [h.1, h.2]
theorem neq_yes {a b c d : Int} (h : ¬ (a = c ∧ b = d)) (w : World) : (binOp .neq 30 (.agg #[.int .i64 a, .int .i64 b]) (.agg #[.int .i64 c, .int .i64 d])).run Tryd.prog w = .ok (.bool true) w := by
  rw [neq_pair, show (a == c && b == d) = false from by simpa using h]; rfl

set_option maxHeartbeats 2000000 in
theorem refSame_any (A A' : Option Addr) (n n' cap cap' B B' : Nat) (L M : List (Int × Int)) (w : World) (hn : n ≤ 1000) (hn' : n' ≤ 1000) (hL : PairsIn w B A n L) (hM : PairsIn w B' A' n' M) :
    Calls Tryd.prog 26 #[.slice A n cap, .slice A' n' cap'] w fun e w' => e = .returned (.bool (sameB L M)) ∧ ∃ q, w' = w.drewN q := by
  have HL := Lib.hid hL
  have HM := Lib.hid hM
  clear hL hM
  by_cases hne : n = n'
  · subst hne
    go_enter Tryd.func26, Tryd.ntmps26
    go_wp2_with fail
    go_loopw [5] (fun i wr => ∃ k : Nat, k ≤ n ∧ i = .int .i64 k ∧ (∀ j, j < k → fs L j = fs M j ∧ sn L j = sn M j) ∧ ∃ q, wr = w.drewN q) (fun i _ => n - (intOf i).toNat)
    case atStart => exact ⟨0, Nat.zero_le _, rfl, fun j hj => absurd hj (by omega), 0, rfl⟩
    case round =>
      obtain ⟨k, hk, rfl, heq, hq⟩ := hrel
      have HQ := Lib.hid hq
      have HE := Lib.hid heq
      clear hq heq
      by_cases hlt : k < n
      · obtain ⟨b, off, rfl, hb, hcell⟩ := HL.out.cells (by omega)
        obtain ⟨b', off', rfl, hb', hcell'⟩ := HM.out.cells (by omega)
        have h1 : wr.cell? ⟨b, off + k * 2, none⟩ = some (.int .i64 (fs L k)) := (cell_drewN HQ.out _).trans (hcell k hlt).1
        have h2 : wr.cell? ⟨b, off + k * 2 + 1, none⟩ = some (.int .i64 (sn L k)) := (cell_drewN HQ.out _).trans (hcell k hlt).2
        have h3 : wr.cell? ⟨b', off' + k * 2, none⟩ = some (.int .i64 (fs M k)) := (cell_drewN HQ.out _).trans (hcell' k hlt).1
        have h4 : wr.cell? ⟨b', off' + k * 2 + 1, none⟩ = some (.int .i64 (sn M k)) := (cell_drewN HQ.out _).trans (hcell' k hlt).2
        clear hcell hcell'
        have hm := guardOff
        by_cases hx : fs L k = fs M k ∧ sn L k = sn M k
        · have hnq := neq_no hx
          have HX := Lib.hid hx
          clear hx
          go_wp2_with fail
          go_quiet (fail)
          go_wp2_with fail
          refine ⟨⟨k + 1, by omega, by go_num, fun j hj => ?_, drewN_more HQ.out _⟩, by simp [intOf]; omega⟩
          by_cases hjk : j = k
          · subst hjk; exact HX.out
          · exact HE.out j (by omega)
        · have hnq := neq_yes hx
          have hs : sameB L M = false := decide_eq_false fun h => hx (by subst h; exact ⟨rfl, rfl⟩)
          have HS := Lib.hid hs
          clear hx hs
          go_wp2_with fail
          go_quiet (fail)
          go_wp2_with fail
          go_ret
          exact ⟨by rw [HS.out]; rfl, drewN_more HQ.out _⟩
      · have hs : sameB L M = true := decide_eq_true (same_of (HL.out.len.trans HM.out.len.symm) fun j hj => HE.out j (by have := HL.out.len; omega))
        have HS := Lib.hid hs
        clear hs
        go_wp2_with fail
        go_ret
        exact ⟨by rw [HS.out]; rfl, HQ.out⟩
  · have hs : sameB L M = false := decide_eq_false fun h => hne (by rw [← HL.out.len, ← HM.out.len, h])
    have HS := Lib.hid hs
    clear hs
    have hb : ((n : Int) != (n' : Int)) = true := by rw [bne_iff_ne]; omega
    go_enter Tryd.func26, Tryd.ntmps26
    go_wp2_with fail
    go_ret
    exact ⟨by rw [HS.out]; rfl, 0, rfl⟩

end Go.Proofs.YtdlobgnhoiednaaDoor
