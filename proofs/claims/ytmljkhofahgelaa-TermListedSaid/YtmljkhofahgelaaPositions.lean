/-
  package term's positions: the closure that numbers variables in the order in which it is asked.
-/
import Derived.Test.YtmljkhofahgelaaMath
import Derived.Maps.OwnSet
namespace Go.Proofs.Ytmljkhofahgelaa
set_option linter.unusedVariables false
set_option linter.unusedSimpArgs false
open Go.RowKit
open Go.Maps (Keyed IsMap)

/-- How an element reads: as itself. -/
def Rv (v : Value) : Option (DataW Value × List MemPlace) := some (.held v, [])
theorem keyed : Keyed Try.prog 2 := Go.Maps.int_keyed Try.underlying2
theorem key_int {v : Int} (h0 : 0 ≤ v) (h1 : v ≤ 1099511627776) : keyOf Try.prog 2 (.int .i64 v) = some (.int .i64 v) := by
  refine Go.Maps.keyOf_int_mk Try.underlying2 ?_
  show (decide (IntKind.i64.min ≤ v) && decide (v ≤ IntKind.i64.max)) = true
  have e1 : IntKind.i64.min = -9223372036854775808 := by decide
  have e2 : IntKind.i64.max = 9223372036854775807 := by decide
  rw [e1, e2, Bool.and_eq_true, decide_eq_true_eq, decide_eq_true_eq]
  omega

/-- The cell kb holds the map mb, which leads from each number of L to its place in it. -/
structure MapSt (kb mb : Nat) (L : List Int) (w : World) : Prop where
  cell : w.cell? ⟨kb, 0, none⟩ = some (.map (some mb))
  ne : kb ≠ mb
  owns : ∃ D : DataW Value, w.ownsMap Try.prog 2 Rv mb L.length D ∧ Maps.size D = L.length ∧
    ∀ v : Int, (v ∈ L → Maps.has D (.int .i64 v) = true ∧ ∀ z, D.atKey (.int .i64 v) z = .held (.int .i64 (L.idxOf v))) ∧ (¬ v ∈ L → Maps.has D (.int .i64 v) = false)
theorem ownsMap_same {w w' : World} {b n : Nat} {D : DataW Value} (h : w.ownsMap Try.prog 2 Rv b n D) (hk : w'.heap[b]? = w.heap[b]?) : w'.ownsMap Try.prog 2 Rv b n D := by
  obtain ⟨es, clock, hh, r⟩ := h
  exact ⟨es, clock, hk.trans hh, r⟩
theorem MapSt.lt {kb mb : Nat} {L : List Int} {w : World} (h : MapSt kb mb L w) : kb < w.heap.size ∧ mb < w.heap.size := by
  obtain ⟨D, ho, _⟩ := h.owns
  exact ⟨World.block_lt_of_cell? w _ h.cell, ho.lt⟩
theorem MapSt.same {kb mb : Nat} {L : List Int} {w w' : World} (h : MapSt kb mb L w) (h1 : w'.heap[kb]? = w.heap[kb]?) (h2 : w'.heap[mb]? = w.heap[mb]?) : MapSt kb mb L w' := by
  obtain ⟨D, ho, r⟩ := h.owns
  exact ⟨(cell_of_block (p := ⟨kb, 0, none⟩) h1).trans h.cell, h.ne, D, ownsMap_same ho h2, r⟩

set_option maxHeartbeats 1000000 in
theorem positions1_any (kb mb : Nat) (L : List Int) (v : Int) (w : World) (h : MapSt kb mb L w) (h0 : 0 ≤ v) (h1 : v ≤ 1099511627776) (hlen : L.length ≤ 1099511627777) :
    Calls Try.prog 73 #[.int .i64 v, .pointer (some ⟨kb, 0, none⟩)] w fun e w' => e = .returned (.int .i64 (L.idxOf v)) ∧ MapSt kb mb (if v ∈ L then L else L ++ [v]) w' ∧ Only (· = mb) w w' := by
  have hc := h.cell
  obtain ⟨D, ho, hsz, hr⟩ := h.owns
  obtain ⟨u, ps, hrun, hv⟩ := ho.look_ok keyed Try.underlying66 (z := .int .i64 0) (by kernel_rfl) (zd := .held (.int .i64 0)) (zp := []) rfl (key_int h0 h1)
  have H := Lib.hid h
  by_cases hin : v ∈ L
  · rw [if_pos hin]
    obtain ⟨ha, hb⟩ := (hr v).1 hin
    rw [ha] at hrun
    rw [hb] at hv
    have hu : u = .int .i64 (L.idxOf v) := by simp [Rv] at hv; exact hv.1
    subst hu
    obtain ⟨z, hz⟩ : ∃ z : Int, z = (L.idxOf v : Int) := ⟨_, rfl⟩
    rw [← hz] at hrun ⊢
    clear h ho hsz hr hin ha hb hv hz
    go_enter Try.func73, Try.ntmps73
    go_wp2_with fail
    go_ret
    exact ⟨rfl, H.out, Only.refl _ _⟩
  · rw [if_neg hin]
    have hno := (hr v).2 hin
    rw [hno] at hrun
    have hln := ho.len (t := 66) Try.underlying66 3
    rw [hsz] at hln
    have hidx : L.idxOf v = L.length := List.idxOf_eq_length hin
    rw [hidx]
    obtain ⟨w2, hup, hown2, hgrow⟩ := ho.update keyed Try.underlying66 (by unfold maxLen; omega) (d := .held (.int .i64 L.length)) (ps := []) (key := .int .i64 v) (val := .int .i64 L.length) (key_int h0 h1) rfl
    have hst : MapSt kb mb (L ++ [v]) w2 := by
      have hkb := h.lt.1
      refine ⟨(cell_of_block (p := ⟨kb, 0, none⟩) (hgrow.block kb hkb (fun e => h.ne (Option.some.inj e)))).trans h.cell, h.ne, _, by rw [List.length_append]; exact hown2, ?_, fun y => ?_⟩
      · rw [Maps.size_put (ho.tidy keyed), hno, hsz, List.length_append]; rfl
      · by_cases hy : y = v
        · subst hy
          refine ⟨fun _ => ⟨Go.Maps.has_put_same ho.isMap (keyed.key (key_int h0 h1)) _, fun z => ?_⟩, fun hn => absurd (by simp) hn⟩
          rw [Go.Maps.atKey_put_same ho.isMap (keyed.key (key_int h0 h1)), List.idxOf_append, if_neg hin]
          simp
        · have hne : (Lit.int .i64 y) ≠ Lit.int .i64 v := fun e => hy (by injection e)
          refine ⟨fun hm => ?_, fun hm => ?_⟩
          · have hm' : y ∈ L := by simp at hm; rcases hm with h | h; exact h; exact absurd h hy
            obtain ⟨ha, hb⟩ := (hr y).1 hm'
            refine ⟨(Go.Maps.has_put_other hne _).trans ha, fun z => ?_⟩
            rw [Go.Maps.atKey_put_other hne, hb, List.idxOf_append, if_pos hm']
          · have hm' : ¬ y ∈ L := fun h => hm (by simp [h])
            exact (Go.Maps.has_put_other hne _).trans ((hr y).2 hm')
    have HST := Lib.hid hst
    have HG := Lib.hid hgrow
    clear h ho hsz hr hin hno hv hidx hst hgrow hown2
    go_enter Try.func73, Try.ntmps73
    go_wp2_with fail
    go_ret
    exact ⟨rfl, HST.out, ⟨HG.out.os, HG.out.tape, HG.out.output, HG.out.size, fun k hk hx => HG.out.block k hk (fun e => hx (Option.some.inj e))⟩⟩

theorem enters_positions1 : ∀ (args : Array Value) (w : World), (callFunc 73 args).run Try.prog w = .ok (.enter 73 args) w := fun args w => by kernel_rfl
set_option maxHeartbeats 400000 in
theorem positions_any (w : World) : Calls Try.prog 60 #[] w fun e w' => e = .returned (.func (.func 73) #[] #[.pointer (some ⟨w.heap.size + 1, 0, none⟩)]) ∧ MapSt (w.heap.size + 1) w.heap.size [] w' ∧ w'.heap.size = w.heap.size + 2 ∧ Below w.heap.size w w' := by
  have hmm := @run_makeMap Try.prog
  go_enter Try.func60, Try.ntmps60
  go_wp2_with fail
  go_ret
  refine ⟨rfl, ⟨(CellIs.new' (w.alloc _) _ _ _ (by simp)).cell, by omega, .map [], ?_, rfl, fun v => ⟨fun h => absurd h (by simp), fun _ => rfl⟩⟩, by simp, two_boxes _ _ _⟩
  exact ownsMap_same (World.ownsMap_made w _ _ _) (Below.heap_alloc _ _ _ (by simp))
end Go.Proofs.Ytmljkhofahgelaa
