/-
  slices.Delete of one operator, in a table of the call's own.
-/
import Derived.Test.YtgbfkchjcjdnnaaDoorRows7
import Derived.Test.YtgbfkchjcjdnnaaDoorRows
import Derived.Deep.QuietTactic
import Derived.BigQuiet
namespace Go.Proofs.YtgbfkchjcjdnnaaDoor
set_option linter.unusedVariables false
set_option linter.unusedSimpArgs false
open Go.RowKit Q

/-- Block g is a table with room for cap operators, of which the first are L. -/
def Tab (w : World) (g cap : Nat) (L : List Ent) : Prop :=
  ∃ cur : List Value, w.heap[g]? = some (.cells cur.toArray 26 (0, 0)) ∧ cur.length = cap * 3 ∧ L.length ≤ cap ∧ cur.take (L.length * 3) = cellsOf L
theorem Tab.keep {w w' : World} {g cap : Nat} {L : List Ent} (h : Tab w g cap L) (hk : w'.heap[g]? = w.heap[g]?) : Tab w' g cap L := by
  obtain ⟨cur, h1, h2, h3, h4⟩ := h
  exact ⟨cur, hk.trans h1, h2, h3, h4⟩
theorem Tab.lt {w : World} {g cap : Nat} {L : List Ent} (h : Tab w g cap L) : g < w.heap.size := by
  obtain ⟨cur, h1, _⟩ := h
  rcases Nat.lt_or_ge g w.heap.size with hlt | hge
  · exact hlt
  · rw [Array.getElem?_eq_none hge] at h1; cases h1
theorem Tab.ops {w : World} {g cap B : Nat} {L : List Ent} (h : Tab w g cap L) (hB : g < B) : OpsIn w B (some ⟨g, 0, none⟩) L.length L := by
  obtain ⟨cur, h1, h2, h3, h4⟩ := h
  refine ⟨rfl, fun hn => ⟨g, 0, rfl, hB, fun j hj => ?_⟩⟩
  have hat := cellsOf_at L j hj
  have hget : ∀ i, i < L.length * 3 → cur[i]? = (cellsOf L)[i]? := fun i hi => by rw [← h4, List.getElem?_take_of_lt hi]
  refine ⟨?_, ?_, ?_⟩
  · rw [Nat.zero_add, cell_of_cells h1, hget _ (by omega)]; exact hat.1
  · rw [Nat.zero_add, cell_of_cells h1, hget _ (by omega)]; exact hat.2.1
  · rw [Nat.zero_add, cell_of_cells h1, hget _ (by omega)]; exact hat.2.2

/-- The zero operator. -/
def zV : Value := .agg #[.string ⟨#[]⟩, .int .i64 0, .int .i64 0]
theorem op_info : (Tryd.prog.info? 26).map (fun i => (i.zero, i.size, i.bytes)) = some (some (.agg #[.string ⟨#[]⟩, .int .i64 0, .int .i64 0]), 3, 32) := by kernel_rfl
theorem op_zero (w : World) : (zeroValue 26).run Tryd.prog w = .ok (.agg #[.string ⟨#[]⟩, .int .i64 0, .int .i64 0]) w := by kernel_rfl

set_option maxHeartbeats 2000000 in
set_option maxRecDepth 100000 in
theorem delete_tab (g cap i : Nat) (L : List Ent) (w : World) (h : Tab w g cap L) (hi : i < L.length) (hc : L.length + 1 ≤ cap) (hcap : cap ≤ 2000) :
    Calls Tryd.prog 40 #[.slice (some ⟨g, 0, none⟩) L.length cap, .int .i64 i, .int .i64 (i + 1)] w fun e w' =>
      e = .returned (.slice (some ⟨g, 0, none⟩) (L.length - 1) cap) ∧ Tab w' g cap (L.eraseIdx i) ∧ Below g w w' := by
  obtain ⟨i0, hi0, hz0, hz1, hz2⟩ := info_parts op_info
  obtain ⟨cur, h1, h2, h3, h4⟩ := h
  obtain ⟨n, hn⟩ : ∃ n, n = L.length := ⟨_, rfl⟩
  rw [← hn] at hi hc h3 h4 ⊢
  have hcj : ¬ cap = i + 1 := by omega
  have HN := Lib.hid hn
  clear hn
  have H1 := Lib.hid h1
  have H2 := Lib.hid h2
  have H4 := Lib.hid h4
  clear h1 h2 h4
  have hij : ((i : Int) == (i : Int) + 1) = false := by rw [beq_eq_false_iff_ne]; omega
  obtain ⟨cs, hcs⟩ : ∃ cs, cs = cellsOf (L.drop (i + 1)) := ⟨_, rfl⟩
  have s1 : Hid (cs.length = (n - (i + 1)) * 3) := by
    show cs.length = _
    rw [hcs, cellsOf_length, List.length_drop, HN.out]
  have s2 : Hid (0 < n - (i + 1) → ∃ ad : Addr, (some ⟨g, (i + 1) * 3, none⟩ : Option Addr) = some ad ∧ ∀ j v, cs[j]? = some v → w.drew.cell? (ad.add j) = some v) := by
    intro _
    refine ⟨_, rfl, fun j v hv => ?_⟩
    have hj : j < (n - (i + 1)) * 3 := by
      have := (List.getElem?_eq_some_iff.1 hv).1
      have := s1.out
      omega
    rw [hcs, ← cellsOf_drop, List.getElem?_drop, ← H4.out, List.getElem?_take_of_lt (by omega)] at hv
    rw [add_plain]
    show w.cell? _ = _
    rw [cell_of_cells H1.out]
    exact hv
  have s3 : Hid (∀ v ∈ cs, v.oneCell' = true) := by rw [hcs]; exact cellsOf_one _
  have s4 : Hid (w.drew.heap[g]? = some (.cells cur.toArray 26 (0, 0))) := H1.out
  have s5 : Hid (Below g w w.drew) := (Below.refl g w).drew
  have HCS := Lib.hid hcs
  clear hcs
  have hw1 : IntKind.i64.wrap ((i : Int) + 1) = (i : Int) + 1 := by rw [IntKind.wrap_i64]; omega
  have hp0 : (0 : Int) ≤ (i : Int) + 1 := by omega
  have hp1 : (i : Int) + 1 ≤ (n : Int) := by omega
  have hp2 : ((i : Int) + 1).toNat = i + 1 := by omega
  have hic : i ≤ cap := by omega
  go_enter Tryd.func40, Tryd.ntmps40
  go_wp2_with fail
  go_region_law (refine step_append_tab rfl (.tmp 22) (.tmp 25) 23 rfl 26 i0 3 (by decide) Tryd.underlying23 hi0 hz1 g i cap (by simp [Act.eval, Act.put]) cur 26 s4.out (some ⟨g, (i + 1) * 3, none⟩) (n - (i + 1)) (cap - (i + 1)) (by simp [Act.eval, Act.put]) cs s1.out s2.out rfl (by omega) H2.out s3.out g w s5.out (Nat.le_refl _) ?_; intro w1 hg1 hb1)
  have hlen1 : Hid ((splice cur (i * 3) cs).length = cap * 3) := by
    show (splice cur (i * 3) cs).length = _
    rw [length_splice _ _ _ (by have := s1.out; have := H2.out; omega)]
    exact H2.out
  go_wp2_with (refine wpList_clear_tab rfl (.tmp 31) 23 rfl 26 (.agg #[.string ⟨#[]⟩, .int .i64 0, .int .i64 0]) 3 Tryd.underlying23 op_zero rfl (by decide) g ((i + (n - (i + 1))) * 3) (n - (i + (n - (i + 1)))) _ rfl (by omega) (splice cur (i * 3) cs) 26 hg1.out (by have := hlen1.out; omega) (by decide) g w hb1.out (Nat.le_refl _) ?_; intro w2 zs hzl hg2 hb2)
  go_ret
  have hfin : (L.eraseIdx i).length = n - 1 := by rw [List.length_eraseIdx_of_lt (by have := HN.out; omega), ← HN.out]
  refine ⟨by rw [show i + (n - (i + 1)) = n - 1 from by omega]; rfl, ⟨_, hg2.out, ?_, by omega, ?_⟩, hb2.out⟩
  · rw [length_splice _ _ _ (by have := hlen1.out; have := hzl.out; omega)]
    exact hlen1.out
  · rw [hfin]
    have e1 : (splice (splice cur (i * 3) cs) ((i + (n - (i + 1))) * 3) zs).take ((n - 1) * 3) = (splice cur (i * 3) cs).take ((n - 1) * 3) := by
      rw [show (i + (n - (i + 1))) * 3 = (n - 1) * 3 from by omega]
      unfold splice
      rw [List.take_append_of_le_length (by have := hlen1.out; unfold splice at this; simp only [List.length_take]; omega)]
      rw [List.take_take, Nat.min_self]
    have e2 : (splice cur (i * 3) cs).take ((n - 1) * 3) = cellsOf (L.eraseIdx i) := by
      have hcl := s1.out
      have hcur := H2.out
      unfold splice
      rw [← List.append_assoc, List.take_append_of_le_length (by simp; omega), List.take_of_length_le (by simp; omega)]
      rw [HCS.out, List.eraseIdx_eq_take_drop_succ, cellsOf_append, ← cellsOf_take, ← H4.out, List.take_take, Nat.min_eq_left (by omega)]
    rw [e1, e2]

end Go.Proofs.YtgbfkchjcjdnnaaDoor
