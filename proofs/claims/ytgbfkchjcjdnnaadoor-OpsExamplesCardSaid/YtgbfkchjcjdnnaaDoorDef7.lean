/-
  Default of package ops returns the predefined operators, in new memory.
-/
import Derived.Test.YtgbfkchjcjdnnaaDoorTypes7
import Derived.Deep.MidRow
namespace Go.Proofs.YtgbfkchjcjdnnaaDoor
set_option linter.unusedVariables false
set_option linter.unusedSimpArgs false
open Go.RowKit Q

theorem arr_size : (Tryd.prog.info? 47).map (·.size) = some 123 := by kernel_rfl
theorem def_len : (cellsOf defL).length = 123 := by rw [cellsOf_length]; rfl
theorem def_range {w : World} (hT : Tabs w) : w.rangeAt 0 0 (cellsOf defL) := fun j v hv => by rw [Nat.zero_add]; exact hT.pre j v hv
theorem arr_info : (Tryd.prog.info? 47).map (fun i => i.zero.map (·.cells.size)) = some (some 123) := by kernel_rfl
theorem arr_alloc (w : World) : ∃ Z : Array Value, Z.size = 123 ∧ (Instr.alloc 47 true (.tuple #[])).run Tryd.prog w = .ok (.pointer (some ⟨w.heap.size, 0, none⟩)) (w.alloc (.cells Z 47)) := by
  obtain ⟨i, hi, hz⟩ := Option.map_eq_some_iff.1 arr_info
  obtain ⟨z, hz, hs⟩ := Option.map_eq_some_iff.1 hz
  refine ⟨z.cells, hs, ?_⟩
  have hzv : (zeroValue 47).run Tryd.prog w = .ok z w := by simp [zeroValue, typeInfo, hi, hz]
  simp [Instr.alloc, hzv, newVar, newRow]
theorem wpList_arr {ops : Array Oper} {rest : List Oper} {o : Oper} {a : Act} {w : World} {Q : Exit → Act → World → Prop} (hgd : o.guard = none) (ho : o.op = .alloc 47)
    (h : ∀ Z : Array Value, Hid (Z.size = 123) → wpList Tryd.prog ops Q rest (a.put o.dst (.pointer (some ⟨w.heap.size, 0, none⟩))) (w.alloc (.cells Z 47))) : wpList Tryd.prog ops Q (o :: rest) a w := by
  obtain ⟨Z, hZ, hr⟩ := arr_alloc w
  refine wpList_plain hgd fun K hK => ?_
  unfold Oper.wp execOp
  simp [ho, hr]
  exact hK _ _ (h Z hZ)

theorem ops_of_cells {w : World} {g B : Nat} {t : TypeId} {L : List Ent} (h : w.heap[g]? = some (.cells (cellsOf L).toArray t (0, 0))) (hB : g < B) : OpsIn w B (some ⟨g, 0, none⟩) L.length L := by
  refine ⟨rfl, fun hn => ⟨g, 0, rfl, hB, fun j hj => ?_⟩⟩
  have hat := cellsOf_at L j hj
  refine ⟨?_, ?_, ?_⟩
  · rw [Nat.zero_add, cell_of_cells h]; exact hat.1
  · rw [Nat.zero_add, cell_of_cells h]; exact hat.2.1
  · rw [Nat.zero_add, cell_of_cells h]; exact hat.2.2
def DefEnd (w w' : World) (e : Ending) : Prop := ∃ A, e = .returned (.slice A 41 41) ∧ OpsIn w' w'.heap.size A 41 defL
set_option maxRecDepth 100000 in
theorem default_any (w : World) (hT : Tabs w) : Calls Tryd.prog 12 #[] w fun e w' => DefEnd w w' e ∧ Below w.heap.size w w' := by
  obtain ⟨cs, hcs⟩ : ∃ cs, cs = cellsOf defL := ⟨_, rfl⟩
  have hr := def_range hT
  have hl := def_len
  have h1 := cellsOf_one defL
  rw [← hcs] at hr hl h1
  have HR := Lib.hid hr
  have HL := Lib.hid hl
  have H1 := Lib.hid (show cs.toArray.all (·.oneCell') = true by rw [Array.all_eq_true_iff_forall_mem]; intro v hv; exact h1 v (by simpa using hv))
  have HI := Lib.hid (show (Tryd.prog.info? 47).map (·.size) = some cs.length by rw [hl]; exact arr_size)
  have HI2 := Lib.hid (show (Tryd.prog.info? 47).map (·.size) = some cs.toArray.size by rw [List.size_toArray, hl]; exact arr_size)
  have HCS := Lib.hid hcs
  clear hcs hr hl h1 hT
  go_enter Tryd.func12, Tryd.ntmps12
  go_wp2_with (first
    | (refine wpList_load_mid rfl 47 (.global 0) rfl 0 0 rfl cs _ HR.out Tryd.underlying47 rfl HI.out ?_)
    | (refine wpList_arr rfl rfl ?_; intro Z hZ)
    | (refine wpList_store_own rfl 47 (.tmp 1) (.tmp 2) rfl w.heap.size cs.toArray rfl rfl 47 Z (heap_alloc_new w _) HI2.out (by have := hZ.out; have := HL.out; simp; omega) H1.out w.heap.size w ((Below.refl _ _).alloc (Nat.le_refl _) _) (Nat.le_refl _) ?_; intro w2 hg2 hb2 hs2))
  go_ret
  rw [HCS.out] at hg2
  exact ⟨⟨_, rfl, ops_of_cells (L := defL) hg2.out (by rw [hs2.out]; simp)⟩, hb2.out⟩
end Go.Proofs.YtgbfkchjcjdnnaaDoor
