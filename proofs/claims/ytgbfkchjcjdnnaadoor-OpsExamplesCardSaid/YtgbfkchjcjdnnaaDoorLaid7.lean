/-
  What the listed package-level variables give the walks; a start for the witness; the step from a walk to a row; an argument that is a slice of operators, or an operator, opened.
-/
import Derived.Test.YtgbfkchjcjdnnaaDoorCards
import Derived.Test.YtgbfkchjcjdnnaaDoorTie
import Derived.Test.YtgbfkchjcjdnnaaDoorSmall7
import Derived.WalkKit
import Derived.ProofKit
import Derived.OpenShut
import Derived.LaidMore
import Derived.Stop.Joined
import Derived.Stop.LaidErr
import Derived.Lib.LaidTab
import Derived.Deep.Slices
import Derived.Deep.Fields
import Derived.Deep.Strs
import Derived.ChangeSame
namespace Go.Proofs.YtgbfkchjcjdnnaaDoor
set_option linter.unusedVariables false
set_option linter.unusedSimpArgs false
open Go.ChangeShapes Go.WideShapes Go.ChangeAt Go.RowKit Go.Deep Q

def laid2 : List (String × DataW Unit) := Rows.opsDefaultRow.laid
def laid3 : List (String × DataW Unit) := Rows.opsExamplesRow.laid
theorem gPre : Tryd.prog.globalNamed "hornbeam/ops.predefined" = some 0 := by kernel_rfl
theorem tPre : (Tryd.prog.globals[0]?).map (·.type) = some 47 := by kernel_rfl
theorem gCla : Tryd.prog.globalNamed "hornbeam/ops.classes" = some 2 := by kernel_rfl
theorem tCla : (Tryd.prog.globals[2]?).map (·.type) = some 62 := by kernel_rfl
theorem gNam : Tryd.prog.globalNamed "hornbeam/ops.typeNames" = some 1 := by kernel_rfl
theorem tNam : (Tryd.prog.globals[1]?).map (·.type) = some 54 := by kernel_rfl
theorem nOp : Tryd.prog.cellsOf 26 = 3 := by kernel_rfl
theorem nPre : Tryd.prog.cellsOf 47 = 123 := by kernel_rfl
theorem nInt : Tryd.prog.cellsOf 3 = 1 := by kernel_rfl
theorem nStr : Tryd.prog.cellsOf 9 = 1 := by kernel_rfl
theorem nCla : Tryd.prog.cellsOf 62 = 8 := by kernel_rfl
theorem nNam : Tryd.prog.cellsOf 54 = 8 := by kernel_rfl

section
variable {H : Type} {enc : TypeId × Value → H} {W : World} {sp : Nat → Bool} {held : Bool} {base m : Nat} {cs : List Value} {x : DataW H × List MemPlace}
theorem op_of (h : DataW.trod enc Tryd.prog W base sp held m 26 cs = some x) :
    ∃ (s : ByteArray) (t p : Int), cs = [.string s, .int .i64 t, .int .i64 p] ∧ x.1 = .agg [.lit (.string s.data.toList), .lit (.int .i64 t), .lit (.int .i64 p)] := by
  obtain ⟨y0, y1, y2, n, rfl, hl, h0, h1, h2⟩ := trod_struct3 Tryd.underlying26 h
  rw [nOp] at hl
  match cs, hl with
  | [a, b, c], _ =>
    obtain ⟨s, e0, rfl, _⟩ := DataW.trod_string Tryd.underlying9 h0
    obtain ⟨t, e1, rfl, _⟩ := DataW.trod_int Tryd.underlying3 h1
    obtain ⟨p, e2, rfl, _⟩ := DataW.trod_int Tryd.underlying3 h2
    simp only [nInt, nStr] at e0 e1 e2
    simp at e0 e1 e2
    exact ⟨s, t, p, by rw [e0, e1, e2], rfl⟩
end

/-- The data that the program's text lays. -/
def datOf (e : Ent) : DataW Unit := .agg [.lit (.string e.1.data.toList), .lit (.int .i64 e.2.1), .lit (.int .i64 e.2.2)]
theorem dat_pre : (Rows.laid_hornbeam_ops_predefined : DataW Unit) = .agg (defL.map datOf) := by kernel_rfl
theorem dat_nam : (Rows.laid_hornbeam_ops_typeNames : DataW Unit) = .agg (typL.map fun s => .lit (.string s.data.toList)) := by kernel_rfl
theorem dat_cla : (Rows.laid_hornbeam_ops_classes : DataW Unit) = Lib.tabData .i64 claL := by kernel_rfl

theorem pre_of {W : World} {rest : List (String × DataW Unit)} (h : laidMet Tryd.prog (("hornbeam/ops.predefined", Rows.laid_hornbeam_ops_predefined) :: rest) W) :
    ∀ j v, (cellsOf defL)[j]? = some v → W.cell? ⟨0, j, none⟩ = some v := by
  obtain ⟨ps, ⟨g', t', cs, fuel, p, q, hg', ht', hvar, hd, _, _⟩, _⟩ := h
  obtain rfl := Option.some.inj (gPre.symm.trans hg')
  obtain rfl := Option.some.inj (tPre.symm.trans ht')
  obtain ⟨xs, m, _, hx, hlen, hn, hel⟩ := DataW.trod_array Tryd.underlying47 hd
  rw [nPre] at hlen
  simp only [nOp] at hel
  obtain ⟨cl⟩ := cs
  simp only at hlen hel
  have hcell := World.var?_cell gPre hvar
  simp only [Prod.mk.injEq] at hx
  have hxs := hx.1
  rw [dat_pre] at hxs
  simp only [DataW.agg.injEq] at hxs
  have hel3 : ∀ i, i < 41 → (cl.drop (i * 3)).take 3 = [.string (ent defL i).1, .int .i64 (ent defL i).2.1, .int .i64 (ent defL i).2.2] := by
    intro i hi
    have hxi : xs[i]? = some (xs[i]'(by omega)) := List.getElem?_eq_getElem (by omega)
    have h1 := hel i hi
    rw [hxi] at h1
    obtain ⟨s, t, p', hcs, hdat⟩ := op_of h1
    have h2 : (xs.map (·.1))[i]? = some (xs[i]'(by omega)).1 := by rw [List.getElem?_map, hxi]; rfl
    rw [← hxs, List.getElem?_map, List.getElem?_eq_getElem (show i < defL.length from hi)] at h2
    simp only [Option.map_some, Option.some.injEq] at h2
    rw [hdat] at h2
    unfold datOf at h2
    simp only [DataW.agg.injEq, List.cons.injEq, DataW.lit.injEq, Lit.string.injEq, Lit.int.injEq, and_true, true_and] at h2
    obtain ⟨e0, e1, e2⟩ := h2
    rw [hcs, ent_at (show i < defL.length from hi), e1, e2]
    rw [show (defL[i]'(show i < defL.length from hi)).1 = s from ByteArray.ext (Array.toList_inj.1 e0)]
  intro j v hv
  have hj : j < 123 := by
    have := (List.getElem?_eq_some_iff.1 hv).1
    rw [cellsOf_length] at this
    exact this
  have h2 : j / 3 < 41 := by omega
  have hk := cellsOf_at defL (j / 3) (show j / 3 < defL.length from h2)
  have h3 := hel3 (j / 3) h2
  have pick : ∀ (r : Nat) (u : Value), r < 3 → ([.string (ent defL (j / 3)).1, .int .i64 (ent defL (j / 3)).2.1, .int .i64 (ent defL (j / 3)).2.2] : List Value)[r]? = some u → W.cell? ⟨0, j / 3 * 3 + r, none⟩ = some u := by
    intro r u hr hu
    rw [← h3, List.getElem?_take_of_lt hr, List.getElem?_drop] at hu
    have h0 := hcell (j / 3 * 3 + r)
    simp only [List.getElem?_toArray] at h0
    exact h0.trans hu
  by_cases hm : j % 3 = 0
  · have e : j = j / 3 * 3 := by omega
    rw [e, hk.1] at hv
    have := pick 0 v (by omega) (by simpa using hv)
    rwa [Nat.add_zero, ← e] at this
  · by_cases hm1 : j % 3 = 1
    · have e : j = j / 3 * 3 + 1 := by omega
      rw [e, hk.2.1] at hv
      have := pick 1 v (by omega) (by simpa using hv)
      rwa [← e] at this
    · have e : j = j / 3 * 3 + 2 := by omega
      rw [e, hk.2.2] at hv
      have := pick 2 v (by omega) (by simpa using hv)
      rwa [← e] at this
theorem cla_of {W : World} {rest : List (String × DataW Unit)} (h : laidMet Tryd.prog (("hornbeam/ops.classes", Rows.laid_hornbeam_ops_classes) :: rest) W) :
    ∀ j c, claL[j]? = some c → W.cell? ⟨2, j, none⟩ = some (.int .i64 c) := by
  rw [dat_cla] at h
  have hB := Lib.tabIs_of_head gCla tCla Tryd.underlying62 Tryd.underlying3 nInt nCla h
  intro j c hc
  have hj : j < claL.length := (List.getElem?_eq_some_iff.1 hc).1
  have := hB.cell gCla j hj
  rw [this, List.getD_eq_getElem?_getD, hc]
  rfl
theorem nam_of {W : World} {rest : List (String × DataW Unit)} (h : laidMet Tryd.prog (("hornbeam/ops.typeNames", Rows.laid_hornbeam_ops_typeNames) :: rest) W) :
    ∀ j s, typL[j]? = some s → W.cell? ⟨1, j, none⟩ = some (.string s) := by
  obtain ⟨ps, ⟨g', t', cs, fuel, p, q, hg', ht', hvar, hd, _, _⟩, _⟩ := h
  obtain rfl := Option.some.inj (gNam.symm.trans hg')
  obtain rfl := Option.some.inj (tNam.symm.trans ht')
  obtain ⟨xs, m, _, hx, hlen, hn, hel⟩ := DataW.trod_array Tryd.underlying54 hd
  rw [nNam] at hlen
  simp only [nStr, Nat.mul_one] at hel
  obtain ⟨cl⟩ := cs
  simp only at hlen hel
  have hcell := World.var?_cell gNam hvar
  simp only [Prod.mk.injEq] at hx
  have hxs := hx.1
  rw [dat_nam] at hxs
  simp only [DataW.agg.injEq] at hxs
  intro j s hs
  have hj : j < 8 := (List.getElem?_eq_some_iff.1 hs).1
  have hxi : xs[j]? = some (xs[j]'(by omega)) := List.getElem?_eq_getElem (by omega)
  have h1 := hel j hj
  rw [hxi] at h1
  obtain ⟨s', hcs, hdat, _⟩ := DataW.trod_string Tryd.underlying9 h1
  have h2 : (xs.map (·.1))[j]? = some (xs[j]'(by omega)).1 := by rw [List.getElem?_map, hxi]; rfl
  rw [← hxs, List.getElem?_map, hs, hdat] at h2
  simp only [Option.map_some, Option.some.injEq, DataW.lit.injEq, Lit.string.injEq] at h2
  have hss : s = s' := ByteArray.ext (Array.toList_inj.1 h2)
  have h3 : ((cl.drop j).take 1)[0]? = some (.string s') := by rw [hcs]; rfl
  rw [List.getElem?_take_of_lt (by omega), List.getElem?_drop] at h3
  have h0 := hcell j
  simp only [List.getElem?_toArray] at h0
  rw [hss]
  exact h0.trans h3
theorem size_of {W : World} (h : ∀ j c, claL[j]? = some c → W.cell? ⟨2, j, none⟩ = some (.int .i64 c)) : 3 ≤ W.heap.size := by
  have h0 := h 0 0 rfl
  rcases Nat.lt_or_ge 2 W.heap.size with h' | h'
  · exact h'
  · simp [World.cell?, Array.getElem?_eq_none h'] at h0
theorem tabs_of_laid {W : World} (h : laidMetH Tryd.prog laid2 W) : Tabs W := by
  rw [MakeChecks.laidMetH_plain _ _ _ (by kernel_rfl)] at h
  have h1 : laidMet Tryd.prog [("hornbeam/ops.predefined", Rows.laid_hornbeam_ops_predefined), ("hornbeam/ops.classes", Rows.laid_hornbeam_ops_classes)] W := h
  have hc := cla_of (laidMet.tail h1)
  exact ⟨size_of hc, pre_of h1, hc⟩
theorem tabs_of_laid3 {W : World} (h : laidMetH Tryd.prog laid3 W) : Tabs W ∧ Nams W := by
  rw [MakeChecks.laidMetH_plain _ _ _ (by kernel_rfl)] at h
  have h1 : laidMet Tryd.prog [("hornbeam/ops.predefined", Rows.laid_hornbeam_ops_predefined), ("hornbeam/ops.classes", Rows.laid_hornbeam_ops_classes), ("hornbeam/ops.typeNames", Rows.laid_hornbeam_ops_typeNames)] W := h
  have hc := cla_of (laidMet.tail h1)
  exact ⟨⟨size_of hc, pre_of h1, hc⟩, ⟨size_of hc, nam_of (laidMet.tail (laidMet.tail h1))⟩⟩

/-- The door's own heap meets the condition. -/
theorem door_met2 (os : Os) (args : Array Value) : laidMetH Tryd.prog laid2 ((World.doorLaid Tryd.prog 65 os).forCall (fun _ _ => 0) ⟨#[], args, []⟩).memory :=
  laidMetH_of_parts3 (fuel := 8) (laidMet_of_run' 8 (by kernel_rfl) (by kernel_rfl)) (by kernel_rfl) (by kernel_rfl)
theorem door_met3 (os : Os) (args : Array Value) : laidMetH Tryd.prog laid3 ((World.doorLaid Tryd.prog 65 os).forCall (fun _ _ => 0) ⟨#[], args, []⟩).memory :=
  laidMetH_of_parts3 (fuel := 8) (laidMet_of_run' 8 (by kernel_rfl) (by kernel_rfl)) (by kernel_rfl) (by kernel_rfl)
theorem own : ownKnob Tryd.prog.godebug = none := by kernel_rfl
theorem laidOut : laidOutB Tryd.prog = true := by kernel_rfl

section
variable {H : Type} {enc : TypeId × Value → H} {P : Program}
theorem post_of_below {f : Func} {s : ChangeSpec} {apart fresh handsOn again : Bool} {W W' : World} {args : Array Value} {v : Value} {ds gs : List (DataW H)} {before pa pv : List MemPlace}
    (hW : DataW.Whole enc P f.params.toList s.vars apart W args.toList ds gs before)
    (hres : ∀ (b : Nat) (sp : Nat → Bool) (hd : Bool), DataW.TrodAll enc P W' b sp hd f.resultTypes.toList (v.resultList f.resultTypes.size) (s.fn H (ds ++ gs)).results [])
    (hargs : ∀ sp : Nat → Bool, (∀ p ∈ before, sp p.block = true) → DataW.TrodAll enc P W' 0 sp true f.params.toList args.toList (s.fn H (ds ++ gs)).args pa)
    (hvars : ∀ sp : Nat → Bool, (∀ p ∈ before, sp p.block = true) → DataW.TrodVars enc P W' sp s.vars (s.fn H (ds ++ gs)).vars pv)
    (hps : before = pa ++ pv) (hb : Below W.heap.size W W')
    (hok : ∀ (j : Nat) (t : TypeId) (r : Value), f.resultTypes[j]? = some t → (v.resultList f.resultTypes.size)[j]? = some r → Value.okWide P W' .any 0 t r) :
    s.post enc P f apart fresh handsOn again W args v W' := by
  have hlt : ∀ p ∈ before, p.block < W.heap.size := fun p hp => hW.lt p hp
  have hold : ∀ p ∈ before, (fun b => decide (b < W.heap.size)) p.block = true := fun p hp => by simpa using hlt p hp
  refine ⟨ds, gs, before, [], pa, pv, hW, hres _ _ _, hargs _ hold, hvars _ hold, World.keptBut_mono (fun p hp => ⟨hp, ?_⟩) (hb.frame (· ∈ before)), fun _ => ?_⟩
  · rw [hps, List.mem_append] at hp
    exact Or.inr hp
  · obtain ⟨_, _, _, _, _, hz, hn⟩ := hW
    refine ⟨hok, _, _, ([] ++ pa) ++ pv, ⟨[] ++ pa, pv, trodAll_append (hargs _ (fun _ _ => rfl)) (hres _ _ _), hvars _ (fun _ _ => rfl), rfl, ?_, ?_⟩, ?_⟩
    · intro b off hp
      have hin : MemPlace.cell b off ∈ before := by rw [hps]; simpa using hp
      rw [hb.frozen (hlt _ hin)]
      exact hz b off hin
    · intro ha
      have := hn ha
      rw [hps] at this
      simpa using this
    · intro p hp _
      rw [hps]
      simpa using hp
end


section
variable {H : Type} {enc : TypeId × Value → H} {P : Program} {w : World} {base : Nat} {spare : Nat → Bool} {held : Bool}
theorem open_slice_fields {t e : TypeId} {fs : Array Field} {fuel : Nat} {cs : List Value} {x : DataW H × List MemPlace} (ht : P.underlying t = some (.slice e)) (he : P.underlying e = some (.struct fs))
    (hone : oneCellFields P fs = true) (hC : P.cellsOf e = fs.size) (h : DataW.trod enc P w base spare held fuel t cs = some x) :
    (cs = [.slice none 0 0] ∧ x = (.nil, [])) ∨
    ∃ (a : Addr) (len cap m : Nat) (D : Nat → DataW H) (Pl : Nat → List MemPlace), cs = [.slice (some a) len cap] ∧ base ≤ a.block ∧ len ≤ cap ∧ cap ≤ maxLen ∧ m = (if spare a.block then cap else len) ∧
      x = (.slice ((List.range len).map D) ((List.range (m - len)).map fun j => D (len + j)), MemPlace.row a (m * fs.size) ++ (List.range m).flatMap Pl) ∧
      ∀ i, i < m → ∃ (ys : List (DataW H × List MemPlace)) (n : Nat), D i = .agg (ys.map (·.1)) ∧ Pl i = ys.flatMap (·.2) ∧ ys.length = fs.size ∧
        ∀ (j : Nat) (f : Field), fs[j]? = some f → ∃ (v : Value) (y : DataW H × List MemPlace), w.cell? (a.add (i * fs.size + j)) = some v ∧ ys[j]? = some y ∧ DataW.trod enc P w base spare held n f.type [v] = some y := by
  rcases open_slice ht h with h0 | ⟨a, len, cap, m, n, D, Pl, hcs, hb, hl, hm, hmm, hx, hi⟩
  · exact .inl h0
  · refine .inr ⟨a, len, cap, m, D, Pl, hcs, hb, hl, hm, hmm, by rw [hC] at hx; exact hx, fun i him => ?_⟩
    obtain ⟨cs', hc, ht'⟩ := hi i him
    rw [hC] at hc
    obtain ⟨ys, n', hn', hy, hlen, hyl, hf⟩ := DataW.trod_struct he ht'
    obtain ⟨_, hcl, hat⟩ := World.cells?_some hc
    simp only [Prod.mk.injEq] at hy
    refine ⟨ys, n', hy.1, hy.2, hyl, fun j f hj => ?_⟩
    obtain ⟨ho, hk⟩ := hone_of hone j f hj
    have hjl : j < fs.size := (Array.getElem?_eq_some_iff.1 hj).1
    have hcell := hat j hjl
    have hv : cs'[j]? = some (cs'[j]'(by omega)) := List.getElem?_eq_getElem (by omega)
    have h1 := hf j f hj
    rw [ho, hk] at h1
    have hone' : (cs'.drop j).take 1 = [cs'[j]'(by omega)] := by
      rw [List.drop_eq_getElem_cons (by omega)]
      rfl
    rw [hone'] at h1
    have hys : ys[j]? = some (ys[j]'(by omega)) := List.getElem?_eq_getElem (by omega)
    refine ⟨_, _, ?_, hys, h1.trans hys⟩
    rw [← Go.Deep.add_add, hcell, hv]
end


theorem open_ops {H : Type} {enc : TypeId × Value → H} {W : World} {base : Nat} {spare : Nat → Bool} {held : Bool} {A : Option Addr} {n cap fuel : Nat} {x : DataW H × List MemPlace} (hsp : ∀ b, spare b = true)
    (h : DataW.trod enc Tryd.prog W base spare held fuel 23 [.slice A n cap] = some x) :
    ∃ L, OpsIn W W.heap.size A n L ∧ (A = none → n = 0 ∧ cap = 0) ∧ n ≤ cap ∧ n ≤ 9223372036854775807 := by
  rcases open_slice_fields Tryd.underlying23 Tryd.underlying26 (by kernel_rfl) (by kernel_rfl) h with ⟨hcs, _⟩ | ⟨a, len, cap', m, D, Pl, hcs, _, hl, hm, hmm, _, hf⟩
  · simp only [List.cons.injEq, Value.slice.injEq, and_true] at hcs
    obtain ⟨rfl, rfl, rfl⟩ := hcs
    exact ⟨[], OpsIn.nil _ _ _, fun _ => ⟨rfl, rfl⟩, Nat.le_refl _, by omega⟩
  · simp only [List.cons.injEq, Value.slice.injEq, and_true] at hcs
    obtain ⟨rfl, rfl, rfl⟩ := hcs
    rw [hsp] at hmm
    simp only [if_true] at hmm
    have hcellx : ∀ i, i < n → ∃ p : Ent, W.cell? (a.add (i * 3)) = some (.string p.1) ∧ W.cell? (a.add (i * 3 + 1)) = some (.int .i64 p.2.1) ∧ W.cell? (a.add (i * 3 + 2)) = some (.int .i64 p.2.2) := by
      intro i hi
      obtain ⟨ys, k, _, _, _, hfi⟩ := hf i (by omega)
      obtain ⟨v0, y0, hc0, _, ht0⟩ := hfi 0 _ rfl
      obtain ⟨v1, y1, hc1, _, ht1⟩ := hfi 1 _ rfl
      obtain ⟨v2, y2, hc2, _, ht2⟩ := hfi 2 _ rfl
      obtain ⟨z0, e0, _, _⟩ := DataW.trod_string Tryd.underlying9 ht0
      obtain ⟨z1, e1, _, _⟩ := DataW.trod_int Tryd.underlying3 ht1
      obtain ⟨z2, e2, _, _⟩ := DataW.trod_int Tryd.underlying3 ht2
      simp only [List.cons.injEq, and_true] at e0 e1 e2
      subst e0 e1 e2
      exact ⟨(z0, z1, z2), hc0, hc1, hc2⟩
    obtain ⟨f, hff⟩ := choose_lt hcellx
    refine ⟨(List.range n).map f, ⟨by simp, fun hn => ?_⟩, (fun h => by cases h), hl, by unfold maxLen at hm; omega⟩
    obtain ⟨b, off, spot⟩ := a
    have h0 := (hff 0 hn).1
    have hspot : spot = none := by
      have := World.cell?_spot h0
      simpa [Addr.add] using this
    subst hspot
    refine ⟨b, off, rfl, ?_, fun j hj => ?_⟩
    · rcases Nat.lt_or_ge b W.heap.size with h' | h'
      · exact h'
      · rw [add_plain] at h0
        simp [World.cell?, Array.getElem?_eq_none h'] at h0
    · have hj2 := hff j hj
      rw [add_plain, add_plain, add_plain] at hj2
      have e : ent ((List.range n).map f) j = f j := by
        unfold ent
        rw [List.getD_eq_getElem?_getD, List.getElem?_map, List.getElem?_range hj]
        rfl
      rw [e]
      exact hj2

section
variable {H : Type} {enc : TypeId × Value → H} {w : World} {base : Nat} {sp : Nat → Bool} {held : Bool}
/-- An operator. -/
theorem open_op {r : Reach} {b0 : Nat} {v : Value} {d : DataW H} {ps : List MemPlace} (hval : Value.okWide Tryd.prog w r b0 26 v) (hd : DataW.Trod enc Tryd.prog w base sp held 26 v d ps) :
    ∃ (s : ByteArray) (t p : Int), v = .agg #[.string s, .int .i64 t, .int .i64 p] := by
  obtain ⟨cs, rfl, hsz⟩ := okWide_struct Tryd.underlying26 hval
  obtain ⟨fuel, hf⟩ := hd
  obtain ⟨s, t, p, e, _⟩ := op_of hf
  refine ⟨s, t, p, ?_⟩
  have : cs = #[.string s, .int .i64 t, .int .i64 p] := by
    apply Array.toList_inj.1
    simpa [Value.cells] using e
  rw [this]
end
end Go.Proofs.YtgbfkchjcjdnnaaDoor
