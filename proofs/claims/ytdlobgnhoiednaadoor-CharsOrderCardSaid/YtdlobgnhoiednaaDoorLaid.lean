/-
  What the listed package-level variables give the walks; a start for the witness; the step from a walk to a row.
-/
import Derived.Test.YtdlobgnhoiednaaDoorCards
import Derived.Test.YtdlobgnhoiednaaDoorTie
import Derived.Test.YtdlobgnhoiednaaDoorClass
import Derived.WalkKit
import Derived.ProofKit
import Derived.OpenShut
import Derived.LaidMore
import Derived.Stop.Joined
import Derived.Stop.LaidErr
import Derived.Lib.LaidTab
namespace Go.Proofs.YtdlobgnhoiednaaDoor
set_option linter.unusedVariables false
set_option linter.unusedSimpArgs false
open Go.ChangeShapes Go.WideShapes Go.ChangeAt Go.RowKit

def laidAll : List (String × DataW Unit) := Rows.charsExamplesRow.laid
theorem gGroups : Tryd.prog.globalNamed "hornbeam/chars.groups" = some 0 := by kernel_rfl
theorem tGroups : (Tryd.prog.globals[0]?).map (·.type) = some 47 := by kernel_rfl
theorem gBits : Tryd.prog.globalNamed "math/bits.deBruijn64tab" = some 4 := by kernel_rfl
theorem tBits : (Tryd.prog.globals[4]?).map (·.type) = some 74 := by kernel_rfl
theorem cTab : Tryd.prog.cellsOf 74 = 64 := by kernel_rfl
theorem cByte : Tryd.prog.cellsOf 5 = 1 := by kernel_rfl
theorem cGroup : Tryd.prog.cellsOf 44 = 2 := by kernel_rfl
theorem cGroups : Tryd.prog.cellsOf 47 = 14 := by kernel_rfl
theorem cInt : Tryd.prog.cellsOf 3 = 1 := by kernel_rfl
theorem cStr : Tryd.prog.cellsOf 9 = 1 := by kernel_rfl

theorem group_of {H : Type} {enc : TypeId × Value → H} {W : World} {sp : Nat → Bool} {held : Bool} {base m : Nat} {cs : List Value} {x : DataW H × List MemPlace} {k : Int} {l : List UInt8}
    (h : DataW.trod enc Tryd.prog W base sp held m 44 cs = some x) (hx : x.1 = .agg [.lit (.int .i64 k), .lit (.string l)]) : cs = [.int .i64 k, .string ⟨l.toArray⟩] := by
  obtain ⟨y0, y1, n, rfl, hl, h0, h1⟩ := trod_struct2 Tryd.underlying44 h
  rw [cGroup] at hl
  match cs, hl with
  | [a, b], _ =>
    obtain ⟨k', e0, rfl, _⟩ := DataW.trod_int Tryd.underlying3 h0
    obtain ⟨s, e1, rfl, _⟩ := DataW.trod_string Tryd.underlying9 h1
    simp only [DataW.agg.injEq, List.cons.injEq, DataW.lit.injEq, Lit.int.injEq, Lit.string.injEq, and_true, true_and] at hx
    obtain ⟨rfl, rfl⟩ := hx
    simp only [cInt, cStr] at e0 e1
    simp at e0 e1
    rw [e0, e1]

def z64 : List Int := [0, 1, 56, 2, 57, 49, 28, 3, 61, 58, 42, 50, 38, 29, 17, 4, 62, 47, 59, 36, 45, 43, 51, 22, 53, 39, 33, 30, 24, 18, 12, 5, 63, 55, 48, 27, 60, 41, 37, 16, 46, 35, 44, 21, 52, 32, 23, 11, 54, 26, 40, 15, 34, 20, 31, 10, 25, 14, 19, 9, 13, 8, 7, 6]
theorem tabs_of_laid {W : World} (h : laidMetH Tryd.prog laidAll W) : Tabs W := by
  rw [MakeChecks.laidMetH_plain _ _ _ (by kernel_rfl)] at h
  have h1 : laidMet Tryd.prog (("math/bits.deBruijn64tab", Lib.tabData .u8 z64) :: [("internal/strconv.uint64pow10", Rows.laid_internal_strconv_uint64pow10), ("hornbeam/chars.groups", Rows.laid_hornbeam_chars_groups)]) W := laidMet.tail (x := ("math/bits.deBruijn32tab", Rows.laid_math_bits_deBruijn32tab)) h
  have hB := Lib.tabIs_of_head gBits tBits Tryd.underlying74 Tryd.underlying5 cByte cTab h1
  have z := hB.cell gBits 15 (by decide)
  have hs : 5 ≤ W.heap.size := by
    rcases Nat.lt_or_ge 4 W.heap.size with h' | h'
    · exact h'
    · simp [World.cell?, Array.getElem?_eq_none h'] at z
  have hg := laidMet.tail (laidMet.tail h1)
  obtain ⟨ps, ⟨g', t', cs, fuel, p, q, hg', ht', hvar, hd, _, _⟩, _⟩ := hg
  obtain rfl := Option.some.inj (gGroups.symm.trans hg')
  obtain rfl := Option.some.inj (tGroups.symm.trans ht')
  obtain ⟨xs, m, _, hx, hlen, hn, hel⟩ := DataW.trod_array Tryd.underlying47 hd
  rw [cGroups] at hlen
  simp only [cGroup] at hel
  obtain ⟨cl⟩ := cs
  simp only at hlen hel
  have hcell := World.var?_cell hg' hvar
  match xs, hn with
  | [x0, x1, x2, x3, x4, x5, x6], _ =>
  simp only [Prod.mk.injEq, DataW.agg.injEq, List.map_cons, List.map_nil] at hx
  have hxs := hx.1
  unfold Rows.laid_hornbeam_chars_groups at hxs
  simp only [DataW.agg.injEq, List.cons.injEq, and_true] at hxs
  obtain ⟨e0, e1, e2, e3, e4, e5, e6⟩ := hxs
  have q0 := group_of (hel 0 (by decide)) e0.symm
  have q1 := group_of (hel 1 (by decide)) e1.symm
  have q2 := group_of (hel 2 (by decide)) e2.symm
  have q3 := group_of (hel 3 (by decide)) e3.symm
  have q4 := group_of (hel 4 (by decide)) e4.symm
  have q5 := group_of (hel 5 (by decide)) e5.symm
  have q6 := group_of (hel 6 (by decide)) e6.symm
  have pick : ∀ (j : Nat) (u v : Value), (cl.drop (j * 2)).take 2 = [u, v] → W.cell? ⟨0, j * 2, none⟩ = some u ∧ W.cell? ⟨0, j * 2 + 1, none⟩ = some v := by
    intro j u v hq
    have ha : ((cl.drop (j * 2)).take 2)[0]? = some u := by rw [hq]; rfl
    have hb : ((cl.drop (j * 2)).take 2)[1]? = some v := by rw [hq]; rfl
    rw [List.getElem?_take_of_lt (by omega), List.getElem?_drop] at ha hb
    have h0 := hcell (j * 2)
    have h1 := hcell (j * 2 + 1)
    simp only [List.getElem?_toArray] at h0 h1
    exact ⟨h0.trans ha, h1.trans hb⟩
  exact ⟨hs, pick 0 _ _ q0, pick 1 _ _ q1, pick 2 _ _ q2, pick 3 _ _ q3, pick 4 _ _ q4, pick 5 _ _ q5, pick 6 _ _ q6, z⟩

/-- The door's own heap meets the condition. -/
theorem door_met (os : Os) (args : Array Value) : laidMetH Tryd.prog laidAll ((World.doorLaid Tryd.prog 36 os).forCall (fun _ _ => 0) ⟨#[], args, []⟩).memory :=
  laidMetH_of_parts3 (fuel := 8) (laidMet_of_run' 8 (by kernel_rfl) (by kernel_rfl)) (by kernel_rfl) (by kernel_rfl)
theorem own : ownKnob Tryd.prog.godebug = none := by kernel_rfl

section
variable {H : Type} {enc : TypeId × Value → H} {P : Program}
theorem post_of_below {f : Func} {s : ChangeSpec} {apart fresh handsOn again : Bool} {W W' : World} {args : Array Value} {v : Value} {ds gs : List (DataW H)} {before pa pv : List MemPlace}
    (hW : DataW.Whole enc P f.params.toList s.vars apart W args.toList ds gs before)
    (hres : ∀ (b : Nat) (sp : Nat → Bool) (hd : Bool), DataW.TrodAll enc P W' b sp hd f.resultTypes.toList (v.resultList f.resultTypes.size) (s.fn H (ds ++ gs)).results [])
    (hargs : ∀ sp : Nat → Bool, (∀ p ∈ before, sp p.block = true) → DataW.TrodAll enc P W' 0 sp true f.params.toList args.toList (s.fn H (ds ++ gs)).args pa)
    (hvars : ∀ sp : Nat → Bool, (∀ p ∈ before, sp p.block = true) → DataW.TrodVars enc P W' sp s.vars (s.fn H (ds ++ gs)).vars pv)
    (hps : before = pa ++ pv) (hb : Below W.heap.size W W')
    (hok : ∀ (j : Nat) (t : TypeId) (r : Value), f.resultTypes[j]? = some t → (v.resultList f.resultTypes.size)[j]? = some r → Value.okWide P W' .any 0 t r) :
    s.post enc P f apart fresh handsOn again W args v W' := by
  have hlt : ∀ p ∈ before, p.block < W.heap.size := fun p hp => hW.lt p hp
  have hold : ∀ p ∈ before, (fun b => decide (b < W.heap.size)) p.block = true := fun p hp => by simpa using hlt p hp
  refine ⟨ds, gs, before, [], pa, pv, hW, hres _ _ _, hargs _ hold, hvars _ hold, World.keptBut_mono (fun p hp => ⟨hp, ?_⟩) (hb.frame (· ∈ before)), fun _ => ?_⟩
  · rw [hps, List.mem_append] at hp
    exact Or.inr hp
  · obtain ⟨_, _, _, _, _, hz, hn⟩ := hW
    refine ⟨hok, _, _, ([] ++ pa) ++ pv, ⟨[] ++ pa, pv, trodAll_append (hargs _ (fun _ _ => rfl)) (hres _ _ _), hvars _ (fun _ _ => rfl), rfl, ?_, ?_⟩, ?_⟩
    · intro b off hp
      have hin : MemPlace.cell b off ∈ before := by rw [hps]; simpa using hp
      rw [hb.frozen (hlt _ hin)]
      exact hz b off hin
    · intro ha
      have := hn ha
      rw [hps] at this
      simpa using this
    · intro p hp _
      rw [hps]
      simpa using hp
end

end Go.Proofs.YtdlobgnhoiednaaDoor
