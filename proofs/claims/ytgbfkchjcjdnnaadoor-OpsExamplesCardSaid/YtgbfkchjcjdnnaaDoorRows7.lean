/-
  A TABLE OF OPERATORS: how a slice of operators lies in memory, its cells as a list of values; copy, append and clear of elements of several cells in a block of the call's own. The laws are plain laws over any program.
-/
import Derived.Test.YtgbfkchjcjdnnaaDoorMath7
import Derived.ArgAppend
import Derived.Laws.CopyOwn
import Derived.Laws.OwnMore
import Derived.Lib.Overlaps
import Derived.Deep.RegionLaw
import Derived.Deep.Draws
namespace Go.Proofs.YtgbfkchjcjdnnaaDoor
set_option linter.unusedVariables false
set_option linter.unusedSimpArgs false
open Go.RowKit Q

theorem below_drewN {B : Nat} {a w : World} (h : Below B a w) (n : Nat) : Below B a (w.drewN n) := ⟨h.os, h.tape, h.output, h.size, h.block⟩
theorem below_of_drewN {B : Nat} {a w : World} (h : ∃ q, w = a.drewN q) : Below B a w := by obtain ⟨q, rfl⟩ := h; exact below_drewN (Below.refl _ _) q

/-- The slice value (A, n) reads as the operators L, below block B. -/
structure OpsIn (w : World) (B : Nat) (A : Option Addr) (n : Nat) (L : List Ent) : Prop where
  len : L.length = n
  cells : 0 < n → ∃ b off, A = some ⟨b, off, none⟩ ∧ b < B ∧ ∀ j, j < n → w.cell? ⟨b, off + j * 3, none⟩ = some (.string (ent L j).1) ∧ w.cell? ⟨b, off + j * 3 + 1, none⟩ = some (.int .i64 (ent L j).2.1) ∧ w.cell? ⟨b, off + j * 3 + 2, none⟩ = some (.int .i64 (ent L j).2.2)

section
variable {w w' : World} {B B' n : Nat} {A : Option Addr} {L : List Ent}
theorem OpsIn.keep (h : OpsIn w B A n L) (hk : ∀ p : Addr, p.block < B → w'.cell? p = w.cell? p) : OpsIn w' B A n L :=
  ⟨h.len, fun hn => by
    obtain ⟨b, off, rfl, hb, hc⟩ := h.cells hn
    exact ⟨b, off, rfl, hb, fun j hj => ⟨(hk _ hb).trans (hc j hj).1, (hk _ hb).trans (hc j hj).2.1, (hk _ hb).trans (hc j hj).2.2⟩⟩⟩
theorem OpsIn.below (h : OpsIn w B A n L) (hb : Below B w w') : OpsIn w' B A n L := h.keep fun _ hp => hb.cell hp
theorem OpsIn.more (h : OpsIn w B A n L) (hB : B ≤ B') : OpsIn w B' A n L :=
  ⟨h.len, fun hn => by
    obtain ⟨b, off, rfl, hb, hc⟩ := h.cells hn
    exact ⟨b, off, rfl, by omega, hc⟩⟩
theorem OpsIn.nil (w : World) (B : Nat) (A : Option Addr) : OpsIn w B A 0 [] := ⟨rfl, fun h => absurd h (by omega)⟩
/-- On to a later world, all of it. -/
theorem OpsIn.on (h : OpsIn w B A n L) (hb : Below B w w') (hB : B ≤ B') : OpsIn w' B' A n L := (h.below hb).more hB
end

/-! ### The cells of a list of operators -/
def cellsOf : List Ent → List Value
  | [] => []
  | p :: r => .string p.1 :: .int .i64 p.2.1 :: .int .i64 p.2.2 :: cellsOf r
theorem cellsOf_append (a b : List Ent) : cellsOf (a ++ b) = cellsOf a ++ cellsOf b := by
  induction a with
  | nil => rfl
  | cons p r ih => simp [cellsOf, ih]
theorem cellsOf_length (a : List Ent) : (cellsOf a).length = a.length * 3 := by
  induction a with
  | nil => rfl
  | cons p r ih => simp [cellsOf, ih]; omega
theorem cellsOf_one (a : List Ent) : ∀ v ∈ cellsOf a, v.oneCell' = true := by
  induction a with
  | nil => simp [cellsOf]
  | cons p r ih =>
    intro v hv
    simp only [cellsOf, List.mem_cons] at hv
    rcases hv with rfl | rfl | rfl | hv
    · rfl
    · rfl
    · rfl
    · exact ih v hv
theorem cellsOf_take (a : List Ent) (i : Nat) : (cellsOf a).take (i * 3) = cellsOf (a.take i) := by
  induction a generalizing i with
  | nil => simp [cellsOf]
  | cons p r ih =>
    cases i with
    | zero => simp [cellsOf]
    | succ i => rw [show (i + 1) * 3 = i * 3 + 1 + 1 + 1 from by omega]; simp [cellsOf, ih]
theorem cellsOf_drop (a : List Ent) (i : Nat) : (cellsOf a).drop (i * 3) = cellsOf (a.drop i) := by
  induction a generalizing i with
  | nil => simp [cellsOf]
  | cons p r ih =>
    cases i with
    | zero => simp [cellsOf]
    | succ i => rw [show (i + 1) * 3 = i * 3 + 1 + 1 + 1 from by omega]; simp [cellsOf, ih]
theorem cellsOf_at (a : List Ent) (j : Nat) (h : j < a.length) : (cellsOf a)[j * 3]? = some (.string (ent a j).1) ∧ (cellsOf a)[j * 3 + 1]? = some (.int .i64 (ent a j).2.1) ∧ (cellsOf a)[j * 3 + 2]? = some (.int .i64 (ent a j).2.2) := by
  induction a generalizing j with
  | nil => simp at h
  | cons p r ih =>
    cases j with
    | zero => simp [cellsOf, ent]
    | succ j =>
      rw [show (j + 1) * 3 = j * 3 + 1 + 1 + 1 from by omega]
      have := ih j (by simpa using h)
      simpa [cellsOf, ent] using this

theorem add_plain (b o j : Nat) : (⟨b, o, none⟩ : Addr).add j = ⟨b, o + j, none⟩ := by unfold Addr.add; split <;> simp_all

/-- The cells of a slice that reads as operators. -/
theorem OpsIn.cell {w : World} {n : Nat} {b off : Nat} {L : List Ent} (hl : L.length = n)
    (hc : ∀ j, j < n → w.cell? ⟨b, off + j * 3, none⟩ = some (.string (ent L j).1) ∧ w.cell? ⟨b, off + j * 3 + 1, none⟩ = some (.int .i64 (ent L j).2.1) ∧ w.cell? ⟨b, off + j * 3 + 2, none⟩ = some (.int .i64 (ent L j).2.2)) :
    ∀ j v, (cellsOf L)[j]? = some v → w.cell? ⟨b, off + j, none⟩ = some v := by
  intro j v hv
  have hj : j < n * 3 := by
    have := (List.getElem?_eq_some_iff.1 hv).1
    rw [cellsOf_length] at this
    omega
  have h2 : j / 3 < n := by omega
  have hk := cellsOf_at L (j / 3) (by omega)
  by_cases hm : j % 3 = 0
  · have e : j = j / 3 * 3 := by omega
    rw [e] at hv ⊢
    rw [hk.1] at hv
    rw [(hc _ h2).1, hv]
  · by_cases hm1 : j % 3 = 1
    · have e : j = j / 3 * 3 + 1 := by omega
      rw [e] at hv ⊢
      rw [hk.2.1] at hv
      rw [← Nat.add_assoc, (hc _ h2).2.1, hv]
    · have e : j = j / 3 * 3 + 2 := by omega
      rw [e] at hv ⊢
      rw [hk.2.2] at hv
      rw [← Nat.add_assoc, (hc _ h2).2.2, hv]

/-! ### Cells set in a block that is known whole -/
section
variable {w : World}
theorem heap_setCells (g : Nat) (t : TypeId) : ∀ (vs : List Value) (o : Nat) (cur : List Value) (w : World), w.heap[g]? = some (.cells cur.toArray t (0, 0)) → o + vs.length ≤ cur.length →
    (w.setCells g o vs).heap[g]? = some (.cells (splice cur o vs).toArray t (0, 0))
  | [], o, cur, w, h, _ => by simpa [World.setCells, splice] using h
  | v :: r, o, cur, w, h, hl => by
    have h1 : (w.setCell ⟨g, o, none⟩ v).heap[g]? = some (.cells (cur.set o v).toArray t (0, 0)) := by
      simp [World.setCell, Array.getElem?_modify, h]
    have h2 := heap_setCells g t r (o + 1) (cur.set o v) _ h1 (by simp at hl ⊢; omega)
    rw [World.setCells, h2]
    have e := list_seg_step cur o v r (by simpa using hl)
    simp only [splice, List.append_assoc, List.length_cons] at e ⊢
    rw [e]
theorem below_setCells (g : Nat) {B : Nat} {w0 : World} (hBg : B ≤ g) : ∀ (vs : List Value) (o : Nat) (w : World), Below B w0 w → Below B w0 (w.setCells g o vs)
  | [], _, _, h => h
  | v :: r, o, w, h => below_setCells g hBg r (o + 1) _ (h.setCell (p := ⟨g, o, none⟩) hBg v)
theorem only_setCells (g : Nat) : ∀ (vs : List Value) (o : Nat) (w : World) (k : Nat), k ≠ g → (w.setCells g o vs).heap[k]? = w.heap[k]?
  | [], _, _, _, _ => rfl
  | v :: r, o, w, k, h => by
    rw [World.setCells, only_setCells g r (o + 1) _ k h]
    exact Below.heap_setCell w ⟨g, o, none⟩ v k h
theorem cell_of_cells {g : Nat} {t : TypeId} {cur : List Value} (h : w.heap[g]? = some (.cells cur.toArray t (0, 0))) (i : Nat) : w.cell? ⟨g, i, none⟩ = cur[i]? := by
  simp [World.cell?, h]
theorem frozen_of_cells {g : Nat} {t : TypeId} {cur : Array Value} (h : w.heap[g]? = some (.cells cur t (0, 0))) (i : Nat) : w.frozen? ⟨g, i, none⟩ = false := by
  simp [World.frozen?, h]
end

/-! ### copy, append, clear -/
section
variable {P : Program}
theorem run_copy_cellsN (w : World) (dT sT ty elem : TypeId) (size b o dLen dCap : Nat) (a : Addr) (sLen sCap : Nat) (cs : List Value)
    (hu : P.underlying dT = some (.slice elem)) (hs : (P.info? elem).map (·.size) = some size) (hn : cs.length = Nat.min sLen dLen * size)
    (hsrc : ∀ j v, cs[j]? = some v → w.cell? (a.add j) = some v) (hc : ∀ j, j < cs.length → (w.cell? ⟨b, o + j, none⟩).isSome = true) (hf : ∀ j, j < cs.length → w.frozen? ⟨b, o + j, none⟩ = false) (h1 : ∀ v ∈ cs, v.oneCell' = true) :
    (Builtin.copy_ #[dT, sT] ty #[.slice (some ⟨b, o, none⟩) dLen dCap, .slice (some a) sLen sCap]).run P w = .ok (goInt (Nat.min sLen dLen)) (w.setCells b o cs) := by
  have hl := run_loadCells_list (P := P) w a cs hsrc
  have hst := run_storeCells_cells (P := P) b o cs 0 w (by simpa using hc) (by simpa using hf) h1
  cases hq : P.info? elem with
  | none => simp [hq] at hs
  | some i =>
    have hi : i.size = size := by simpa [hq] using hs
    simp [Builtin.copy_, run_underlying hu, Builtin.lenOf, Builtin.firstCells, sizeOf, typeInfo, hq, hi, ← hn, hl, hst]
theorem run_copy_noneN (w : World) (dT sT ty elem : TypeId) (size : Nat) (d a : Option Addr) (dLen dCap sLen sCap : Nat) (hu : P.underlying dT = some (.slice elem)) (hs : (P.info? elem).map (·.size) = some size) (hn : Nat.min sLen dLen = 0) :
    (Builtin.copy_ #[dT, sT] ty #[.slice d dLen dCap, .slice a sLen sCap]).run P w = .ok (goInt 0) w := by
  cases hq : P.info? elem with
  | none => simp [hq] at hs
  | some i =>
    have hl : ∀ (x : Addr), (loadCells x 0).run P w = .ok #[] w := fun x => by simpa using run_loadCells_list (P := P) w x [] (by simp)
    cases d <;> cases a <;> simp [Builtin.copy_, run_underlying hu, Builtin.lenOf, Builtin.firstCells, sizeOf, typeInfo, hq, hn, storeCells, hl]

/-- copy into a block that is known whole, as a run: some world, of which the block and Below are known. -/
theorem run_copy_tab (w : World) (dT sT ty elem : TypeId) (size : Nat) (hsize : 0 < size) (hu : P.underlying dT = some (.slice elem)) (hsz : (P.info? elem).map (·.size) = some size)
    (dp sp : Option Addr) (dLen dCap sLen sCap : Nat) (g off : Nat) (cur : List Value) (t : TypeId) (hg : w.heap[g]? = some (.cells cur.toArray t (0, 0))) (cs : List Value) (hn : cs.length = Nat.min sLen dLen * size)
    (hpos : 0 < cs.length → dp = some ⟨g, off, none⟩ ∧ ∃ ad, sp = some ad ∧ ∀ j v, cs[j]? = some v → w.cell? (ad.add j) = some v)
    (hfit : off + cs.length ≤ cur.length) (h1 : ∀ v ∈ cs, v.oneCell' = true) (B : Nat) (w0 : World) (hb : Below B w0 w) (hBg : B ≤ g) :
    ∃ v' w', (Builtin.copy_ #[dT, sT] ty #[.slice dp dLen dCap, .slice sp sLen sCap]).run P w = .ok v' w' ∧ w'.heap[g]? = some (.cells (splice cur off cs).toArray t (0, 0)) ∧ Below B w0 w' ∧ ∀ k, k ≠ g → w'.heap[k]? = w.heap[k]? := by
  by_cases h0 : cs.length = 0
  · have hm : Nat.min sLen dLen = 0 := by
      rcases Nat.eq_zero_or_pos (Nat.min sLen dLen) with h | h
      · exact h
      · have := Nat.mul_pos h hsize; omega
    obtain rfl : cs = [] := List.eq_nil_of_length_eq_zero h0
    exact ⟨_, w, run_copy_noneN w dT sT ty elem size dp sp dLen dCap sLen sCap hu hsz hm, by simpa [splice] using hg, hb, fun _ _ => rfl⟩
  · obtain ⟨rfl, ad, rfl, hsrc⟩ := hpos (by omega)
    refine ⟨_, _, run_copy_cellsN w dT sT ty elem size g off dLen dCap ad sLen sCap cs hu hsz hn hsrc (fun j hj => ?_) (fun j _ => frozen_of_cells hg _) h1, heap_setCells g t cs off cur w hg hfit, below_setCells g hBg cs off w hb, only_setCells g cs off w⟩
    rw [cell_of_cells hg, List.getElem?_eq_getElem (by omega)]
    rfl

theorem wp_copy_tab {o : Oper} {a : Act} {w : World} {K : Act → World → Prop} {Q : Exit → Act → World → Prop} (d s : Operand) (dT sT : TypeId)
    (ho : o.op = .call { callee := .builtin .copy, args := #[d, s], argTypes := #[dT, sT] }) {v u v' : Value} {w' : World} (hd : a.eval d = v) (hs : a.eval s = u)
    (hr : (Builtin.copy_ #[dT, sT] o.type #[v, u]).run P w = .ok v' w') (h : K (a.put o.dst v') w') : o.wp P a w K Q := by
  unfold Oper.wp
  simp [execOp, ho, resolve, invoke, builtin, hd, hs, hr, Result.andThen]
  exact h
theorem wpList_copy_tab {w : World} {ops : Array Oper} {rest : List Oper} {o : Oper} {a : Act} {Q : Exit → Act → World → Prop} (hgd : o.guard = none) (d s : Operand) (dT sT : TypeId)
    (ho : o.op = .call { callee := .builtin .copy, args := #[d, s], argTypes := #[dT, sT] }) (elem : TypeId) (hu : P.underlying dT = some (.slice elem)) (size : Nat) (hsize : 0 < size) (hsz : (P.info? elem).map (·.size) = some size)
    (dp sp : Option Addr) (dLen dCap sLen sCap : Nat) (hd : a.eval d = .slice dp dLen dCap) (hs : a.eval s = .slice sp sLen sCap)
    (g off : Nat) (cur : List Value) (t : TypeId) (hg : w.heap[g]? = some (.cells cur.toArray t (0, 0))) (cs : List Value) (hn : cs.length = Nat.min sLen dLen * size)
    (hpos : 0 < cs.length → dp = some ⟨g, off, none⟩ ∧ ∃ ad, sp = some ad ∧ ∀ j v, cs[j]? = some v → w.cell? (ad.add j) = some v)
    (hfit : off + cs.length ≤ cur.length) (h1 : ∀ v ∈ cs, v.oneCell' = true) (B : Nat) (w0 : World) (hb : Below B w0 w) (hBg : B ≤ g)
    (h : ∀ v' w', Hid (w'.heap[g]? = some (.cells (splice cur off cs).toArray t (0, 0))) → Hid (Below B w0 w') → Hid (∀ k, k ≠ g → w'.heap[k]? = w.heap[k]?) → wpList P ops Q rest (a.put o.dst v') w') :
    wpList P ops Q (o :: rest) a w := by
  obtain ⟨v', w', hr, h2, h3, h4⟩ := run_copy_tab (P := P) w dT sT o.type elem size hsize hu hsz dp sp dLen dCap sLen sCap g off cur t hg cs hn hpos hfit h1 B w0 hb hBg
  exact wpList_plain hgd fun _ hK => wp_copy_tab d s dT sT ho hd hs hr (hK _ _ (h v' w' h2 h3 h4))
theorem step_copy_tab {w : World} {ops : Array Oper} {o : Oper} {a : Act} {K : Act → World → Prop} {Q : Exit → Act → World → Prop} {E : Prop} (hgd : o.guard = none) (d s : Operand) (dT sT : TypeId)
    (ho : o.op = .call { callee := .builtin .copy, args := #[d, s], argTypes := #[dT, sT] }) (elem : TypeId) (hu : P.underlying dT = some (.slice elem)) (size : Nat) (hsize : 0 < size) (hsz : (P.info? elem).map (·.size) = some size)
    (dp sp : Option Addr) (dLen dCap sLen sCap : Nat) (hd : a.eval d = .slice dp dLen dCap) (hs : a.eval s = .slice sp sLen sCap)
    (g off : Nat) (cur : List Value) (t : TypeId) (hg : w.heap[g]? = some (.cells cur.toArray t (0, 0))) (cs : List Value) (hn : cs.length = Nat.min sLen dLen * size)
    (hpos : 0 < cs.length → dp = some ⟨g, off, none⟩ ∧ ∃ ad, sp = some ad ∧ ∀ j v, cs[j]? = some v → w.cell? (ad.add j) = some v)
    (hfit : off + cs.length ≤ cur.length) (h1 : ∀ v ∈ cs, v.oneCell' = true) (B : Nat) (w0 : World) (hb : Below B w0 w) (hBg : B ≤ g)
    (h : ∀ v' w', Hid (w'.heap[g]? = some (.cells (splice cur off cs).toArray t (0, 0))) → Hid (Below B w0 w') → Hid (∀ k, k ≠ g → w'.heap[k]? = w.heap[k]?) → K (a.put o.dst v') w') :
    if Region.wanted o (yielded ops a.tmps) = true then Oper.wp P o a w K Q else E := by
  have hw : Region.wanted o (yielded ops a.tmps) = true := by simp [Region.wanted, hgd]
  rw [if_pos hw]
  obtain ⟨v', w', hr, h2, h3, h4⟩ := run_copy_tab (P := P) w dT sT o.type elem size hsize hu hsz dp sp dLen dCap sLen sCap g off cur t hg cs hn hpos hfit h1 B w0 hb hBg
  exact wp_copy_tab d s dT sT ho hd hs hr (h v' w' h2 h3 h4)

/-- append into a block that is known whole, where there is room. -/
theorem run_append_tab (w : World) (t ty e : TypeId) (i : TypeInfo) (size : Nat) (hsize : 0 < size) (hu : P.underlying t = some (.slice e)) (hi : P.info? e = some i) (hsz : i.size = size)
    (g n cap : Nat) (cur : List Value) (bt : TypeId) (hg : w.heap[g]? = some (.cells cur.toArray bt (0, 0))) (A : Option Addr) (m c : Nat) (cs : List Value) (hn : cs.length = m * size)
    (hpos : 0 < m → ∃ ad, A = some ad ∧ ∀ j v, cs[j]? = some v → w.cell? (ad.add j) = some v) (hA : A.isSome = true)
    (hroom : n + m ≤ cap) (hcur : cur.length = cap * size) (h1 : ∀ v ∈ cs, v.oneCell' = true) (B : Nat) (w0 : World) (hb : Below B w0 w) (hBg : B ≤ g) :
    ∃ w', (Builtin.append_ #[t, t] ty #[.slice (some ⟨g, 0, none⟩) n cap, .slice A m c]).run P w = .ok (.slice (some ⟨g, 0, none⟩) (n + m) cap) w' ∧ w'.heap[g]? = some (.cells (splice cur (n * size) cs).toArray bt (0, 0)) ∧ Below B w0 w' := by
  subst hsz
  obtain ⟨ad, rfl⟩ := Option.isSome_iff_exists.1 hA
  have hsrc : ∀ j v, cs[j]? = some v → w.cell? (ad.add j) = some v := by
    intro j v hv
    rcases Nat.eq_zero_or_pos m with h0 | h0
    · subst h0
      have hnil : cs = [] := List.eq_nil_of_length_eq_zero (by simpa using hn)
      rw [hnil] at hv
      simp at hv
    · obtain ⟨ad', he, hc⟩ := hpos h0
      injection he with he
      subst he
      exact hc j v hv
  have hle : n * i.size + cs.length ≤ cur.length := by
    rw [hn, hcur, ← Nat.add_mul]
    exact Nat.mul_le_mul_right _ hroom
  have hrun := run_append_room_cells (P := P) w t ty e i hu hi g 0 n cap ad m c cs hn hsrc h1 hroom (fun j hj => by
      rw [cell_of_cells hg, List.getElem?_eq_getElem (by omega)]; rfl) (fun j _ => frozen_of_cells hg _)
  rw [Nat.zero_add] at hrun
  exact ⟨_, hrun, heap_setCells g bt cs (n * i.size) cur w hg hle, below_setCells g hBg cs _ w hb⟩
theorem wp_append_tab {o : Oper} {a : Act} {w : World} {K : Act → World → Prop} {Q : Exit → Act → World → Prop} (s x : Operand) (t : TypeId)
    (ho : o.op = .call { callee := .builtin .append, args := #[s, x], argTypes := #[t, t] }) {v u v' : Value} {w' : World} (hs : a.eval s = v) (hx : a.eval x = u)
    (hr : (Builtin.append_ #[t, t] o.type #[v, u]).run P w = .ok v' w') (h : K (a.put o.dst v') w') : o.wp P a w K Q := by
  unfold Oper.wp
  simp [execOp, ho, resolve, invoke, builtin, hs, hx, hr, Result.andThen]
  exact h
theorem wpList_append_tab {w : World} {ops : Array Oper} {rest : List Oper} {o : Oper} {a : Act} {Q : Exit → Act → World → Prop} (hgd : o.guard = none) (s x : Operand) (t : TypeId)
    (ho : o.op = .call { callee := .builtin .append, args := #[s, x], argTypes := #[t, t] }) (e : TypeId) (i : TypeInfo) (size : Nat) (hsize : 0 < size) (hu : P.underlying t = some (.slice e)) (hi : P.info? e = some i) (hsz : i.size = size)
    (g n cap : Nat) (hs : a.eval s = .slice (some ⟨g, 0, none⟩) n cap) (cur : List Value) (bt : TypeId) (hg : w.heap[g]? = some (.cells cur.toArray bt (0, 0)))
    (A : Option Addr) (m c : Nat) (hx : a.eval x = .slice A m c) (cs : List Value) (hn : cs.length = m * size)
    (hpos : 0 < m → ∃ ad, A = some ad ∧ ∀ j v, cs[j]? = some v → w.cell? (ad.add j) = some v) (hA : A.isSome = true)
    (hroom : n + m ≤ cap) (hcur : cur.length = cap * size) (h1 : ∀ v ∈ cs, v.oneCell' = true) (B : Nat) (w0 : World) (hb : Below B w0 w) (hBg : B ≤ g)
    (h : ∀ w', Hid (w'.heap[g]? = some (.cells (splice cur (n * size) cs).toArray bt (0, 0))) → Hid (Below B w0 w') → wpList P ops Q rest (a.put o.dst (.slice (some ⟨g, 0, none⟩) (n + m) cap)) w') :
    wpList P ops Q (o :: rest) a w := by
  obtain ⟨w', hr, h2, h3⟩ := run_append_tab (P := P) w t o.type e i size hsize hu hi hsz g n cap cur bt hg A m c cs hn hpos hA hroom hcur h1 B w0 hb hBg
  exact wpList_plain hgd fun _ hK => wp_append_tab s x t ho hs hx hr (hK _ _ (h w' h2 h3))
theorem step_append_tab {w : World} {ops : Array Oper} {o : Oper} {a : Act} {K : Act → World → Prop} {Q : Exit → Act → World → Prop} {E : Prop} (hgd : o.guard = none) (s x : Operand) (t : TypeId)
    (ho : o.op = .call { callee := .builtin .append, args := #[s, x], argTypes := #[t, t] }) (e : TypeId) (i : TypeInfo) (size : Nat) (hsize : 0 < size) (hu : P.underlying t = some (.slice e)) (hi : P.info? e = some i) (hsz : i.size = size)
    (g n cap : Nat) (hs : a.eval s = .slice (some ⟨g, 0, none⟩) n cap) (cur : List Value) (bt : TypeId) (hg : w.heap[g]? = some (.cells cur.toArray bt (0, 0)))
    (A : Option Addr) (m c : Nat) (hx : a.eval x = .slice A m c) (cs : List Value) (hn : cs.length = m * size)
    (hpos : 0 < m → ∃ ad, A = some ad ∧ ∀ j v, cs[j]? = some v → w.cell? (ad.add j) = some v) (hA : A.isSome = true)
    (hroom : n + m ≤ cap) (hcur : cur.length = cap * size) (h1 : ∀ v ∈ cs, v.oneCell' = true) (B : Nat) (w0 : World) (hb : Below B w0 w) (hBg : B ≤ g)
    (h : ∀ w', Hid (w'.heap[g]? = some (.cells (splice cur (n * size) cs).toArray bt (0, 0))) → Hid (Below B w0 w') → K (a.put o.dst (.slice (some ⟨g, 0, none⟩) (n + m) cap)) w') :
    if Region.wanted o (yielded ops a.tmps) = true then Oper.wp P o a w K Q else E := by
  have hw : Region.wanted o (yielded ops a.tmps) = true := by simp [Region.wanted, hgd]
  rw [if_pos hw]
  obtain ⟨w', hr, h2, h3⟩ := run_append_tab (P := P) w t o.type e i size hsize hu hi hsz g n cap cur bt hg A m c cs hn hpos hA hroom hcur h1 B w0 hb hBg
  exact wp_append_tab s x t ho hs hx hr (h w' h2 h3)

/-- clear of elements of several cells, of one zero value each. -/
theorem run_clear_tab (w : World) (t e ty : TypeId) (z : Value) (size : Nat) (ht : P.underlying t = some (.slice e)) (hv : ∀ w, (zeroValue e).run P w = .ok z w) (hz : z.cells.size = size) (h1 : ∀ j, j < size → (z.cells[j]!).oneCell' = true)
    (g o n c : Nat) (hn : 0 < n) (cur : List Value) (bt : TypeId) (hg : w.heap[g]? = some (.cells cur.toArray bt (0, 0))) (hfit : o + n * size ≤ cur.length) (hsize : 0 < size) (B : Nat) (w0 : World) (hb : Below B w0 w) (hBg : B ≤ g) :
    ∃ w' zs, (Builtin.clear_ #[t] ty #[.slice (some ⟨g, o, none⟩) n c]).run P w = .ok (.tuple #[]) w' ∧ zs.length = n * size ∧ w'.heap[g]? = some (.cells (splice cur o zs).toArray bt (0, 0)) ∧ Below B w0 w' := by
  obtain ⟨zs, hzs⟩ : ∃ zs, zs = (Builtin.zeroCells z.cells n).toList := ⟨_, rfl⟩
  have hl : zs.length = n * size := by rw [hzs]; simp [Builtin.zeroCells, hz]
  have hone : ∀ v ∈ zs, v.oneCell' = true := by
    intro v hv'
    rw [hzs] at hv'
    simp [Builtin.zeroCells, hz] at hv'
    obtain ⟨i, hi, rfl⟩ := hv'
    have hm : i % size < size := Nat.mod_lt _ hsize
    simpa using h1 _ hm
  have hst := run_storeCells_cells (P := P) g o zs 0 w (by
      intro j hj
      rw [cell_of_cells hg, List.getElem?_eq_getElem (by omega)]; rfl) (fun j _ => frozen_of_cells hg _) hone
  simp only [Nat.add_zero] at hst
  obtain ⟨m, rfl⟩ : ∃ m, n = m + 1 := ⟨n - 1, by omega⟩
  refine ⟨_, zs, ?_, hl, heap_setCells g bt zs o cur w hg (by omega), below_setCells g hBg _ o w hb⟩
  simp [Builtin.clear_, run_underlying ht, hv, ← hzs, hst]
theorem wpList_clear_tab {w : World} {ops : Array Oper} {rest : List Oper} {o : Oper} {a : Act} {Q : Exit → Act → World → Prop} (hgd : o.guard = none) (s : Operand) (t : TypeId)
    (ho : o.op = .call { callee := .builtin .clear, args := #[s], argTypes := #[t] }) (e : TypeId) (z : Value) (size : Nat) (ht : P.underlying t = some (.slice e)) (hv : ∀ w, (zeroValue e).run P w = .ok z w) (hz : z.cells.size = size) (h1 : ∀ j, j < size → (z.cells[j]!).oneCell' = true)
    (g off n c : Nat) (hs : a.eval s = .slice (some ⟨g, off, none⟩) n c) (hn : 0 < n) (cur : List Value) (bt : TypeId) (hg : w.heap[g]? = some (.cells cur.toArray bt (0, 0))) (hfit : off + n * size ≤ cur.length) (hsize : 0 < size) (B : Nat) (w0 : World) (hb : Below B w0 w) (hBg : B ≤ g)
    (h : ∀ w' zs, Hid (zs.length = n * size) → Hid (w'.heap[g]? = some (.cells (splice cur off zs).toArray bt (0, 0))) → Hid (Below B w0 w') → wpList P ops Q rest (a.put o.dst (.tuple #[])) w') :
    wpList P ops Q (o :: rest) a w := by
  obtain ⟨w', zs, hr, hl, h2, h3⟩ := run_clear_tab (P := P) w t e o.type z size ht hv hz h1 g off n c hn cur bt hg hfit hsize B w0 hb hBg
  refine wpList_plain hgd fun K hK => ?_
  unfold Oper.wp
  simp [execOp, ho, resolve, invoke, builtin, hs, hr, Result.andThen]
  exact hK _ _ (h w' zs hl h2 h3)
end

end Go.Proofs.YtgbfkchjcjdnnaaDoor
