/-
  slices.Backward over a slice of terms: what its rounds are handed, from the last element to the first.
-/
import Derived.Test.YtmljkhofahgelaaRename
import Derived.Test.YtmljkhofahgelaaMakers
import Derived.RangeFuncNested
import Derived.RangeFuncBound
import Derived.RangeFuncCalls
import Derived.RangeFuncLeaves
import Derived.Shelf.Abstract
import Derived.Shelf.RegionOpen
import Derived.WalkKit
import Derived.OwnWalkIn
import Derived.TacticsInMore
import Derived.LoopNIn
import Derived.LoopIn
namespace Go.Proofs.Ytmljkhofahgelaa
set_option linter.unusedVariables false
set_option linter.unusedSimpArgs false
open Go.RowKit Go.Shelf

attribute [local go_sem] Oper.semAt_some

/-- An element of a row of terms, with its place. -/
structure El (w : World) (B : Nat) where
  i : Nat
  p : Pay
  l : Fo
  A : Option Addr
  c : Nat
  inn : ArgsB w B A (Tm.len l) l
def El.enc {w : World} {B : Nat} (x : El w B) : Array Value := #[.int .i64 (x.i : Int), tv x.p x.A (Tm.len x.l) x.c]
/-- The first k elements that come: from the last one on. -/
def downTo {w : World} {B : Nat} (f : Nat → El w B) (n k : Nat) : List (El w B) := (List.range k).map fun j => f (n - 1 - j)
theorem downTo_succ {w : World} {B : Nat} (f : Nat → El w B) (n k : Nat) : downTo f n (k + 1) = downTo f n k ++ [f (n - 1 - k)] := by simp [downTo, List.range_succ]
theorem downTo_length {w : World} {B : Nat} (f : Nat → El w B) (n k : Nat) : (downTo f n k).length = k := by simp [downTo]
/-- All blocks below m but one are kept. -/
structure KeepBut (r m : Nat) (W W' : World) : Prop where
  size : W.heap.size ≤ W'.heap.size
  block : ∀ k, k < m → k ≠ r → W'.heap[k]? = W.heap[k]?
theorem KeepBut.refl (r m : Nat) (W : World) : KeepBut r m W W := ⟨Nat.le_refl _, fun _ _ _ => rfl⟩
theorem KeepBut.trans {r m : Nat} {A B C : World} (h : KeepBut r m A B) (k : KeepBut r m B C) : KeepBut r m A C := ⟨Nat.le_trans h.size k.size, fun i hi hr => (k.block i hi hr).trans (h.block i hi hr)⟩
theorem KeepBut.cell {r m : Nat} {W W' : World} (h : KeepBut r m W W') {p : Addr} (hp : p.block < m) (hr : p.block ≠ r) : W'.cell? p = W.cell? p := cell_of_block (h.block _ hp hr)
theorem KeepBut.put {r m : Nat} {w : World} (hm : m ≤ w.heap.size) (W : World) (l : Nat) (o o' : Obj) (hl : w.heap.size ≤ l) (_ : W.heap[l]? = some o) (_ : o.isCells = false) (_ : o.isWalk = false) : KeepBut r m W (W.putObj l o') :=
  ⟨by simp, fun k hk _ => World.putObj_heap_other (by omega)⟩

set_option maxRecDepth 100000 in
set_option maxHeartbeats 2000000 in
/-- The iterator: for every loop body that keeps what lies below m, one block apart. -/
theorem back1_in (F : Fence) (n : Nat) (hf : F.fn 74) (hro : F.round = none) (hn : 1 ≤ n) (l Bs r m b off len cap : Nat) (w0 : World) (B : Nat) (f : Nat → El w0 B) (hlen : len ≤ 4000) (hb : b < m) (hbr : b ≠ r) (hBm : Bs < m) (hBr : Bs ≠ r) (J Jx : List (El w0 B) → World → Prop)
    (hY : ∀ pre x W, J pre W → pre.length < len → YieldAt F (n - 1) Try.prog l (El.enc x) W fun e W' =>
      (e = .returned (.bool true) ∧ J (pre ++ [x]) W' ∧ KeepBut r m W W') ∨ (e = .returned (.bool false) ∧ Jx (pre ++ [x]) W'))
    (W : World) (hBs : W.cell? ⟨Bs, 0, none⟩ = some (.slice (some ⟨b, off, none⟩) len cap)) (hi : ∀ j, j < len → (f j).i = j)
    (hc : ∀ j, j < len → W.cell? ⟨b, off + j * 4, none⟩ = some (.int .i64 (f j).p.1) ∧ W.cell? ⟨b, off + j * 4 + 1, none⟩ = some (.int .i64 (f j).p.2.1) ∧ W.cell? ⟨b, off + j * 4 + 2, none⟩ = some (.string (f j).p.2.2) ∧ W.cell? ⟨b, off + j * 4 + 3, none⟩ = some (.slice (f j).A (Tm.len (f j).l) (f j).c)) (h0 : J [] W) :
    CallsIn F n Try.prog 74 #[.func (.yield l) #[] #[], .pointer (some ⟨Bs, 0, none⟩)] W fun e W' => (∃ v, e = .returned v) ∧
      ((∃ ys, ys = downTo f len len ∧ J ys W') ∨ (∃ pre, (∃ k, k ≤ len ∧ pre = downTo f len k) ∧ Jx pre W')) := by
  refine callsIn_of_wp Try.func74 rfl hf ?_ hro
  simp only [Try.ntmps74, List.size_toArray, List.length_cons, List.length_nil, Nat.reduceAdd, Nat.reduceSub, Array.replicate_succ, Array.replicate_zero, List.push_toArray, List.append_toArray, List.nil_append, List.cons_append]
  gi_wp2
  gi_loopw [3] (fun i wr => ∃ (k : Nat) (z : Int), k ≤ len ∧ i = .int .i64 z ∧ z + 1 + k = len ∧ J (downTo f len k) wr ∧ KeepBut r m W wr)
    (fun i _ => (intOf i + 1).toNat)
  case atStart => exact ⟨0, (len : Int) - 1, Nat.zero_le _, by go_num, by omega, h0, KeepBut.refl _ _ _⟩
  case round =>
    obtain ⟨k, z, hk, rfl, hz, hJs, hnx⟩ := hrel
    have hbs := (hnx.cell (p := ⟨Bs, 0, none⟩) hBm hBr).trans hBs
    by_cases hlt : k < len
    · obtain ⟨q, rfl⟩ : ∃ q : Nat, z = q := ⟨z.toNat, by omega⟩
      have hq : q < len := by omega
      have hqe : len - 1 - k = q := by omega
      have hge : decide ((0 : Int) ≤ (q : Int)) = true := by simp
      have hql : (q : Int) < (len : Int) := by omega
      have hq0 : (0 : Int) ≤ (q : Int) := by omega
      obtain ⟨c0, c1, c2, c3⟩ := hc q hq
      have hxi := hi q hq
      obtain ⟨x, hx⟩ : ∃ x, x = f q := ⟨_, rfl⟩
      have hdt : downTo f len (k + 1) = downTo f len k ++ [x] := by rw [downTo_succ, hqe, hx]
      rw [← hx] at c0 c1 c2 c3 hxi
      have y0 := (hnx.cell (p := ⟨b, off + q * 4, none⟩) hb hbr).trans c0
      have y1 := (hnx.cell (p := ⟨b, off + q * 4 + 1, none⟩) hb hbr).trans c1
      have y2 := (hnx.cell (p := ⟨b, off + q * 4 + 2, none⟩) hb hbr).trans c2
      have y3 := (hnx.cell (p := ⟨b, off + q * 4 + 3, none⟩) hb hbr).trans c3
      obtain ⟨fn, tmps, assign, body, hy, hR⟩ := hY _ x wr hJs (by rw [downTo_length]; exact hlt)
      unfold El.enc at hy
      rw [hxi] at hy
      have HDT := Lib.hid hdt
      clear c0 c1 c2 c3 hx hdt hqe hxi
      gi_wp2
      refine hR.mono ?_
      rintro e W3 (⟨rfl, hJ3, hk3⟩ | ⟨rfl, hJx3⟩)
      · gi_wp2
        go_roundw
        case rel => exact ⟨k + 1, (q : Int) - 1, by omega, by go_num, by omega, by rw [HDT.out]; exact hJ3, hnx.trans hk3⟩
        case measure => simp [intOf]
      · gi_wp2
        refine bodyPost_ret (results_none rfl _ _ _) rfl ?_
        exact ⟨⟨_, rfl⟩, .inr ⟨_, ⟨k + 1, by omega, HDT.out.symm⟩, hJx3⟩⟩
    · obtain rfl : k = len := by omega
      obtain rfl : z = -1 := by omega
      gi_wp2
      go_end0
      exact ⟨⟨_, rfl⟩, .inl ⟨_, rfl, hJs⟩⟩

set_option maxRecDepth 100000 in
set_option maxHeartbeats 1000000 in
/-- .. of no elements. -/
theorem back1_nil_in (F : Fence) (n : Nat) (hf : F.fn 74) (hro : F.round = none) (l Bs : Nat) (A : Option Addr) (cap : Nat) (w0 : World) (B : Nat) (J : List (El w0 B) → World → Prop) (W : World) (hBs : W.cell? ⟨Bs, 0, none⟩ = some (.slice A 0 cap)) (h0 : J [] W) :
    CallsIn F n Try.prog 74 #[.func (.yield l) #[] #[], .pointer (some ⟨Bs, 0, none⟩)] W fun e W' => (∃ v, e = .returned v) ∧ J [] W' := by
  refine callsIn_of_wp Try.func74 rfl hf ?_ hro
  simp only [Try.ntmps74, List.size_toArray, List.length_cons, List.length_nil, Nat.reduceAdd, Nat.reduceSub, Array.replicate_succ, Array.replicate_zero, List.push_toArray, List.append_toArray, List.nil_append, List.cons_append]
  gi_wp2
  gi_loopw [3] (fun i wr => i = .int .i64 (-1) ∧ J [] wr) (fun _ _ => 0)
  case atStart => exact ⟨by go_num, h0⟩
  case round =>
    obtain ⟨rfl, hJs⟩ := hrel
    gi_wp2
    go_end0
    exact ⟨⟨_, rfl⟩, hJs⟩

set_option maxHeartbeats 1000000 in
/-- slices.Backward: the slice lies in a box; the function value has the box. -/
theorem backward_in (F : Fence) (n : Nat) (hf : F.fn 63) (hro : F.round = none) (a : Option Addr) (len cap : Nat) (w : World) :
    CallsIn F n Try.prog 63 #[.slice a len cap] w fun e w' => e = .returned (.func (.func 74) #[] #[.pointer (some ⟨w.heap.size, 0, none⟩)]) ∧ w' = w.alloc (.cells #[.slice a len cap] 22) := by
  refine callsIn_of_wp Try.func63 rfl hf ?_ hro
  simp only [Try.ntmps63, List.size_toArray, List.length_cons, List.length_nil, Nat.reduceAdd, Nat.reduceSub, Array.replicate_succ, Array.replicate_zero, List.push_toArray, List.append_toArray, List.nil_append, List.cons_append]
  gi_wp2
  go_ret
  exact ⟨rfl, rfl⟩

/-- The elements of a row, each with its place. -/
theorem row_els {w : World} {B : Nat} {A : Option Addr} {n : Nat} {F : Fo} (hA : ArgsB w B A n F) : ∃ f : Nat → El w B, ∀ k, k < n → (f k).i = k ∧ ∃ b o r, A = some ⟨b, o, none⟩ ∧ b < B ∧ Tm.dropF F k = .node (f k).p (f k).l r ∧ NodeAt (fun b => b < B) w b (o + k * 4) (f k).p (f k).l (f k).A (f k).c := by
  have h : ∀ k, ∃ x : El w B, k < n → x.i = k ∧ ∃ b o r, A = some ⟨b, o, none⟩ ∧ b < B ∧ Tm.dropF F k = .node x.p x.l r ∧ NodeAt (fun b => b < B) w b (o + k * 4) x.p x.l x.A x.c := by
    intro k
    by_cases hk : k < n
    · obtain ⟨b, o, p, l, r, A', c, e, hb, hd, hn⟩ := hA.at hk
      exact ⟨⟨k, p, l, A', c, hn.inn⟩, fun _ => ⟨rfl, b, o, r, e, hb, hd, hn⟩⟩
    · exact ⟨⟨k, zp, .nil, none, 0, ArgsIn.nil _ _ _⟩, fun h => absurd h hk⟩
  exact ⟨fun k => Classical.choose (h k), fun k => Classical.choose_spec (h k)⟩

/-- What slices.Backward hands back, over a row of terms that lies below m. -/
theorem back_stops (F : Fence) (n : Nat) (hf : F.fn 74) (hro : F.round = none) (hn : 1 ≤ n) (Bs r m : Nat) (A : Option Addr) (len cap : Nat) (w0 : World) (B : Nat) (G : Fo) (hA : ArgsB w0 B A len G) (f : Nat → El w0 B)
    (hfk : ∀ k, k < len → (f k).i = k ∧ ∃ b o r, A = some ⟨b, o, none⟩ ∧ b < B ∧ Tm.dropF G k = .node (f k).p (f k).l r ∧ NodeAt (fun b => b < B) w0 b (o + k * 4) (f k).p (f k).l (f k).A (f k).c)
    (hlen : len ≤ 4000) (hBr : B ≤ r) (hBm : B ≤ m) (hsm : Bs < m) (hsr : Bs ≠ r) (w : World) (hmw : m ≤ w.heap.size) (hw : ∀ k, k < B → w.heap[k]? = w0.heap[k]?) (hc : w.cell? ⟨Bs, 0, none⟩ = some (.slice A len cap)) :
    SeqStopsK F n Try.prog 74 #[.pointer (some ⟨Bs, 0, none⟩)] El.enc (KeepBut r m) (fun ys => ys = downTo f len len) (fun pre => ∃ k, k ≤ len ∧ pre = downTo f len k) len w := fun l J Jx W hW _ _ hY h0 => by
  have hc' := (hW.cell (p := ⟨Bs, 0, none⟩) (by show Bs < _; omega)).trans hc
  by_cases h0l : len = 0
  · subst h0l
    exact (back1_nil_in F n hf hro l Bs A cap w0 B J W hc' h0).mono fun e W' ⟨he, hj⟩ => ⟨he, .inl ⟨_, rfl, hj⟩⟩
  · obtain ⟨b, o, hAe, hbB, hrow⟩ := hA.row (by omega)
    subst hAe
    refine back1_in F n hf hro hn l Bs r m b o len cap w0 B f hlen (by omega) (by omega) hsm hsr J Jx hY W hc' (fun j hj => (hfk j hj).1) (fun j hj => ?_) h0
    obtain ⟨_, b', o', r', e, hb', hd, hnode⟩ := hfk j hj
    cases e
    have hcell : ∀ i, W.cell? ⟨b, i, none⟩ = w0.cell? ⟨b, i, none⟩ := fun i => cell_of_block (p := ⟨b, i, none⟩) ((hW.block b (by omega)).trans (hw b hbB))
    exact ⟨(hcell _).trans hnode.kind, (hcell _).trans hnode.num, (hcell _).trans hnode.name, (hcell _).trans hnode.args⟩
end Go.Proofs.Ytmljkhofahgelaa
