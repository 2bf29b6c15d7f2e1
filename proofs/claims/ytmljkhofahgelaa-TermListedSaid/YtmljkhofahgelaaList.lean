/-
  package term's List.
-/
import Derived.Test.YtmljkhofahgelaaBack
namespace Go.Proofs.Ytmljkhofahgelaa
set_option linter.unusedVariables false
set_option linter.unusedSimpArgs false
open Go.RowKit
open Go.Shelf

attribute [local go_sem] Oper.semAt_some

namespace Tm
/-- A list of a row's terms, with a tail. -/
def consF : Fo → Pay → Fo → Pay × Fo
  | .nil, p, l => (p, l)
  | .node q m r, p, l => ((3, 0, ⟨#[46]⟩), .node q m (.node (consF r p l).1 (consF r p l).2 .nil))
def listFn (F : Fo) (p : Pay) (l : Fo) : Pay × Fo := if len F ≤ 2000 then cloneOf (consF F p l).1 (consF F p l).2 else (zp, .nil)
end Tm
/-- What the rounds make. -/
def consL {w : World} {B : Nat} (p : Pay) (l : Fo) (xs : List (El w B)) : Pay × Fo := xs.foldl (fun t x => ((3, 0, ⟨#[46]⟩), .node x.p x.l (.node t.1 t.2 .nil))) (p, l)
theorem consL_snoc {w : World} {B : Nat} (p : Pay) (l : Fo) (xs : List (El w B)) (x : El w B) : consL p l (xs ++ [x]) = ((3, 0, ⟨#[46]⟩), .node x.p x.l (.node (consL p l xs).1 (consL p l xs).2 .nil)) := by simp [consL]
theorem consL_down {w : World} {B : Nat} (F : Fo) (f : Nat → El w B) (n : Nat) (hn : Tm.len F = n) (hf : ∀ k, k < n → ∃ r, Tm.dropF F k = .node (f k).p (f k).l r) (p : Pay) (l : Fo) : ∀ k, k ≤ n → consL p l (downTo f n k) = Tm.consF (Tm.dropF F (n - k)) p l := by
  intro k
  induction k with
  | zero => intro _; rw [Nat.sub_zero, ← hn, Tm.drop_end]; rfl
  | succ k ih =>
    intro hk
    rw [downTo_succ, consL_snoc, ih (by omega)]
    obtain ⟨r, hr⟩ := hf (n - 1 - k) (by omega)
    have h1 : n - (k + 1) = n - 1 - k := by omega
    have h2 : Tm.dropF F (n - k) = r := by rw [show n - k = n - 1 - k + 1 by omega]; exact Tm.drop_succ hr
    rw [h1, hr, h2]
    rfl
theorem consL_all {w : World} {B : Nat} (F : Fo) (f : Nat → El w B) (n : Nat) (hn : Tm.len F = n) (hf : ∀ k, k < n → ∃ r, Tm.dropF F k = .node (f k).p (f k).l r) (p : Pay) (l : Fo) : consL p l (downTo f n n) = Tm.consF F p l := by
  rw [consL_down F f n hn hf p l n (Nat.le_refl _), Nat.sub_self, Tm.drop_zero]

theorem RowIn.cells {S : Nat → Prop} {w w' : World} (hk : ∀ (a : Addr) v, w.cell? a = some v → w'.cell? a = some v) : ∀ (F : Fo) (b o : Nat), RowIn S w F b o → RowIn S w' F b o := by
  intro F
  induction F with
  | nil => intro _ _ _; trivial
  | node p l r ihl ihr =>
    rintro b o ⟨h3, h4, h5, ⟨A, c, h6, hle, h7⟩, h8⟩
    refine ⟨hk _ _ h3, hk _ _ h4, hk _ _ h5, ⟨A, c, hk _ _ h6, hle, fun h => ?_⟩, ihr b (o + 4) h8⟩
    obtain ⟨b1, o1, e, hb1, hr⟩ := h7 h
    exact ⟨b1, o1, e, hb1, ihl b1 o1 hr⟩
theorem ArgsIn.cells {S : Nat → Prop} {w w' : World} {A : Option Addr} {n : Nat} {F : Fo} (h : ArgsIn S w A n F) (hk : ∀ (a : Addr) v, w.cell? a = some v → w'.cell? a = some v) : ArgsIn S w' A n F :=
  ⟨h.len, h.hi, fun hn => by obtain ⟨b, o, e, hb, hr⟩ := h.row hn; exact ⟨b, o, e, hb, hr.cells hk F b o⟩⟩

/-- What lies between two rounds. -/
structure ListSt (h r B : Nat) (q : Pay × Fo) (W : World) : Prop where
  ex : ∃ A1 c1, TermAt W r q.1 A1 (Tm.len q.2) c1 ∧ ArgsIn (fun b => b < B ∨ (h + 2 < b ∧ b < W.heap.size)) W A1 (Tm.len q.2) q.2
  soft : SoftAt W r
  size : h + 3 ≤ W.heap.size
theorem ListSt.own {β : Type} (h r B : Nat) (f : β → Pay × Fo) : Own (fun s W => ListSt h r B (f s) W) := fun s X Y row hs hg hr => by
  obtain ⟨⟨A1, c1, ht, ha⟩, hsoft, hsz⟩ := hs
  have hk : ∀ (a : Addr) v, X.cell? a = some v → Y.cell? a = some v := fun a v hc => cell_kept hc hg hr
  refine ⟨⟨A1, c1, ⟨hk _ _ ht.kind, hk _ _ ht.num, hk _ _ ht.name, hk _ _ ht.args⟩, (ha.cells hk).mono fun b hb => hb.imp id fun hb => ⟨hb.1, Nat.lt_of_lt_of_le hb.2 hg.size⟩⟩, ⟨?_, ?_, ?_, ?_⟩, Nat.le_trans hsz hg.size⟩
  · exact (frozen_kept ht.kind hg hr).trans hsoft.s0
  · exact (frozen_kept ht.num hg hr).trans hsoft.s1
  · exact (frozen_kept ht.name hg hr).trans hsoft.s2
  · exact (frozen_kept ht.args hg hr).trans hsoft.s3
theorem ListSt.alloc {h r B : Nat} {q : Pay × Fo} {W : World} (hs : ListSt h r B q W) (o : Obj) (hB : B ≤ W.heap.size) (hr : r < W.heap.size) : ListSt h r B q (W.alloc o) := by
  obtain ⟨⟨A1, c1, ht, ha⟩, hsoft, hsz⟩ := hs
  have hb := Below.heap_alloc W o
  refine ⟨⟨A1, c1, ht.same (hb r hr), (ha.keep fun b h' => hb b (by rcases h' with h' | h' <;> omega)).mono fun b h' => h'.imp id fun h' => ⟨h'.1, by rw [World.size_alloc]; omega⟩⟩, hsoft.same (hb r hr), by rw [World.size_alloc]; omega⟩

set_option maxRecDepth 100000 in
set_option maxHeartbeats 4000000 in
theorem list_some (F : Fo) (A : Option Addr) (n c : Nat) (p : Pay) (l : Fo) (At : Option Addr) (nt ct B : Nat) (w : World) (hn : n = Tm.len F) (hnt : nt = Tm.len l) (hA : ArgsB w B A n F) (hAt : ArgsB w B At nt l) (hB : B ≤ w.heap.size) (hlen : n ≤ 2000) :
    CallsIn Fence.wide 6 Try.prog 36 #[.slice A n c, tv p At nt ct] w (Makes (Tm.cloneOf (Tm.consF F p l).1 (Tm.consF F p l).2).1 (Tm.cloneOf (Tm.consF F p l).1 (Tm.consF F p l).2).2 w) := by
  have hle : decide ((2000 : Int) < (n : Int)) = false := by simp; omega
  have hg0 : (n : Int) ≤ 2000 := by omega
  obtain ⟨f, hf⟩ := row_els hA
  obtain ⟨u, hu⟩ : ∃ u, u = Tm.consF F p l := ⟨_, rfl⟩
  rw [← hu]
  have hall : consL p l (downTo f n n) = u := by
    rw [hu]
    exact consL_all F f n hn.symm (fun k hk => by obtain ⟨_, b, o, r, _, _, hd, _⟩ := hf k hk; exact ⟨r, hd⟩) p l
  have hb0 : Below w.heap.size w (((w.alloc (.cells #[.int .i64 p.1, .int .i64 p.2.1, .string p.2.2, .slice At nt ct] 24)).alloc (.cells #[.int .i64 p.1, .int .i64 p.2.1, .string p.2.2, .slice At nt ct] 24)).alloc (.cells #[.slice A n c] 22)) := Only.below (X := fun _ => False) ((((Only.refl _ w).alloc _).alloc _).alloc _) (Nat.le_refl _) (fun _ h => h.elim)
  have ht0 : TermAt (((w.alloc (.cells #[.int .i64 p.1, .int .i64 p.2.1, .string p.2.2, .slice At nt ct] 24)).alloc (.cells #[.int .i64 p.1, .int .i64 p.2.1, .string p.2.2, .slice At nt ct] 24)).alloc (.cells #[.slice A n c] 22)) (w.heap.size + 1) p At nt ct := by
    have := TermAt.new (w.alloc (.cells #[.int .i64 p.1, .int .i64 p.2.1, .string p.2.2, .slice At nt ct] 24)) p At nt ct 24
    rw [World.size_alloc] at this
    exact this.same (Below.heap_alloc _ _ _ (by simp))
  have hs0 : SoftAt (((w.alloc (.cells #[.int .i64 p.1, .int .i64 p.2.1, .string p.2.2, .slice At nt ct] 24)).alloc (.cells #[.int .i64 p.1, .int .i64 p.2.1, .string p.2.2, .slice At nt ct] 24)).alloc (.cells #[.slice A n c] 22)) (w.heap.size + 1) := by
    have := SoftAt.new (w.alloc (.cells #[.int .i64 p.1, .int .i64 p.2.1, .string p.2.2, .slice At nt ct] 24)) #[.int .i64 p.1, .int .i64 p.2.1, .string p.2.2, .slice At nt ct] 24
    rw [World.size_alloc] at this
    exact this.same (Below.heap_alloc _ _ _ (by simp))
  have hc0 : (((w.alloc (.cells #[.int .i64 p.1, .int .i64 p.2.1, .string p.2.2, .slice At nt ct] 24)).alloc (.cells #[.int .i64 p.1, .int .i64 p.2.1, .string p.2.2, .slice At nt ct] 24)).alloc (.cells #[.slice A n c] 22)).cell? ⟨w.heap.size + 1 + 1, 0, none⟩ = some (.slice A n c) := by
    have := (CellIs.new' ((w.alloc (.cells #[.int .i64 p.1, .int .i64 p.2.1, .string p.2.2, .slice At nt ct] 24)).alloc (.cells #[.int .i64 p.1, .int .i64 p.2.1, .string p.2.2, .slice At nt ct] 24)) (.slice A n c) 22 (w.heap.size + 1 + 1) (by simp)).cell
    exact this
  have hz0 : (((w.alloc (.cells #[.int .i64 p.1, .int .i64 p.2.1, .string p.2.2, .slice At nt ct] 24)).alloc (.cells #[.int .i64 p.1, .int .i64 p.2.1, .string p.2.2, .slice At nt ct] 24)).alloc (.cells #[.slice A n c] 22)).heap.size = w.heap.size + 3 := by simp
  have hq0 : ListSt w.heap.size (w.heap.size + 1) B (consL p l ([] : List (El w B))) (((w.alloc (.cells #[.int .i64 p.1, .int .i64 p.2.1, .string p.2.2, .slice At nt ct] 24)).alloc (.cells #[.int .i64 p.1, .int .i64 p.2.1, .string p.2.2, .slice At nt ct] 24)).alloc (.cells #[.slice A n c] 22)) := ⟨⟨At, ct, by show TermAt _ _ p At (Tm.len l) ct; rw [← hnt]; exact ht0, by show ArgsIn _ _ At (Tm.len l) l; rw [← hnt]; exact (hAt.below hb0 hB).mono fun b hb => .inl hb⟩, hs0, by rw [hz0]; omega⟩
  have HN := Lib.hid hn
  have HNT := Lib.hid hnt
  have HA := Lib.hid hA
  have HAT := Lib.hid hAt
  have HU := Lib.hid hu
  have HALL := Lib.hid hall
  have HF := Lib.hid hf
  have HB0 := Lib.hid hb0
  have HC0 := Lib.hid hc0
  have HZ0 := Lib.hid hz0
  have HQ0 := Lib.hid hq0
  clear hn hnt hA hAt hu hall hf hb0 ht0 hs0 hc0 hz0 hq0
  refine callsIn_of_wp_marks Try.func36 rfl trivial ?_ rfl
  simp only [Try.ntmps36, List.size_toArray, List.length_cons, List.length_nil, Nat.reduceAdd, Nat.reduceSub, Array.replicate_succ, Array.replicate_zero, List.push_toArray, List.append_toArray, List.nil_append, List.cons_append]
  gi_wp2_with (refine ⟨trivial, ?_⟩; gi_at_call 63; refine (backward_in Fence.wide 5 trivial rfl _ _ _ _).mono ?_; rintro e w' ⟨rfl, rfl⟩)
  generalize (((w.alloc (.cells #[.int .i64 p.1, .int .i64 p.2.1, .string p.2.2, .slice At nt ct] 24)).alloc (.cells #[.int .i64 p.1, .int .i64 p.2.1, .string p.2.2, .slice At nt ct] 24)).alloc (.cells #[.slice A n c] 22)) = W0 at HB0 HC0 HZ0 HQ0 ⊢
  have hz := HZ0.out
  have hst := back_stops Fence.wide 5 trivial rfl (by omega) (w.heap.size + 1 + 1) (w.heap.size + 1) (w.heap.size + 3) A n c w B F HA.out f HF.out (by omega) (by omega) (by omega) (by omega) (by omega) W0 (by omega) (fun k hk => HB0.out.block k (by omega)) HC0.out
  refine wpIn_rangeFunc_ownH rfl (by omega) (gf := 74) (lb := #[.pointer (some ⟨w.heap.size + 1 + 1, 0, none⟩)]) rfl trivial (enters_of Try.func74 (by kernel_rfl) rfl)
    hst (fun h k => h.trans k) (KeepBut.put (by omega)) (Below.refl _ _) (fun _ => rfl)
    (fun pre W => ListSt w.heap.size (w.heap.size + 1) B (consL p l pre) W ∧ Below w.heap.size w W) (fun _ _ _ => False)
    (OwnFrom.and (Own.from (ListSt.own _ _ _ _) _) (ownFrom_below (Nat.le_refl _) (by omega))) (fun _ _ _ _ _ hs _ _ => hs) ⟨HQ0.out, HB0.out⟩
    (fun x a' W => ∃ Bx, w.heap.size + 2 < Bx ∧ TermAt W Bx x.p x.A (Tm.len x.l) x.c ∧ a' = { tmps := #[.slice A n c, tv p At nt ct, undef, .pointer (some ⟨w.heap.size, 0, none⟩), .pointer (some ⟨w.heap.size + 1, 0, none⟩), undef, .pointer (some ⟨Bx, 0, none⟩), .slice A n c, .int .i64 n, .bool false, undef, tv p At nt ct, .slice A n c, .func (.func 74) #[] #[.pointer (some ⟨w.heap.size + 1 + 1, 0, none⟩)], .int .i64 (x.i : Int), tv x.p x.A (Tm.len x.l) x.c, undef, undef, undef, undef, undef, undef], defers := [] })
    (fun x a' s X Y row hs hg hr => by
      obtain ⟨Bx, hBx, ht, he⟩ := hs
      have hr' : ∀ r, row = some r → ∃ o : Obj, X.heap[r]? = some o ∧ o.isCells = false := fun r e => (hr r e).2
      exact ⟨Bx, hBx, ⟨cell_kept ht.kind hg hr', cell_kept ht.num hg hr', cell_kept ht.name hg hr', cell_kept ht.args hg hr'⟩, he⟩) ?assign ?body ?done ?stop
  case assign =>
    rintro l' pre x W K ⟨hi1, hi2⟩ hK
    obtain ⟨nx, hnx⟩ : ∃ nx, nx = Tm.len x.l := ⟨_, rfl⟩
    have hsz := hi1.size
    unfold El.enc
    rw [← hnx]
    gi_wp2
    refine hK _ _ ((KeepsOthers.alloc _ _).from _) ⟨by simp, fun k hk _ => Below.heap_alloc W _ k (by omega)⟩ ⟨hi1.alloc _ (by omega) (by omega), hi2.alloc (by omega) _⟩ ⟨W.heap.size, by omega, ?_, ?_⟩
    · rw [← hnx]; exact TermAt.new W x.p x.A nx x.c 24
    · rw [← hnx]
  case body =>
    rintro l' pre x a' W hl _ ⟨hi1, hi2⟩ ⟨Bx, hBx, ht, rfl⟩ hlt
    obtain ⟨⟨A1, c1, hc, ha1⟩, hsoft, hsz⟩ := hi1
    have hsn := consL_snoc p l pre x
    obtain ⟨q, hq⟩ : ∃ q, q = consL p l pre := ⟨_, rfl⟩
    rw [← hq] at hc ha1 hsn
    obtain ⟨qp, ql⟩ := q
    obtain ⟨nx, hnx⟩ : ∃ nx, nx = Tm.len x.l := ⟨_, rfl⟩
    obtain ⟨nq, hnq⟩ : ∃ nq, nq = Tm.len ql := ⟨_, rfl⟩
    replace hc : TermAt W (w.heap.size + 1) qp A1 nq c1 := by rw [hnq]; exact hc
    replace ha1 : ArgsIn (fun b => b < B ∨ (w.heap.size + 2 < b ∧ b < W.heap.size)) W A1 nq ql := by rw [hnq]; exact ha1
    rw [← hnx] at ht ⊢
    have hxa := x.inn.below hi2 hB
    rw [← hnx] at hxa
    have k0 := fun o : Obj => (hsoft.same (Below.heap_alloc W o (w.heap.size + 1) (by omega))).s0
    have k1 := fun o : Obj => (hsoft.same (Below.heap_alloc W o (w.heap.size + 1) (by omega))).s1
    have k2 := fun o : Obj => (hsoft.same (Below.heap_alloc W o (w.heap.size + 1) (by omega))).s2
    have k3 := fun o : Obj => (hsoft.same (Below.heap_alloc W o (w.heap.size + 1) (by omega))).s3
    have j0 := fun o : Obj => (hc.same (Below.heap_alloc W o (w.heap.size + 1) (by omega))).kind
    have j1 := fun o : Obj => (hc.same (Below.heap_alloc W o (w.heap.size + 1) (by omega))).num
    have j2 := fun o : Obj => (hc.same (Below.heap_alloc W o (w.heap.size + 1) (by omega))).name
    have j3 := fun o : Obj => (hc.same (Below.heap_alloc W o (w.heap.size + 1) (by omega))).args
    have z0 := hc.kind
    have z1 := hc.num
    have z2 := hc.name
    have z3 := hc.args
    have y0 := ht.kind
    have y1 := ht.num
    have y2 := ht.name
    have y3 := ht.args
    have HC := Lib.hid hc
    have HSO := Lib.hid hsoft
    have HX := Lib.hid hxa
    have HA1 := Lib.hid ha1
    have HI2 := Lib.hid hi2
    have HNX := Lib.hid hnx
    have HNQ := Lib.hid hnq
    have HSN := Lib.hid hsn
    clear hc hsoft hxa ha1 hi2 hnx hnq hsn hq ht
    gi_wp2
    have hvs : Vals (fun b => b < B ∨ (w.heap.size + 2 < b ∧ b < W.heap.size)) W [tv x.p x.A nx x.c, tv qp A1 nq c1] (.node x.p x.l (.node qp ql .nil)) := by
      rw [HNX.out, HNQ.out]
      refine ⟨⟨x.A, x.c, rfl, ?_⟩, ⟨A1, c1, rfl, ?_⟩, trivial⟩
      · rw [← HNX.out]; exact HX.out.mono fun b hb => .inl hb
      · rw [← HNQ.out]; exact HA1.out
    have htc : (tcells [tv x.p x.A nx x.c, tv qp A1 nq c1]).toArray = #[.int .i64 x.p.1, .int .i64 x.p.2.1, .string x.p.2.2, .slice x.A nx x.c, .int .i64 qp.1, .int .i64 qp.2.1, .string qp.2.2, .slice A1 nq c1] := rfl
    obtain ⟨o, ho⟩ : ∃ o : Obj, o = .cells #[.int .i64 x.p.1, .int .i64 x.p.2.1, .string x.p.2.2, .slice x.A nx x.c, .int .i64 qp.1, .int .i64 qp.2.1, .string qp.2.2, .slice A1 nq c1] 24 := ⟨_, rfl⟩
    rw [← ho]
    have hnew : (W.alloc o).heap[W.heap.size]? = some (.cells (tcells [tv x.p x.A nx x.c, tv qp A1 nq c1]).toArray 24) := by rw [htc, ← ho]; exact alloc_new W o
    have hvs' := Vals.mono (S' := fun b => b < B ∨ (w.heap.size + 2 < b ∧ b < (W.alloc o).heap.size)) (fun b hb => hb.imp id fun hb => ⟨hb.1, by rw [World.size_alloc]; omega⟩) _ _ (Vals.keep (w' := W.alloc o) (fun b hb => Below.heap_alloc W o b (by rcases hb with hb | hb <;> omega)) _ _ hvs)
    have hargs : ArgsIn (fun b => b < B ∨ (w.heap.size + 2 < b ∧ b < (W.alloc o).heap.size)) (W.alloc o) (some ⟨W.heap.size, 0, none⟩) 2 (.node x.p x.l (.node qp ql .nil)) :=
      Vals.args (b := W.heap.size) (o := 0) (.inr ⟨by omega, by rw [World.size_alloc]; omega⟩) hvs' (by simp) (fun j v hv => by
        rw [Nat.zero_add, cell_of_row _ _ _ _ _ _ hnew]
        simpa using hv)
    have st := stored (W.alloc o) (w.heap.size + 1) (3, 0, ⟨#[46]⟩) qp (some ⟨W.heap.size, 0, none⟩) A1 2 2 nq c1 (HC.out.same (Below.heap_alloc W o _ (by omega))) (HSO.out.same (Below.heap_alloc W o _ (by omega)))
    have hkf : KeepsFrom (w.heap.size + 3) W (set4 (W.alloc o) (w.heap.size + 1) 0 (3, 0, ⟨#[46]⟩) (some ⟨W.heap.size, 0, none⟩) 2 2) :=
      ((KeepsOthers.alloc _ _).trans ((((KeepsOthers.setCell _ _ _).trans (KeepsOthers.setCell _ _ _)).trans (KeepsOthers.setCell _ _ _)).trans (KeepsOthers.setCell _ _ _))).from _
    have hzo : (W.alloc o).heap.size = W.heap.size + 1 := World.size_alloc _ _
    have hal := fun k (hk : k < W.heap.size) => Below.heap_alloc W o k hk
    have hba : Below w.heap.size w (W.alloc o) := HI2.out.alloc (by omega) o
    show ownPostG _ _ _ _ _ _ _ _ (set4 (W.alloc o) (w.heap.size + 1) 0 (3, 0, ⟨#[46]⟩) (some ⟨W.heap.size, 0, none⟩) 2 2)
    clear ho hnew htc hvs hvs' k0 k1 k2 k3 j0 j1 j2 j3 z0 z1 z2 z3 y0 y1 y2 y3
    generalize W.alloc o = W1 at st hkf hargs hzo hal hba ⊢
    generalize set4 W1 (w.heap.size + 1) 0 (3, 0, ⟨#[46]⟩) (some ⟨W.heap.size, 0, none⟩) 2 2 = W2 at st hkf ⊢
    have hs2 := st.size
    refine ⟨hkf, ⟨by omega, fun k hk hr => (st.block k hr).trans (hal k (by omega))⟩, ⟨⟨some ⟨W.heap.size, 0, none⟩, 2, ?_, ?_⟩, st.soft, by omega⟩, st.below _ _ hba (by omega)⟩
    · rw [HSN.out]; exact st.term
    · rw [HSN.out]
      exact (hargs.keep fun b hb => st.block b (by rcases hb with hb | hb <;> omega)).mono fun b hb => hb.imp id fun hb => ⟨hb.1, by omega⟩
  case done =>
    rintro D ys W hD rfl ⟨⟨⟨A1, c1, hc, ha1⟩, hsoft, hsz⟩, hi2⟩ hK
    rw [HALL.out] at hc ha1
    obtain ⟨up, ul⟩ := u
    obtain ⟨nu, hnu⟩ : ∃ nu, nu = Tm.len ul := ⟨_, rfl⟩
    replace hc : TermAt W (w.heap.size + 1) up A1 nu c1 := by rw [hnu]; exact hc
    replace ha1 : ArgsB W W.heap.size A1 nu ul := by rw [hnu]; exact ha1.mono fun b hb => (by show b < W.heap.size; rcases hb with hb | hb <;> omega)
    have C0 := clone_any up ul A1 c1 W.heap.size W (by rw [← hnu]; exact ha1) (Nat.le_refl _)
    show Exit.inBlock 0 (Exit.then _ (bodyPostM _ _ _ _ (Makes (Tm.cloneOf up ul).1 (Tm.cloneOf up ul).2 w))) _ _ _
    obtain ⟨t, ht⟩ : ∃ t, t = Tm.cloneOf up ul := ⟨_, rfl⟩
    rw [← ht] at C0 ⊢
    obtain ⟨P2, L2⟩ := t
    unfold Makes at C0
    simp only [] at C0
    obtain ⟨n2, hn2⟩ : ∃ n2, n2 = Tm.len L2 := ⟨_, rfl⟩
    rw [← hn2, ← hnu] at C0
    have C1 := Lib.hid C0
    have HN2 := Lib.hid hn2
    have HTC := Lib.hid ht
    have HSO := Lib.hid hsoft
    have HC := Lib.hid hc
    have HI2 := Lib.hid hi2
    have HK := Lib.hid hK
    have hDW : D < W.heap.size := (Array.getElem?_eq_some_iff.1 hK).1
    have z0 := hc.kind
    have z1 := hc.num
    have z2 := hc.name
    have z3 := hc.args
    clear C0 hn2 hnu ht hc hsoft ha1 hi2 hK
    gi_wp2_with fail
    refine ⟨trivial, ?_⟩
    gi_at_call 58
    refine (callsIn_wide.2 C1.out).mono ?_
    rintro e w1 ⟨A5, c5, rfl, ha5, hb5⟩
    have hs5 := hb5.size
    have HC5 := Lib.hid (HC.out.below hb5 (by omega))
    have HS5 := Lib.hid (HSO.out.same (hb5.block _ (by omega)))
    have HK5 := Lib.hid ((hb5.block D hDW).trans HK.out)
    have HB5 := Lib.hid (HI2.out.trans (hb5.mono (by omega)))
    have HA5 := Lib.hid ha5
    clear ha5 hb5 z0 z1 z2 z3
    have z0 := HC5.out.kind
    have z1 := HC5.out.num
    have z2 := HC5.out.name
    have z3 := HC5.out.args
    have q0 := HS5.out.s0
    have q1 := HS5.out.s1
    have q2 := HS5.out.s2
    have q3 := HS5.out.s3
    gi_wp2
    have st := stored w1 (w.heap.size + 1) P2 up A5 A1 n2 c5 nu c1 HC5.out HS5.out
    show bodyPostM _ _ _ _ _ _ _ (set4 w1 (w.heap.size + 1) 0 P2 A5 n2 c5)
    generalize set4 w1 (w.heap.size + 1) 0 P2 A5 n2 c5 = w2 at st ⊢
    have hK2 : w2.heap[D]? = some (.deferred (some [])) := (st.block D (by omega)).trans HK5.out
    have hs2 := st.size
    refine ⟨by simp, .inl ⟨_, _, rfl, run_takeDeferred hK2, ?_⟩⟩
    have hck : ∀ (a : Addr) v, w2.cell? a = some v → (w2.putObj D (.deferred none)).cell? a = some v := fun a v hc => cell_kept hc (grownBy_putObj' _ D _) (fun r e => by cases e; exact ⟨_, hK2, rfl⟩)
    have htm := st.term
    rw [← HTC.out]
    refine ⟨_, term_result (q := 4) rfl _ _ (w.heap.size + 1) P2 A5 n2 c5 rfl ⟨hck _ _ htm.kind, hck _ _ htm.num, hck _ _ htm.name, hck _ _ htm.args⟩, A5, c5, by show _ = Ending.returned (tv P2 A5 (Tm.len L2) c5); rw [← HN2.out], ?_, ?_⟩
    · show ArgsIn _ _ A5 (Tm.len L2) L2
      rw [← HN2.out]
      exact ((st.fresh (N := W.heap.size) (N' := w.heap.size) HA5.out (by omega) (by omega)).cells hck).mono fun b hb => ⟨hb.1, by simpa using hb.2⟩
    · exact (st.below _ _ HB5.out (by omega)).trans (belowK_b (w := w) (Nat.le_refl _) w2 D _ _ (by omega) hK2 rfl rfl)
  case stop =>
    rintro D c pre W _ _ h _
    exact h.elim

set_option maxHeartbeats 1000000 in
theorem list_any (F : Fo) (A : Option Addr) (c : Nat) (p : Pay) (l : Fo) (At : Option Addr) (ct B : Nat) (w : World) (hA : ArgsB w B A (Tm.len F) F) (hAt : ArgsB w B At (Tm.len l) l) (hB : B ≤ w.heap.size) :
    Calls Try.prog 36 #[.slice A (Tm.len F) c, tv p At (Tm.len l) ct] w (Makes (Tm.listFn F p l).1 (Tm.listFn F p l).2 w) := by
  unfold Tm.listFn
  by_cases hlen : Tm.len F ≤ 2000
  · rw [if_pos hlen]
    exact callsIn_wide.1 (list_some F A (Tm.len F) c p l At (Tm.len l) ct B w rfl rfl hA hAt hB hlen)
  · rw [if_neg hlen]
    obtain ⟨n, hn⟩ : ∃ n, n = Tm.len F := ⟨_, rfl⟩
    obtain ⟨nt, hnt⟩ : ∃ nt, nt = Tm.len l := ⟨_, rfl⟩
    rw [← hn] at hlen ⊢
    rw [← hnt]
    have hgt : decide ((2000 : Int) < (n : Int)) = true := by simp; omega
    have hg0 : (2000 : Int) < (n : Int) := by omega
    have BX := Lib.hid (two_boxes w)
    have hr := ResAt.new (w.alloc (.cells #[.int .i64 p.1, .int .i64 p.2.1, .string p.2.2, .slice At nt ct] 24)) 24 (w.heap.size + 1) (by simp)
    clear hA hAt hn hnt hlen
    go_enter Try.func36, Try.ntmps36
    go_wp2_with fail
    have g1 : TermAt ((w.alloc (.cells #[.int .i64 p.1, .int .i64 p.2.1, .string p.2.2, .slice At nt ct] 24)).alloc (.cells #[.int .i64 0, .int .i64 0, .string ⟨#[]⟩, .slice none 0 0] 24)) (w.heap.size + 1) zp none 0 0 := hr.t
    refine bodyPost_ret (term_result (q := 4) rfl _ _ (w.heap.size + 1) zp none 0 0 rfl g1) rfl ?_
    exact ⟨none, 0, rfl, ArgsIn.nil _ _ _, BX.out _ _⟩
end Go.Proofs.Ytmljkhofahgelaa
