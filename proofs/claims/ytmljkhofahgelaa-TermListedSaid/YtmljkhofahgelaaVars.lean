/-
  package term's Vars: its closure, eachVar, Vars.
-/
import Derived.Test.YtmljkhofahgelaaCanon
import Derived.Test.YtmljkhofahgelaaRVars
import Derived.Test.YtmljkhofahgelaaRename
import Derived.Deep.RegionHeld3
namespace Go.Proofs.Ytmljkhofahgelaa
set_option linter.unusedVariables false
set_option linter.unusedSimpArgs false
open Go.RowKit

/-- From world to world while a list of the call's own grows and the blocks of X turn. -/
structure GrowsX (X : Nat → Prop) (w w' : World) (r r' : Option Nat) : Prop where
  os : w'.os = w.os
  tape : w'.tape = w.tape
  output : w'.output = w.output
  size : w.heap.size ≤ w'.heap.size
  block : ∀ k, k < w.heap.size → ¬ X k → some k ≠ r → w'.heap[k]? = w.heap[k]?
  next : r' = r ∨ ∃ g, r' = some g ∧ w.heap.size ≤ g
theorem GrowsX.refl (X : Nat → Prop) (w : World) (r : Option Nat) : GrowsX X w w r r := ⟨rfl, rfl, rfl, Nat.le_refl _, fun _ _ _ _ => rfl, .inl rfl⟩
theorem GrowsX.trans {X : Nat → Prop} {a b c : World} {r r' r'' : Option Nat} (h : GrowsX X a b r r') (k : GrowsX X b c r' r'') : GrowsX X a c r r'' := by
  refine ⟨k.os.trans h.os, k.tape.trans h.tape, k.output.trans h.output, Nat.le_trans h.size k.size, fun j hj hx hne => ?_, ?_⟩
  · refine (k.block j (Nat.lt_of_lt_of_le hj h.size) hx (fun e => ?_)).trans (h.block j hj hx hne)
    rcases h.next with h1 | ⟨g, h1, h2⟩
    · exact hne (e.trans h1)
    · rw [h1] at e; cases e; omega
  · rcases k.next with h1 | ⟨g, h1, h2⟩
    · rw [h1]; exact h.next
    · exact .inr ⟨g, h1, Nat.le_trans h.size h2⟩
theorem GrowsX.of_only {X : Nat → Prop} {w w' : World} (h : Only X w w') (r : Option Nat) : GrowsX X w w' r r := ⟨h.os, h.tape, h.output, h.size, fun k hk hx _ => h.block k hk hx, .inl rfl⟩

/-- What the closure of Vars holds. -/
structure VSt (lc pc kb mb base : Nat) (L : List Int) (A : Option Addr) (n c : Nat) (w : World) : Prop where
  can : CanSt pc kb mb L w
  lcell : CellIs w lc (.slice A n c)
  row : LSt base w A n c L
/-- The blocks that hold it stand apart. -/
structure VApart (lc pc kb mb base : Nat) : Prop where
  a : lc ≠ mb
  b : lc ≠ kb
  c : lc ≠ pc
  d : pc ≠ mb
  lt : lc < base ∧ pc < base ∧ kb < base ∧ mb < base
theorem VSt.same {lc pc kb mb base : Nat} {L : List Int} {A : Option Addr} {n c : Nat} {w w' : World} (h : VSt lc pc kb mb base L A n c w) (hk : ∀ k, k = lc ∨ k = pc ∨ k = kb ∨ k = mb ∨ some k = (Value.slice A n c).ownBlock → w'.heap[k]? = w.heap[k]?) : VSt lc pc kb mb base L A n c w' where
  can := ⟨h.can.map.same (hk _ (by simp)) (hk _ (by simp)), (cell_of_block (p := ⟨pc, 0, none⟩) (hk pc (by simp))).trans h.can.pos, h.can.nodup, h.can.range⟩
  lcell := ⟨(cell_of_block (p := ⟨lc, 0, none⟩) (hk lc (by simp))).trans h.lcell.cell, (frozen_of_block (p := ⟨lc, 0, none⟩) (hk lc (by simp))).trans h.lcell.soft⟩
  row := ⟨h.row.len, ownsRow_same h.row.own fun g hg => hk g (by simp [hg])⟩
theorem VSt.below {lc pc kb mb base : Nat} {L : List Int} {A : Option Addr} {n c : Nat} {w w' : World} (h : VSt lc pc kb mb base L A n c w) (hb : Below w.heap.size w w') : VSt lc pc kb mb base L A n c w' := by
  refine h.same fun k hk => hb.block k ?_
  rcases hk with rfl | rfl | rfl | rfl | hk
  · exact h.lcell.lt
  · exact World.block_lt_of_cell? w _ h.can.pos
  · exact h.can.map.lt.1
  · exact h.can.map.lt.2
  · exact (h.row.own.lt k hk.symm).2

set_option maxHeartbeats 2000000 in
theorem vars1_any (lc pc kb mb base : Nat) (V : VApart lc pc kb mb base) (L : List Int) (A : Option Addr) (n c : Nat) (v : Int) (w : World) (h : VSt lc pc kb mb base L A n c w) (hbase : base ≤ w.heap.size) (h0 : 0 ≤ v) (h1 : v ≤ 1099511627776) :
    Calls Try.prog 62 #[.int .i64 v, .pointer (some ⟨pc, 0, none⟩), .pointer (some ⟨lc, 0, none⟩)] w fun e w' =>
      ∃ A' n' c', e = .returned (.tuple #[]) ∧ VSt lc pc kb mb base (if v ∈ L then L else L ++ [v]) A' n' c' w' ∧ GrowsX (fun k => k = mb ∨ k = lc) w w' (Value.slice A n c).ownBlock (Value.slice A' n' c').ownBlock := by
  have eg := enters_positions1
  have hp := h.can.pos
  have hl := h.lcell.cell
  have hll : lc < w.heap.size := h.lcell.lt
  have hpl : pc < w.heap.size := World.block_lt_of_cell? w _ hp
  have hn := h.row.len
  have hbound := nodup_len _ L h.can.nodup h.can.range
  have H := Lib.hid h
  have C := Lib.hid fun w1 (h : MapSt kb mb L w1) => positions1_any kb mb L v w1 h h0 h1 (nodup_len _ L H.out.can.nodup H.out.can.range)
  obtain ⟨i0, hi0, hz0, hz1, hz2⟩ := int_parts
  by_cases hin : v ∈ L
  · rw [if_pos hin]
    rw [if_pos hin] at C
    have hidx : L.idxOf v < L.length := List.idxOf_lt_length_of_mem hin
    obtain ⟨z, hz⟩ : ∃ z : Int, z = (L.idxOf v : Int) := ⟨_, rfl⟩
    rw [← hz] at C
    have hzb : (z == (n : Int)) = false := by simp; omega
    clear h hin hidx hz
    go_enter Try.func62, Try.ntmps62
    go_wp2_with fail
    go_region_held3 (fun w' => w'.cell? ⟨lc, 0, none⟩ = some (.slice A n c) ∧ w'.cell? ⟨pc, 0, none⟩ = some (.func (.func 73) #[] #[.pointer (some ⟨kb, 0, none⟩)])) (go_keep)
      (first
        | (go_at_call 73
           refine (C.out _ (by exact H.out.can.map.same rfl rfl)).mono ?_
           rintro e w1 ⟨rfl, hm1, ho1⟩
           have ho2 : Only (· = mb) w w1 := (Only.refl (· = mb) w).drew.trans ho1
           have v0 := (ho2.cell (p := ⟨lc, 0, none⟩) hll V.a).trans hl
           have v1 := (ho2.cell (p := ⟨pc, 0, none⟩) hpl V.d).trans hp
           have HM := Lib.hid hm1
           have HO := Lib.hid ho2
           clear hm1 ho1 ho2))
    go_wp2_with fail
    go_end0
    have hne : ∀ k, k ≠ mb → k < w.heap.size → w1.heap[k]? = w.heap[k]? := fun k hk hlt => HO.out.block k hlt hk
    refine ⟨A, n, c, rfl, ⟨⟨HM.out, v1.trans (by rfl), H.out.can.nodup, H.out.can.range⟩, H.out.lcell.only HO.out V.a, ⟨hn, ownsRow_same H.out.row.own fun g hg => hne g (by have := (H.out.row.own.lt g hg).1; have := V.lt; omega) (H.out.row.own.lt g hg).2⟩⟩, GrowsX.of_only (HO.out.mono fun k hk => .inl hk) _⟩
  · rw [if_neg hin]
    rw [if_neg hin] at C
    have hidx : L.idxOf v = n := by rw [List.idxOf_eq_length hin, hn]
    rw [hidx] at C
    have hnew := fun (w' : World) (hm : MapSt kb mb (L ++ [v]) w') (hp : w'.cell? ⟨pc, 0, none⟩ = w.cell? ⟨pc, 0, none⟩) => (by have := H.out.can.next (v := v) (w' := w') (by rw [if_neg hin]; exact hm) hp h0 h1; rw [if_neg hin] at this; exact this : CanSt pc kb mb (L ++ [v]) w')
    have HNEW := Lib.hid hnew
    clear h hin hidx hnew
    go_enter Try.func62, Try.ntmps62
    go_wp2_with fail
    go_region_held3 (fun w' => w'.cell? ⟨lc, 0, none⟩ = some (.slice A n c) ∧ w'.cell? ⟨pc, 0, none⟩ = some (.func (.func 73) #[] #[.pointer (some ⟨kb, 0, none⟩)])) (go_keep)
      (first
        | (go_at_call 73
           refine (C.out _ (by exact H.out.can.map.same rfl rfl)).mono ?_
           rintro e w1 ⟨rfl, hm1, ho1⟩
           have ho2 : Only (· = mb) w w1 := (Only.refl (· = mb) w).drew.trans ho1
           have v0 := (ho2.cell (p := ⟨lc, 0, none⟩) hll V.a).trans hl
           have v1 := (ho2.cell (p := ⟨pc, 0, none⟩) hpl V.d).trans hp
           have HM := Lib.hid hm1
           have HO := Lib.hid ho2
           clear hm1 ho1 ho2))
    have hs1 := HO.out.size
    have hrow1 : LSt base (w1.alloc (.cells #[.int .i64 v] 2)) A n c L := ⟨hn, ownsRow_same H.out.row.own fun g hg => (Below.heap_alloc _ _ _ (by have := (H.out.row.own.lt g hg).2; omega)).trans (HO.out.block g (H.out.row.own.lt g hg).2 (by have := (H.out.row.own.lt g hg).1; have := V.lt; omega))⟩
    have HR1 := Lib.hid hrow1
    clear hrow1
    go_wp2_with (refine wpList_append_lies _ rfl (.tmp 10) (.tmp 12) 42 rfl base 2 i0 (.int .i64 0) 1 8 Try.underlying42 hi0 hz0 hz1 hz2 rfl (by decide) (.slice A n c) n (ints L) rfl HR1.out.own ⟨w1.heap.size, 0, none⟩ 1 1 [.int .i64 v] rfl rfl (World.news_of_block (alloc_new w1 _)) (by simp [Value.oneCell']) (by decide) (by simp [maxLen]; omega) (by omega) (by simp; omega) _ rfl ?_; intro g cap w2 hown2 hgrow hat hlt2; have hlw : lc < w1.heap.size := Nat.lt_of_lt_of_le hll hs1; have hlk : w2.heap[lc]? = w1.heap[lc]? := (hgrow.block lc (by simp; omega) (fun e => by have := (HR1.out.own.lt lc e.symm).1; have := V.lt; omega)).trans (Below.heap_alloc _ _ _ hlw); have u0 := (cell_of_block (p := ⟨lc, 0, none⟩) hlk).trans v0; have u1 : w2.frozen? ⟨lc, 0, none⟩ = false := (frozen_of_block (p := ⟨lc, 0, none⟩) hlk).trans (H.out.lcell.only HO.out V.a).soft; have HG := Lib.hid hgrow; have HAT := Lib.hid hat; have HOW := Lib.hid hown2; clear hgrow hat hown2)
    go_end0
    have h3 : ∀ k, k ≠ lc → k < base → (w2.setCell ⟨lc, 0, none⟩ (.slice (some ⟨g, 0, none⟩) (n + 1) cap)).heap[k]? = w1.heap[k]? := fun k hk hlt => (setCell_block _ _ _ _ _ hk).trans ((HG.out.block k (by simp; omega) (fun e => by have := (HR1.out.own.lt k e.symm).1; omega)).trans (Below.heap_alloc _ _ _ (by omega)))
    have hlc2 : CellIs w2 lc (.slice A n c) := ⟨u0, u1⟩
    have hg1 : base ≤ g := by
      rcases HAT.out with h | h
      · exact (HR1.out.own.lt g h).1
      · rw [h]; simp; omega
    have hlt4 := V.lt
    refine ⟨some ⟨g, 0, none⟩, n + 1, cap, rfl, ⟨HNEW.out _ (HM.out.same (h3 kb (fun e => V.b e.symm) hlt4.2.2.1) (h3 mb (fun e => V.a e.symm) hlt4.2.2.2)) ((cell_of_block (p := ⟨pc, 0, none⟩) (h3 pc (fun e => V.c e.symm) hlt4.2.1)).trans (v1.trans hp.symm)), hlc2.set _, ⟨by rw [List.length_append, hn]; rfl, ?_⟩⟩, ?_⟩
    · have := ownsRow_same (w' := w2.setCell ⟨lc, 0, none⟩ (.slice (some ⟨g, 0, none⟩) (n + 1) cap)) HOW.out (fun g' hg' => setCell_block _ _ _ _ _ (by have e : g = g' := Option.some.inj hg'; omega))
      show World.ownsRow _ base _ 1 _ (n + 1) ((L ++ [v]).map (Value.int .i64))
      rw [List.map_append]
      exact this
    · refine ⟨HG.out.os.trans HO.out.os, HG.out.tape.trans HO.out.tape, HG.out.output.trans HO.out.output, by have := HG.out.size; rw [setCell_size]; simp at this; omega, fun k hk hx hne => ?_, ?_⟩
      · exact (setCell_block _ _ _ _ _ (fun e => hx (.inr e))).trans ((HG.out.block k (by simp; omega) hne).trans ((Below.heap_alloc _ _ _ (by omega)).trans (HO.out.block k hk (fun e => hx (.inl e)))))
      · rcases HAT.out with h | h
        · exact .inl h.symm
        · exact .inr ⟨g, rfl, by rw [h]; simp; omega⟩

def EVars (lc pc kb mb base : Nat) (m : Nat) : Prop := ∀ (p : Pay) (l : Fo) (A : Option Addr) (c B : Nat) (L : List Int) (AL : Option Addr) (nL cL : Nat) (w : World), Tm.size l < m → Tm.goodB p l = true → ArgsB w B A (Tm.len l) l → B ≤ lc → B ≤ mb → B ≤ base → base ≤ w.heap.size → VSt lc pc kb mb base L AL nL cL w →
    Calls Try.prog 61 #[tv p A (Tm.len l) c, .func (.func 62) #[] #[.pointer (some ⟨pc, 0, none⟩), .pointer (some ⟨lc, 0, none⟩)]] w fun e w' =>
      ∃ A' n' c', e = .returned (.tuple #[]) ∧ VSt lc pc kb mb base (Tm.varsT L p l) A' n' c' w' ∧ GrowsX (fun k => k = mb ∨ k = lc) w w' (Value.slice AL nL cL).ownBlock (Value.slice A' n' c').ownBlock
theorem enters_vars1 : ∀ (args : Array Value) (w : World), (callFunc 62 args).run Try.prog w = .ok (.enter 62 args) w := fun args w => by kernel_rfl

set_option maxHeartbeats 1000000 in
theorem eachVar_var (lc pc kb mb base : Nat) (V : VApart lc pc kb mb base) (v : Int) (A : Option Addr) (c : Nat) (L : List Int) (AL : Option Addr) (nL cL : Nat) (w : World) (h0 : 0 ≤ v) (h1 : v ≤ 1099511627776) (hbase : base ≤ w.heap.size) (h : VSt lc pc kb mb base L AL nL cL w) :
    Calls Try.prog 61 #[tv (0, v, ByteArray.empty) A 0 c, .func (.func 62) #[] #[.pointer (some ⟨pc, 0, none⟩), .pointer (some ⟨lc, 0, none⟩)]] w fun e w' =>
      ∃ A' n' c', e = .returned (.tuple #[]) ∧ VSt lc pc kb mb base (Tm.varsT L (0, v, ByteArray.empty) .nil) A' n' c' w' ∧ GrowsX (fun k => k = mb ∨ k = lc) w w' (Value.slice AL nL cL).ownBlock (Value.slice A' n' c').ownBlock := by
  have hvt : Tm.varsT L (0, v, ByteArray.empty) .nil = if v ∈ L then L else L ++ [v] := by
    show Tm.vars1 L (0, v, ByteArray.empty) = _
    exact Tm.vars1_eq L v _
  rw [hvt]
  have eg := enters_vars1
  have hlcw : lc < w.heap.size := h.lcell.lt
  have hmbw : mb < w.heap.size := h.can.map.lt.2
  have hrw : ∀ k, (Value.slice AL nL cL).ownBlock = some k → k < w.heap.size := fun k hk => (h.row.own.lt k hk).2
  have H := Lib.hid h
  have C := Lib.hid fun w1 (h : VSt lc pc kb mb base L AL nL cL w1) (hb : base ≤ w1.heap.size) => vars1_any lc pc kb mb base V L AL nL cL v w1 h hb h0 h1
  obtain ⟨L2, hL2⟩ : ∃ L2, L2 = if v ∈ L then L else L ++ [v] := ⟨_, rfl⟩
  rw [← hL2] at C ⊢
  have HRW := Lib.hid hrw
  clear h hL2 hvt hrw
  go_enter Try.func61, Try.ntmps61
  go_wp2_with fail
  refine (C.out _ ?_ ?_).mono ?_
  · exact H.out.below ((Below.refl _ _).alloc (Nat.le_refl _) _)
  · simp; omega
  rintro e w1 ⟨A1, n1, c1, rfl, hv1, hg1⟩
  have hbk : w1.heap[w.heap.size]? = (w.alloc (.cells #[.int .i64 0, .int .i64 v, .string ByteArray.empty, .slice A 0 c] 24)).heap[w.heap.size]? := hg1.block _ (by simp) (by omega) (fun e => by have := HRW.out _ e.symm; omega)
  have hta := (TermAt.new w (0, v, ByteArray.empty) A 0 c 24).same hbk
  have y3 := hta.args
  have hsz := hg1.size
  simp at hsz
  have hw1 : w.heap.size < w1.heap.size := by omega
  have HV1 := Lib.hid hv1
  have HG1 := Lib.hid ((GrowsX.of_only ((Only.refl _ w).alloc _) _).trans hg1)
  clear hbk hta hv1 hg1
  go_wp2_with fail
  refine wp_loop_rounds 1 ?_
  rw [rounds_succ]
  go_wp2_with fail
  go_end0
  exact ⟨A1, n1, c1, rfl, HV1.out, HG1.out⟩

set_option maxHeartbeats 2000000 in
theorem eachVar_struct (lc pc kb mb base : Nat) (V : VApart lc pc kb mb base) (m : Nat) (ih : EVars lc pc kb mb base m) (p : Pay) (l : Fo) (A : Option Addr) (c B : Nat) (L : List Int) (AL : Option Addr) (nL cL : Nat) (w : World) (hk : ¬ p.1 = 0) (hm : Tm.size l ≤ m) (hall : Tm.allB l = true) (hA : ArgsB w B A (Tm.len l) l) (hB1 : B ≤ lc) (hB2 : B ≤ mb) (hB3 : B ≤ base) (hbase : base ≤ w.heap.size) (h : VSt lc pc kb mb base L AL nL cL w) :
    Calls Try.prog 61 #[tv p A (Tm.len l) c, .func (.func 62) #[] #[.pointer (some ⟨pc, 0, none⟩), .pointer (some ⟨lc, 0, none⟩)]] w fun e w' =>
      ∃ A' n' c', e = .returned (.tuple #[]) ∧ VSt lc pc kb mb base (Tm.varsT L p l) A' n' c' w' ∧ GrowsX (fun k => k = mb ∨ k = lc) w w' (Value.slice AL nL cL).ownBlock (Value.slice A' n' c').ownBlock := by
  obtain ⟨n, hn⟩ : ∃ n, n = Tm.len l := ⟨_, rfl⟩
  rw [← hn] at hA ⊢
  have hnn : n ≤ 9223372036854775807 := hA.hi
  have hvt : Tm.varsT L p l = Tm.varsF L l := by unfold Tm.varsT; rw [Tm.vars1_no hk]
  rw [hvt]
  have hb : (p.1 == 0) = false := by simpa using hk
  have HN := Lib.hid hn
  have HA := Lib.hid hA
  have HM := Lib.hid hm
  have IH := Lib.hid ih
  have HALL := Lib.hid hall
  have HOWN := Lib.hid h.row.own.lt
  have H := Lib.hid h
  clear hn hA hm ih hall hvt h
  go_enter Try.func61, Try.ntmps61
  go_wp2_with fail
  go_loopw [16] (fun u wr => ∃ (k : Nat) (L' : List Int) (A' : Option Addr) (n' c' : Nat), k ≤ n ∧ u = .int .i64 k ∧ Tm.varsF L l = Tm.varsF L' (Tm.dropF l k) ∧ VSt lc pc kb mb base L' A' n' c' wr ∧ GrowsX (fun k => k = mb ∨ k = lc) w wr (Value.slice AL nL cL).ownBlock (Value.slice A' n' c').ownBlock) (fun u _ => n - (intOf u).toNat)
  case atStart => exact ⟨0, L, AL, nL, cL, Nat.zero_le _, rfl, by rw [Tm.drop_zero], H.out.below ((Below.refl _ _).alloc (Nat.le_refl _) _), GrowsX.of_only ((Only.refl _ w).alloc _) _⟩
  case round =>
    obtain ⟨k, L', A', n', c', hk, rfl, hvar, hst, hgr⟩ := hrel
    have hk0 : ∀ b, b < B → wr.heap[b]? = w.heap[b]? := fun b h1 => hgr.block b (by omega) (by omega) (fun e => by have := (HOWN.out b e.symm).1; omega)
    have hws := hgr.size
    have HV := Lib.hid hvar
    have HST := Lib.hid hst
    have HGR := Lib.hid hgr
    have HK0 := Lib.hid hk0
    clear hvar hst hgr hk0
    by_cases hlt : k < n
    · obtain ⟨b, o, p1, l1, r1, A1, c1, rfl, hbB, hd, hnode⟩ := HA.out.at hlt
      have hbk : wr.heap[b]? = w.heap[b]? := HK0.out b hbB
      have hbw : b < wr.heap.size := by have : b < B := hbB; omega
      have y0 := (cell_of_block (p := ⟨b, o + k * 4, none⟩) hbk).trans hnode.kind
      have y1 := (cell_of_block (p := ⟨b, o + k * 4 + 1, none⟩) hbk).trans hnode.num
      have y2 := (cell_of_block (p := ⟨b, o + k * 4 + 2, none⟩) hbk).trans hnode.name
      have y3 := (cell_of_block (p := ⟨b, o + k * 4 + 3, none⟩) hbk).trans hnode.args
      have HD := Lib.hid hd
      have HI := Lib.hid (hnode.inn.keep fun b' (hb' : b' < B) => HK0.out b' hb')
      have hs1 : Tm.size l1 < m := by have e := HD.out; have := Tm.size_drop_le l k; rw [e] at this; simp only [Tm.size] at this; have := HM.out; omega
      have hg1 : Tm.goodB p1 l1 = true := by have e := Tm.allB_drop HALL.out k; rw [HD.out, Tm.allB_cons, Bool.and_eq_true] at e; exact e.1
      have hstep : Tm.varsF L l = Tm.varsF (Tm.varsT L' p1 l1) (Tm.dropF l (k + 1)) := by rw [HV.out, Tm.drop_succ HD.out, HD.out, Tm.varsF_cons]
      have C1 := Lib.hid fun (w2 : World) (h2 : ArgsB w2 B A1 (Tm.len l1) l1) (h3 : base ≤ w2.heap.size) (h4 : VSt lc pc kb mb base L' A' n' c' w2) => IH.out p1 l1 A1 c1 B L' A' n' c' w2 hs1 hg1 h2 hB1 hB2 hB3 h3 h4
      have HS := Lib.hid hstep
      clear hs1 hg1 hstep hd hnode hbk
      go_wp2_with fail
      refine (C1.out _ ?_ ?_ ?_).mono ?_
      · exact HI.out.below ((Below.refl wr.heap.size wr).alloc (Nat.le_refl _) _) (by omega)
      · simp; omega
      · exact HST.out.below ((Below.refl _ _).alloc (Nat.le_refl _) _)
      rintro e w1 ⟨A2, n2, c2, rfl, hl2, hg2⟩
      have HL2 := Lib.hid hl2
      have HG2 := Lib.hid ((GrowsX.of_only ((Only.refl _ wr).alloc _) _).trans hg2)
      clear hl2 hg2
      go_wp2_with fail
      exact ⟨⟨k + 1, Tm.varsT L' p1 l1, A2, n2, c2, by omega, by go_num, HS.out, HL2.out, HGR.out.trans HG2.out⟩, by simp [intOf]; omega⟩
    · obtain rfl : k = n := by omega
      have hres : Tm.varsF L l = L' := by rw [HV.out, show k = Tm.len l from HN.out, Tm.drop_end]; rfl
      have HR := Lib.hid hres
      clear hres
      go_wp2_with fail
      go_end0
      rw [HR.out]
      exact ⟨A', n', c', rfl, HST.out, HGR.out⟩
theorem eachVar_up (lc pc kb mb base : Nat) (V : VApart lc pc kb mb base) (m : Nat) : EVars lc pc kb mb base m := by
  induction m with
  | zero => intro p l A c B L AL nL cL w hm; omega
  | succ m ih =>
    intro p l A c B L AL nL cL w hm hg hA hB1 hB2 hB3 hbase h
    have hg' := hg
    unfold Tm.goodB at hg'
    rw [Bool.and_eq_true] at hg'
    by_cases h0 : p.1 = 0
    · obtain ⟨k, v, nm⟩ := p
      have h0' : k = 0 := h0
      subst h0'
      obtain ⟨h5, h6, rfl, h4⟩ := nodeB_var hg'.1
      obtain rfl := Tm.len_zero h4
      exact eachVar_var lc pc kb mb base V v A c L AL nL cL w h5 h6 hbase h
    · exact eachVar_struct lc pc kb mb base V m ih p l A c B L AL nL cL w h0 (by omega) hg'.2 hA hB1 hB2 hB3 hbase h
end Go.Proofs.Ytmljkhofahgelaa
