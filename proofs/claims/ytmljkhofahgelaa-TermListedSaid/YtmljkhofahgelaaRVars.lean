/-
  The reference's position and vars: the variables of a term in order of first occurrence.
-/
import Derived.Test.YtmljkhofahgelaaMath
import Derived.Test.YtmljkhofahgelaaRow
namespace Go.Proofs.Ytmljkhofahgelaa
set_option linter.unusedVariables false
set_option linter.unusedSimpArgs false
open Go.RowKit

/-- A slice value (A, n) of integers reads as L. -/
structure ListIn (w : World) (A : Option Addr) (n : Nat) (L : List Int) : Prop where
  len : L.length = n
  hi : n ≤ 4000
  row : 0 < n → ∃ b o, A = some ⟨b, o, none⟩ ∧ b < w.heap.size ∧ ∀ j v, L[j]? = some v → w.cell? ⟨b, o + j, none⟩ = some (.int .i64 v)
theorem ListIn.keep {w w' : World} {A : Option Addr} {n : Nat} {L : List Int} (h : ListIn w A n L) (hs : w.heap.size ≤ w'.heap.size) (hk : ∀ b o, A = some ⟨b, o, none⟩ → w'.heap[b]? = w.heap[b]?) : ListIn w' A n L :=
  ⟨h.len, h.hi, fun hn => by obtain ⟨b, o, e, hb, hr⟩ := h.row hn; exact ⟨b, o, e, Nat.lt_of_lt_of_le hb hs, fun j v hv => (cell_of_block (p := ⟨b, o + j, none⟩) (hk b o e)).trans (hr j v hv)⟩⟩
theorem ListIn.below {w w' : World} {A : Option Addr} {n : Nat} {L : List Int} (h : ListIn w A n L) (hb : Below w.heap.size w w') : ListIn w' A n L := by
  refine ⟨h.len, h.hi, fun hn => ?_⟩
  obtain ⟨b, o, e, hlt, hr⟩ := h.row hn
  exact ⟨b, o, e, Nat.lt_of_lt_of_le hlt hb.size, fun j v hv => (cell_of_block (p := ⟨b, o + j, none⟩) (hb.block b hlt)).trans (hr j v hv)⟩

theorem pos_hit {L : List Int} {k : Nat} {v : Int} (hk : L[k]? = some v) (hn : ¬ v ∈ L.take k) : Tm.posI L v = (k : Int) := by
  have hlt : k < L.length := (List.getElem?_eq_some_iff.1 hk).1
  have hv : L[k] = v := (List.getElem?_eq_some_iff.1 hk).2
  have hin : v ∈ L := by rw [← hv]; exact List.getElem_mem hlt
  unfold Tm.posI
  rw [if_pos hin]
  congr 1
  have e : L = L.take k ++ L.drop k := (List.take_append_drop k L).symm
  rw [e, List.idxOf_append, if_neg hn, List.drop_eq_getElem_cons hlt, hv, List.idxOf_cons_self, List.length_take, Nat.min_eq_left (by omega), Nat.zero_add]
theorem pos_miss {L : List Int} {v : Int} (hn : ¬ v ∈ L) : Tm.posI L v = -1 := if_neg hn
theorem pos_in {L : List Int} {v : Int} (h : v ∈ L) : Tm.posI L v = (L.idxOf v : Int) := if_pos h

set_option maxHeartbeats 1000000 in
theorem position_any (A : Option Addr) (n c : Nat) (L : List Int) (v : Int) (w : World) (h : ListIn w A n L) :
    Calls Try.prog 69 #[.slice A n c, .int .i64 v] w fun e w' => e = .returned (.int .i64 (Tm.posI L v)) ∧ w = w' := by
  have hnn := h.hi
  have H := Lib.hid h
  clear h
  go_enter Try.func69, Try.ntmps69
  go_wp2_with fail
  go_loop [5] (fun u => ∃ k : Nat, k ≤ n ∧ u = .int .i64 k ∧ ¬ v ∈ L.take k) (fun u => n - (intOf u).toNat)
  case atStart => exact ⟨0, Nat.zero_le _, rfl, by simp⟩
  case round =>
    obtain ⟨k, hk, rfl, hno⟩ := hrel
    have HNO := Lib.hid hno
    clear hno
    by_cases hlt : k < n
    · obtain ⟨b, o, rfl, hbw, hrow⟩ := H.out.row (by omega)
      obtain ⟨z, hz⟩ : ∃ z, L[k]? = some z := ⟨_, List.getElem?_eq_getElem (by rw [H.out.len]; exact hlt)⟩
      have y := hrow k z hz
      have HZ := Lib.hid hz
      clear hrow hz
      by_cases he : z = v
      · have hres := pos_hit (he ▸ HZ.out) HNO.out
        have HR := Lib.hid hres
        clear hres
        subst he
        go_wp2_with fail
        go_ret
        exact ⟨by rw [HR.out]; rfl, rfl⟩
      · have hb : (z == v) = false := by simpa using he
        have hnext : ¬ v ∈ L.take (k + 1) := by
          intro hm
          rw [List.take_add_one, HZ.out] at hm
          simp at hm
          rcases hm with h1 | h1
          · exact HNO.out h1
          · exact he h1.symm
        have HNX := Lib.hid hnext
        clear hnext
        go_wp2_with fail
        exact ⟨⟨k + 1, by omega, by go_num, HNX.out⟩, by simp [intOf]; omega⟩
    · obtain rfl : k = n := by omega
      have hres := pos_miss (L := L) (v := v) (by have := HNO.out; rwa [List.take_of_length_le (by rw [H.out.len]; exact Nat.le_refl _)] at this)
      have HR := Lib.hid hres
      clear hres
      go_wp2_with fail
      go_ret
      exact ⟨by rw [HR.out]; rfl, rfl⟩

/-! ### vars -/
abbrev ints (L : List Int) : List Value := L.map (Value.int .i64)
/-- A list of the call's own that grows. -/
structure LSt (base : Nat) (w : World) (A : Option Addr) (n c : Nat) (L : List Int) : Prop where
  len : L.length = n
  own : w.ownsRow base 2 1 (.slice A n c) n (ints L)
theorem LSt.listIn {base : Nat} {w : World} {A : Option Addr} {n c : Nat} {L : List Int} (h : LSt base w A n c L) (hn : n ≤ 4000) : ListIn w A n L := by
  refine ⟨h.len, hn, fun h0 => ?_⟩
  obtain ⟨g, cap, e, hg1, hg2⟩ := h.own.form h0
  injection e with e1 e2 e3
  subst e1
  refine ⟨g, 0, rfl, hg2, fun j v hv => ?_⟩
  have := h.own.cells (g := g) rfl j (.int .i64 v) (by simp [ints, hv])
  have hadd : (⟨g, 0, none⟩ : Addr).add j = ⟨g, j, none⟩ := by unfold Addr.add; split <;> simp_all
  rw [hadd] at this
  rw [Nat.zero_add]; exact this
/-- From world to world while a list of the call's own grows: its block was r, and is r'. -/
structure Grows (w w' : World) (r r' : Option Nat) : Prop where
  grown : w.grownBy w' r
  next : r' = r ∨ ∃ g, r' = some g ∧ w.heap.size ≤ g
theorem Grows.refl (w : World) (r : Option Nat) : Grows w w r r := ⟨⟨rfl, rfl, rfl, Nat.le_refl _, fun _ _ _ => rfl⟩, .inl rfl⟩
theorem Grows.trans {a b c : World} {r r' r'' : Option Nat} (h : Grows a b r r') (k : Grows b c r' r'') : Grows a c r r'' := by
  refine ⟨⟨k.grown.os.trans h.grown.os, k.grown.tape.trans h.grown.tape, k.grown.output.trans h.grown.output, Nat.le_trans h.grown.size k.grown.size, fun j hj hne => ?_⟩, ?_⟩
  · refine (k.grown.block j (Nat.lt_of_lt_of_le hj h.grown.size) (fun e => ?_)).trans (h.grown.block j hj hne)
    rcases h.next with h1 | ⟨g, h1, h2⟩
    · exact hne (e.trans h1)
    · rw [h1] at e; cases e; omega
  · rcases k.next with h1 | ⟨g, h1, h2⟩
    · rw [h1]; exact h.next
    · exact .inr ⟨g, h1, Nat.le_trans h.grown.size h2⟩
theorem Grows.of_below {w w' : World} (h : Below w.heap.size w w') (r : Option Nat) : Grows w w' r r := ⟨⟨h.os, h.tape, h.output, h.size, fun k hk _ => h.block k hk⟩, .inl rfl⟩
theorem Grows.below {w w' : World} {r r' : Option Nat} (h : Grows w w' r r') {B : Nat} (hB : B ≤ w.heap.size) (hr : ∀ k, r = some k → B ≤ k) : Below B w w' :=
  ⟨h.grown.os, h.grown.tape, h.grown.output, h.grown.size, fun k hk => h.grown.block k (by omega) (fun e => by have := hr k e.symm; omega)⟩
theorem LSt.below {base : Nat} {w w' : World} {A : Option Addr} {n c : Nat} {L : List Int} (h : LSt base w A n c L) (hb : Below w.heap.size w w') : LSt base w' A n c L :=
  ⟨h.len, ownsRow_same h.own fun g hg => hb.block g (h.own.lt g hg).2⟩
theorem int_info : (Try.prog.info? 2).map (fun i => (i.zero, i.size, i.bytes)) = some (some (.int .i64 0), 1, 8) := by kernel_rfl
theorem int_parts : ∃ i, Try.prog.info? 2 = some i ∧ i.zero = some (.int .i64 0) ∧ i.size = 1 ∧ i.bytes = 8 := info_parts int_info

theorem varsF_len (F : Fo) : ∀ L : List Int, (Tm.varsF L F).length ≤ L.length + Tm.size F := by
  induction F with
  | nil => intro L; exact Nat.le_refl _
  | node p l r ihl ihr =>
    intro L
    have h1 : (Tm.vars1 L p).length ≤ L.length + 1 := by unfold Tm.vars1; split <;> simp
    have h2 := ihl (Tm.vars1 L p)
    have h3 := ihr (Tm.varsF (Tm.vars1 L p) l)
    simp only [Tm.varsF, Tm.size]
    omega
theorem varsT_len (L : List Int) (p : Pay) (l : Fo) : (Tm.varsT L p l).length ≤ L.length + 1 + Tm.size l := by
  have h1 : (Tm.vars1 L p).length ≤ L.length + 1 := by unfold Tm.vars1; split <;> simp
  have h2 := varsF_len l (Tm.vars1 L p)
  unfold Tm.varsT
  omega

def RVars (m : Nat) : Prop := ∀ (p : Pay) (l : Fo) (A : Option Addr) (c B : Nat) (L : List Int) (AL : Option Addr) (nL cL base : Nat) (w : World), Tm.size l < m → L.length + 1 + Tm.size l ≤ 3000 → Tm.goodB p l = true → ArgsB w B A (Tm.len l) l → B ≤ base → base ≤ w.heap.size → LSt base w AL nL cL L →
    Calls Try.prog 52 #[.slice AL nL cL, tv p A (Tm.len l) c] w fun e w' =>
      ∃ A' n' c', e = .returned (.slice A' n' c') ∧ LSt base w' A' n' c' (Tm.varsT L p l) ∧ Grows w w' (Value.slice AL nL cL).ownBlock (Value.slice A' n' c').ownBlock


set_option maxHeartbeats 1000000 in
theorem rvars_var (v : Int) (A : Option Addr) (c : Nat) (L : List Int) (AL : Option Addr) (nL cL base : Nat) (w : World) (hlen : L.length + 1 ≤ 3000) (hbase : base ≤ w.heap.size) (hL : LSt base w AL nL cL L) :
    Calls Try.prog 52 #[.slice AL nL cL, tv (0, v, ByteArray.empty) A 0 c] w fun e w' =>
      ∃ A' n' c', e = .returned (.slice A' n' c') ∧ LSt base w' A' n' c' (Tm.varsT L (0, v, ByteArray.empty) .nil) ∧ Grows w w' (Value.slice AL nL cL).ownBlock (Value.slice A' n' c').ownBlock := by
  have hl3 := hL.len
  have hvt : Tm.varsT L (0, v, ByteArray.empty) .nil = if v ∈ L then L else L ++ [v] := by
    show Tm.vars1 L (0, v, ByteArray.empty) = _
    exact Tm.vars1_eq L v _
  rw [hvt]
  have hb1 : Below w.heap.size w (w.alloc (.cells #[.int .i64 0, .int .i64 v, .string ByteArray.empty, .slice A 0 c] 24)) := (Below.refl _ w).alloc (Nat.le_refl _) _
  have C := Lib.hid fun w1 (h : ListIn w1 AL nL L) => position_any AL nL cL L v w1 h
  have HL1 := Lib.hid (hL.below hb1)
  have HB1 := Lib.hid hb1
  by_cases hin : v ∈ L
  · rw [if_pos hin]
    rw [pos_in hin] at C
    have hge : (0 : Int) ≤ (L.idxOf v : Int) := Int.natCast_nonneg _
    obtain ⟨z, hz⟩ : ∃ z : Int, z = (L.idxOf v : Int) := ⟨_, rfl⟩
    rw [← hz] at C hge
    clear hvt hb1 hL hl3 hin hz
    go_enter Try.func52, Try.ntmps52
    go_wp2_with fail
    refine (C.out _ ?_).mono ?_
    · exact HL1.out.listIn (by have := HL1.out.len; omega)
    rintro e w1 ⟨rfl, rfl⟩
    go_wp2_with fail
    refine wp_loop_rounds 1 ?_
    rw [rounds_succ]
    go_wp2_with fail
    go_ret
    exact ⟨AL, nL, cL, rfl, HL1.out, Grows.of_below HB1.out _⟩
  · rw [if_neg hin]
    rw [pos_miss hin] at C
    obtain ⟨i0, hi0, hz0, hz1, hz2⟩ := int_parts
    have HL2 := Lib.hid (HL1.out.below ((Below.refl _ (w.alloc (.cells #[.int .i64 0, .int .i64 v, .string ByteArray.empty, .slice A 0 c] 24))).alloc (Nat.le_refl _) (.cells #[.int .i64 v] 2)))
    have HOWN := Lib.hid hL.own.lt
    clear hvt hb1 hL hin
    go_enter Try.func52, Try.ntmps52
    go_wp2_with fail
    refine (C.out _ ?_).mono ?_
    · exact HL1.out.listIn (by have := HL1.out.len; omega)
    rintro e w1 ⟨rfl, rfl⟩
    go_wp2_with (refine wpList_append_lies _ rfl (.tmp 16) (.tmp 19) 42 rfl base 2 i0 (.int .i64 0) 1 8 Try.underlying42 hi0 hz0 hz1 hz2 rfl (by decide) (.slice AL nL cL) nL (ints L) rfl HL2.out.own ⟨w.heap.size + 1, 0, none⟩ 1 1 [.int .i64 v] rfl rfl (World.news_of_block (by simpa using alloc_new (w.alloc _) _)) (by simp [Value.oneCell']) (by decide) (by simp [maxLen]; omega) (by omega) (by simp; omega) _ rfl ?_; intro g cap w2 hown2 hgrow hat hlt2)
    have hb2 : Below base (w.alloc (.cells #[.int .i64 0, .int .i64 v, .string ByteArray.empty, .slice A 0 c] 24)) w2 := ((Below.refl _ _).alloc (by simp; omega) _).grown hgrow (by simp; omega) (fun j e => (HL2.out.own.lt j e).1)
    have hbk : w2.heap[w.heap.size]? = (w.alloc (.cells #[.int .i64 0, .int .i64 v, .string ByteArray.empty, .slice A 0 c] 24)).heap[w.heap.size]? := (hgrow.block w.heap.size (by simp; omega) (fun e => by have := (HL1.out.own.lt _ e.symm); have h2 := HOWN.out _ e.symm; omega)).trans (Below.heap_alloc _ _ _ (by simp))
    have y4 := ((TermAt.new w (0, v, ByteArray.empty) A 0 c 24).same hbk).args
    have hlst : LSt base w2 (some ⟨g, 0, none⟩) (nL + 1) cap (L ++ [v]) := ⟨by rw [List.length_append, hl3]; rfl, by show w2.ownsRow base _ 1 _ (nL + 1) ((L ++ [v]).map (Value.int .i64)); rw [List.map_append]; exact hown2⟩
    have hgr : Grows w w2 (Value.slice AL nL cL).ownBlock (some g) := by
      refine ⟨⟨hgrow.os, hgrow.tape, hgrow.output, by have := hgrow.size; simp at this; omega, fun j hj hne => (hgrow.block j (by simp; omega) hne).trans ((Below.heap_alloc _ _ _ (by simp; omega)).trans (Below.heap_alloc _ _ _ hj))⟩, ?_⟩
      rcases hat with h1 | h1
      · exact .inl h1.symm
      · exact .inr ⟨g, rfl, by rw [h1]; simp; omega⟩
    have HLS := Lib.hid hlst
    have HGR := Lib.hid hgr
    clear hb2 hbk hlst hgr hown2 hgrow hat
    refine wp_loop_rounds 1 ?_
    rw [rounds_succ]
    go_wp2_with fail
    go_ret
    exact ⟨some ⟨g, 0, none⟩, nL + 1, cap, rfl, HLS.out, HGR.out⟩

set_option maxHeartbeats 4000000 in
theorem rvars_struct (m : Nat) (ih : RVars m) (p : Pay) (l : Fo) (A : Option Addr) (c B : Nat) (L : List Int) (AL : Option Addr) (nL cL base : Nat) (w : World) (hk : ¬ p.1 = 0) (hm : Tm.size l ≤ m) (hlen : L.length + 1 + Tm.size l ≤ 3000) (hall : Tm.allB l = true) (hA : ArgsB w B A (Tm.len l) l) (hB : B ≤ base) (hbase : base ≤ w.heap.size) (hL : LSt base w AL nL cL L) :
    Calls Try.prog 52 #[.slice AL nL cL, tv p A (Tm.len l) c] w fun e w' =>
      ∃ A' n' c', e = .returned (.slice A' n' c') ∧ LSt base w' A' n' c' (Tm.varsT L p l) ∧ Grows w w' (Value.slice AL nL cL).ownBlock (Value.slice A' n' c').ownBlock := by
  obtain ⟨n, hn⟩ : ∃ n, n = Tm.len l := ⟨_, rfl⟩
  rw [← hn] at hA ⊢
  have hnn : n ≤ 9223372036854775807 := hA.hi
  have hvt : Tm.varsT L p l = Tm.varsF L l := by unfold Tm.varsT; rw [Tm.vars1_no hk]
  rw [hvt]
  have hb : (p.1 == 0) = false := by simpa using hk
  have HN := Lib.hid hn
  have HA := Lib.hid hA
  have HM := Lib.hid hm
  have IH := Lib.hid ih
  have HALL := Lib.hid hall
  have HOWN := Lib.hid hL.own.lt
  have hb1 : Below w.heap.size w (w.alloc (.cells #[.int .i64 p.1, .int .i64 p.2.1, .string p.2.2, .slice A n c] 24)) := (Below.refl _ w).alloc (Nat.le_refl _) _
  have HL1 := Lib.hid (hL.below hb1)
  have HB1 := Lib.hid hb1
  have HTA := Lib.hid (TermAt.new w p A n c 24)
  clear hn hA hm ih hall hvt hb1 hL
  go_enter Try.func52, Try.ntmps52
  go_wp2_with fail
  obtain ⟨w0, hw0⟩ : ∃ w0, w0 = w.alloc (.cells #[.int .i64 p.1, .int .i64 p.2.1, .string p.2.2, .slice A n c] 24) := ⟨_, rfl⟩
  have hs0 : w0.heap.size = w.heap.size + 1 := by rw [hw0]; simp
  rw [← hw0] at HL1 HB1 HTA ⊢
  clear hw0
  go_loopw [0, 5] (fun t u wr => ∃ (k : Nat) (L' : List Int) (A' : Option Addr) (n' c' : Nat), k ≤ n ∧ u = .int .i64 k ∧ t = .slice A' n' c' ∧ Tm.varsF L l = Tm.varsF L' (Tm.dropF l k) ∧ L'.length + 1 + Tm.size (Tm.dropF l k) ≤ 3000 ∧ LSt base wr A' n' c' L' ∧ Grows w0 wr (Value.slice AL nL cL).ownBlock (Value.slice A' n' c').ownBlock) (fun _ u _ => n - (intOf u).toNat)
  case atStart => exact ⟨0, L, AL, nL, cL, Nat.zero_le _, rfl, rfl, by rw [Tm.drop_zero], by rw [Tm.drop_zero]; exact hlen, HL1.out, Grows.refl _ _⟩
  case round =>
    obtain ⟨k, L', A', n', c', hk, rfl, rfl, hvar, hlen', hlst, hgr⟩ := hrel
    have hne : ∀ b, b ≤ w.heap.size → (b < base ∨ b = w.heap.size) → some b ≠ (Value.slice AL nL cL).ownBlock := fun b h1 h2 e => by have := HOWN.out b e.symm; omega
    have hk0 : ∀ b, b ≤ w.heap.size → (b < base ∨ b = w.heap.size) → wr.heap[b]? = w0.heap[b]? := fun b h1 h2 => hgr.grown.block b (by omega) (hne b h1 h2)
    have hta : TermAt wr w.heap.size p A n c := HTA.out.same (hk0 _ (Nat.le_refl _) (.inr rfl))
    have y4 := hta.args
    have hwr : w.heap.size < wr.heap.size := by have := hgr.grown.size; omega
    have HV := Lib.hid hvar
    have HLEN := Lib.hid hlen'
    have HLS := Lib.hid hlst
    have HGR := Lib.hid hgr
    have HK0 := Lib.hid hk0
    clear hvar hlen' hlst hgr hta hne hk0
    by_cases hlt : k < n
    · obtain ⟨b, o, p1, l1, r1, A1, c1, rfl, hbB, hd, hnode⟩ := HA.out.at hlt
      have hbw : b < w.heap.size := by have : b < B := hbB; omega
      have hbk : wr.heap[b]? = w.heap[b]? := (HK0.out b (by omega) (.inl (by have : b < B := hbB; omega))).trans (HB1.out.block b hbw)
      have y0 := (cell_of_block (p := ⟨b, o + k * 4, none⟩) hbk).trans hnode.kind
      have y1 := (cell_of_block (p := ⟨b, o + k * 4 + 1, none⟩) hbk).trans hnode.num
      have y2 := (cell_of_block (p := ⟨b, o + k * 4 + 2, none⟩) hbk).trans hnode.name
      have y3 := (cell_of_block (p := ⟨b, o + k * 4 + 3, none⟩) hbk).trans hnode.args
      have HD := Lib.hid hd
      have HI := Lib.hid (hnode.inn.keep fun b' (hb' : b' < B) => (HK0.out b' (by omega) (.inl (by omega))).trans (HB1.out.block b' (by omega)))
      have hs1 : Tm.size l1 < m := by have e := HD.out; have := Tm.size_drop_le l k; rw [e] at this; simp only [Tm.size] at this; have := HM.out; omega
      have hg1 : Tm.goodB p1 l1 = true := by have e := Tm.allB_drop HALL.out k; rw [HD.out, Tm.allB_cons, Bool.and_eq_true] at e; exact e.1
      have hsz : L'.length + 1 + Tm.size l1 + 1 + Tm.size (Tm.dropF l (k + 1)) ≤ 3000 := by have := HLEN.out; rw [HD.out] at this; simp only [Tm.size] at this; rw [Tm.drop_succ HD.out]; omega
      have hstep : Tm.varsF L l = Tm.varsF (Tm.varsT L' p1 l1) (Tm.dropF l (k + 1)) := by rw [HV.out, Tm.drop_succ HD.out, HD.out, Tm.varsF_cons]
      have hwb : base ≤ wr.heap.size := by omega
      have C1 := Lib.hid (IH.out p1 l1 A1 c1 B L' A' n' c' base wr hs1 (by omega) hg1 HI.out hB hwb HLS.out)
      have hlen2 : (Tm.varsT L' p1 l1).length + 1 + Tm.size (Tm.dropF l (k + 1)) ≤ 3000 := by have := varsT_len L' p1 l1; omega
      have HST := Lib.hid (And.intro hstep hlen2)
      clear hs1 hg1 hsz hstep hlen2 hd hnode hbk
      go_wp2_with fail
      refine C1.out.mono ?_
      rintro e w1 ⟨A2, n2, c2, rfl, hl2, hg2⟩
      have HL2 := Lib.hid hl2
      have HG2 := Lib.hid hg2
      clear hl2 hg2
      go_wp2_with fail
      exact ⟨⟨k + 1, Tm.varsT L' p1 l1, A2, n2, c2, by omega, by go_num, rfl, HST.out.1, HST.out.2, HL2.out, HGR.out.trans HG2.out⟩, by simp [intOf]; omega⟩
    · obtain rfl : k = n := by omega
      have hres : Tm.varsF L l = L' := by rw [HV.out, show k = Tm.len l from HN.out, Tm.drop_end]; rfl
      have HR := Lib.hid hres
      clear hres
      go_wp2_with fail
      go_ret
      rw [HR.out]
      exact ⟨A', n', c', rfl, HLS.out, (Grows.of_below HB1.out _).trans HGR.out⟩

theorem rvars_up (m : Nat) : RVars m := by
  induction m with
  | zero => intro p l A c B L AL nL cL base w hm; omega
  | succ m ih =>
    intro p l A c B L AL nL cL base w hm hlen hg hA hB hbase hL
    have hg' := hg
    unfold Tm.goodB at hg'
    rw [Bool.and_eq_true] at hg'
    by_cases h0 : p.1 = 0
    · obtain ⟨k, v, nm⟩ := p
      have h0' : k = 0 := h0
      subst h0'
      obtain ⟨_, _, rfl, h4⟩ := nodeB_var hg'.1
      obtain rfl := Tm.len_zero h4
      exact rvars_var v A c L AL nL cL base w (by omega) hbase hL
    · exact rvars_struct m ih p l A c B L AL nL cL base w h0 (by omega) hlen hg'.2 hA hB hbase hL
/-- The reference's vars, from nothing: the variables of a valid term. -/
theorem rvars_any (p : Pay) (l : Fo) (A : Option Addr) (c B : Nat) (w : World) (hv : Tm.validB p l = true) (hA : ArgsB w B A (Tm.len l) l) (hB : B ≤ w.heap.size) :
    Calls Try.prog 52 #[.slice none 0 0, tv p A (Tm.len l) c] w fun e w' => ∃ A' n' c', e = .returned (.slice A' n' c') ∧ ListIn w' A' n' (Tm.varsOf p l) ∧ Below w.heap.size w w' := by
  unfold Tm.validB at hv
  rw [Bool.and_eq_true, decide_eq_true_eq] at hv
  refine (rvars_up (Tm.size l + 1) p l A c B [] none 0 0 w.heap.size w (by omega) (by simp; omega) hv.2 hA hB (Nat.le_refl _) ⟨rfl, World.ownsRow_nil w _ _ _⟩).mono ?_
  rintro e w' ⟨A', n', c', rfl, hl, hg⟩
  exact ⟨A', n', c', rfl, hl.listIn (by have := varsT_len [] p l; rw [hl.len] at this; simp at this; omega), hg.below (Nat.le_refl _) (fun k e => by cases e)⟩
end Go.Proofs.Ytmljkhofahgelaa
