/-
  package term's canonical form: canonical, Canon.
-/
import Derived.Test.YtmljkhofahgelaaPositions
namespace Go.Proofs.Ytmljkhofahgelaa
set_option linter.unusedVariables false
set_option linter.unusedSimpArgs false
open Go.RowKit

theorem nodup_len (N : Nat) : ∀ L : List Int, L.Nodup → (∀ v ∈ L, 0 ≤ v ∧ v < (N : Int)) → L.length ≤ N := by
  induction N with
  | zero =>
    intro L _ h
    cases L with
    | nil => exact Nat.le_refl _
    | cons v r => have := h v (by simp); omega
  | succ N ih =>
    intro L hn h
    by_cases hm : (N : Int) ∈ L
    · have h1 := ih (L.erase (N : Int)) (hn.erase _) (fun v hv => by
        have := (hn.mem_erase_iff).1 hv
        have := h v this.2
        omega)
      rw [List.length_erase_of_mem hm] at h1
      omega
    · have := ih L hn (fun v hv => by
        have h1 := h v hv
        have : v ≠ (N : Int) := fun e => hm (e ▸ hv)
        omega)
      omega
/-- The numbering so far, as the closure holds it. -/
structure CanSt (pc kb mb : Nat) (L : List Int) (w : World) : Prop where
  map : MapSt kb mb L w
  pos : w.cell? ⟨pc, 0, none⟩ = some (.func (.func 73) #[] #[.pointer (some ⟨kb, 0, none⟩)])
  nodup : L.Nodup
  range : ∀ v ∈ L, 0 ≤ v ∧ v < ((1099511627777 : Nat) : Int)
theorem CanSt.next {pc kb mb : Nat} {L : List Int} {w w' : World} {v : Int} (h : CanSt pc kb mb L w) (hm : MapSt kb mb (if v ∈ L then L else L ++ [v]) w') (hp : w'.cell? ⟨pc, 0, none⟩ = w.cell? ⟨pc, 0, none⟩) (h0 : 0 ≤ v) (h1 : v ≤ 1099511627776) : CanSt pc kb mb (if v ∈ L then L else L ++ [v]) w' := by
  refine ⟨hm, hp.trans h.pos, ?_, ?_⟩
  · split
    · exact h.nodup
    · rename_i hn
      rw [List.nodup_append]
      refine ⟨h.nodup, by simp, fun a ha b hb => ?_⟩
      simp at hb
      subst hb
      exact fun e => hn (e ▸ ha)
  · split
    · exact h.range
    · intro y hy
      simp at hy
      rcases hy with hy | rfl
      · exact h.range y hy
      · omega

set_option maxHeartbeats 1000000 in
theorem canonical1_any (pc kb mb : Nat) (hne : pc ≠ mb) (L : List Int) (v : Int) (w : World) (h : CanSt pc kb mb L w) (h0 : 0 ≤ v) (h1 : v ≤ 1099511627776) :
    Calls Try.prog 67 #[.int .i64 v, .pointer (some ⟨pc, 0, none⟩)] w fun e w' => e = .returned (tv (0, (L.idxOf v : Int), ByteArray.empty) none 0 0) ∧ CanSt pc kb mb (if v ∈ L then L else L ++ [v]) w' ∧ Only (· = mb) w w' := by
  have eg := enters_positions1
  have hc := h.pos
  have hpl := World.block_lt_of_cell? w _ hc
  have H := Lib.hid h
  have C := Lib.hid fun w1 (h : MapSt kb mb L w1) => positions1_any kb mb L v w1 h h0 h1 (nodup_len _ L H.out.nodup H.out.range)
  obtain ⟨z, hz⟩ : ∃ z : Int, z = (L.idxOf v : Int) := ⟨_, rfl⟩
  rw [← hz] at C ⊢
  obtain ⟨L2, hL2⟩ : ∃ L2, L2 = if v ∈ L then L else L ++ [v] := ⟨_, rfl⟩
  rw [← hL2] at C ⊢
  have HL2 := Lib.hid hL2
  clear h hz hL2
  go_enter Try.func67, Try.ntmps67
  go_wp2_with fail
  refine (C.out _ ?_).mono ?_
  · exact H.out.map.same (Below.heap_alloc _ _ _ H.out.map.lt.1) (Below.heap_alloc _ _ _ H.out.map.lt.2)
  rintro e w1 ⟨rfl, hm1, ho1⟩
  have hsz := ho1.size
  simp at hsz
  have hmb := H.out.map.lt.2
  have hbk := ho1.block w.heap.size (by simp) (by omega)
  have hr : ResAt w1 w.heap.size := (ResAt.new w 24 _ rfl).same hbk
  have hw1 : w.heap.size < w1.heap.size := by omega
  have hpos : w1.cell? ⟨pc, 0, none⟩ = w.cell? ⟨pc, 0, none⟩ := (ho1.cell (p := ⟨pc, 0, none⟩) (by simp; have : pc < w.heap.size := hpl; omega) hne).trans (cell_of_block (p := ⟨pc, 0, none⟩) (Below.heap_alloc _ _ _ hpl))
  have r0 := hr.t.kind
  have r1 := hr.t.num
  have r2 := hr.t.name
  have r3 := hr.t.args
  have q0 := hr.s.s0
  have q1 := hr.s.s1
  have q2 := hr.s.s2
  have q3 := hr.s.s3
  have HO := Lib.hid (((Only.refl (· = mb) w).alloc _).trans ho1)
  have HN : Hid (CanSt pc kb mb L2 w1) := by
    have := H.out.next (w' := w1) (by rw [← HL2.out]; exact hm1) hpos h0 h1
    rw [← HL2.out] at this
    exact Lib.hid this
  have HR := Lib.hid hr
  have HPL := Lib.hid hpl
  clear hbk hr hpos hm1 ho1 hpl hc
  go_wp2_with fail
  have st := stored w1 w.heap.size (0, z, ByteArray.empty) zp none none 0 0 0 0 HR.out.t HR.out.s
  show bodyPost _ _ _ _ _ (set4 w1 w.heap.size 0 (0, z, ByteArray.empty) none 0 0)
  have ho2 : Only (· = mb) w (set4 w1 w.heap.size 0 (0, z, ByteArray.empty) none 0 0) := set4_only _ _ _ _ _ _ HO.out (Nat.le_refl _)
  generalize set4 w1 w.heap.size 0 (0, z, ByteArray.empty) none 0 0 = w2 at st ho2 ⊢
  refine bodyPost_ret (term_result (q := 3) rfl _ _ w.heap.size (0, z, ByteArray.empty) none 0 0 rfl st.term) rfl ?_
  have hl := H.out.map.lt
  have hp := HPL.out
  exact ⟨rfl, ⟨HN.out.map.same (st.block _ (by omega)) (st.block _ (by omega)), (cell_of_block (p := ⟨pc, 0, none⟩) (st.block pc (by show pc ≠ w.heap.size; have : pc < w.heap.size := hp; omega))).trans HN.out.pos, HN.out.nodup, HN.out.range⟩, ho2⟩

theorem enters_canonical1 : ∀ (args : Array Value) (w : World), (callFunc 67 args).run Try.prog w = .ok (.enter 67 args) w := fun args w => by kernel_rfl
theorem canSpec (B Bx pc kb mb : Nat) (hne : pc ≠ mb) (hB : B ≤ mb) (h1 : mb < Bx) (h2 : pc < Bx) (h3 : kb < Bx) : OfSpec Tm.canF 67 #[.pointer (some ⟨pc, 0, none⟩)] B 0 Bx (· = mb) (CanSt pc kb mb) where
  enters := enters_canonical1
  lo := by omega
  lo2 := Nat.zero_le _
  own := fun k h => by subst h; exact ⟨hB, h1⟩
  keeps := fun s w w' h hs hk => ⟨h.map.same (hk _ h3) (hk _ h1), (cell_of_block (p := ⟨pc, 0, none⟩) (hk _ h2)).trans h.pos, h.nodup, h.range⟩
  gives := fun s v w h hw h0 hv => (canonical1_any pc kb mb hne s v w h h0 hv).mono fun e w' ⟨he, hi, ho⟩ => ⟨none, 0, he, ArgsIn.nil _ _ _, hi, ho⟩

set_option maxHeartbeats 1000000 in
theorem canonical_any (p : Pay) (l : Fo) (A : Option Addr) (c B : Nat) (w : World) (hA : ArgsB w B A (Tm.len l) l) (hg : Tm.goodB p l = true) (hB : B ≤ w.heap.size) :
    Calls Try.prog 47 #[tv p A (Tm.len l) c] w (Makes (Tm.canonOf p l).1 (Tm.canonOf p l).2 w) := by
  have C1 := Lib.hid fun (w2 : World) (h2 : ArgsB w2 B A (Tm.len l) l) (h3 : CanSt (w.heap.size + 4) (w.heap.size + 3) (w.heap.size + 2) [] w2) (h4 : w.heap.size + 5 ≤ w2.heap.size) => rebuilt_up Tm.canF 67 #[.pointer (some ⟨w.heap.size + 4, 0, none⟩)] B 0 (w.heap.size + 5) (· = w.heap.size + 2) (CanSt (w.heap.size + 4) (w.heap.size + 3) (w.heap.size + 2)) (canSpec B (w.heap.size + 5) (w.heap.size + 4) (w.heap.size + 3) (w.heap.size + 2) (by omega) (by omega) (by omega) (by omega) (by omega)) (Tm.size l + 1) p l A c [] w2 (by omega) h2 hg h3 h4
  unfold RebDoes at C1
  rw [Tm.rebT_can p l hg] at C1
  simp only [] at C1
  unfold Makes
  obtain ⟨n, hn⟩ : ∃ n, n = Tm.len l := ⟨_, rfl⟩
  rw [← hn] at hA C1 ⊢
  obtain ⟨n2, hn2⟩ : ∃ n2, n2 = Tm.len (Tm.canonOf p l).2 := ⟨_, rfl⟩
  rw [← hn2] at C1 ⊢
  have HA := Lib.hid hA
  have CP := Lib.hid positions_any
  clear hA hg hn hn2
  go_enter Try.func47, Try.ntmps47
  go_wp2_with fail
  refine (CP.out _).mono ?_
  rintro e w1 ⟨rfl, hm, hsz, hb⟩
  simp at hsz
  have hr : ResAt w1 (w.heap.size + 1) := (ResAt.new (w.alloc _) 24 _ (by simp)).below hb (by simp)
  have hta : TermAt w1 w.heap.size p A n c := ((TermAt.new w p A n c 24).below (B := w.heap.size + 1) ((Below.refl _ _).alloc (by simp) _) (by omega)).below hb (by simp; omega)
  have y0 := hta.kind
  have y1 := hta.num
  have y2 := hta.name
  have y3 := hta.args
  have hlt : w.heap.size < w1.heap.size := by omega
  have HB := Lib.hid ((two_boxes w _ _).trans (hb.mono (by simp; omega)) : Below w.heap.size w w1)
  have HR := Lib.hid hr
  have HM := Lib.hid hm
  have HSZ := Lib.hid hsz
  clear hb hr hm hta
  go_wp2_with fail
  refine (C1.out _ ?_ ?_ ?_).mono ?_
  · exact HA.out.below (HB.out.trans ((Below.refl w1.heap.size w1).alloc (Nat.le_refl _) _ |>.mono (by omega))) hB
  · have hm' : MapSt (w.heap.size + 3) (w.heap.size + 2) [] w1 := by simpa using HM.out
    exact ⟨hm'.same (Below.heap_alloc _ _ _ (by omega)) (Below.heap_alloc _ _ _ (by omega)), (CellIs.new' w1 _ _ _ (by have := HSZ.out; omega)).cell, List.nodup_nil, fun v hv => by cases hv⟩
  · simp; omega
  rintro e w2 ⟨A1, c1, rfl, ha1, -, ho1⟩
  have hsz2 := ho1.size
  simp at hsz2
  have hr2 : ResAt w2 (w.heap.size + 1) := HR.out.same ((ho1.block _ (by simp; omega) (by omega)).trans (Below.heap_alloc _ _ _ (by omega)))
  have hw2 : w.heap.size + 1 < w2.heap.size := by omega
  have r0 := hr2.t.kind
  have r1 := hr2.t.num
  have r2 := hr2.t.name
  have r3 := hr2.t.args
  have q0 := hr2.s.s0
  have q1 := hr2.s.s1
  have q2 := hr2.s.s2
  have q3 := hr2.s.s3
  have HA1 := Lib.hid ha1
  have HB2 := Lib.hid (HB.out.trans (((Below.refl w1.heap.size w1).alloc (Nat.le_refl _) _).mono (by omega) |>.trans (ho1.below (by simp; omega) (fun k hk => by omega))) : Below w.heap.size w w2)
  have HR2 := Lib.hid hr2
  clear ha1 ho1 hr2
  go_wp2_with fail
  have st := stored w2 (w.heap.size + 1) (Tm.canonOf p l).1 zp A1 none n2 c1 0 0 HR2.out.t HR2.out.s
  show bodyPost _ _ _ _ _ (set4 w2 (w.heap.size + 1) 0 (Tm.canonOf p l).1 A1 n2 c1)
  generalize set4 w2 (w.heap.size + 1) 0 (Tm.canonOf p l).1 A1 n2 c1 = w3 at st ⊢
  refine bodyPost_ret (term_result (q := 2) rfl _ _ (w.heap.size + 1) (Tm.canonOf p l).1 A1 n2 c1 rfl st.term) rfl ?_
  exact ⟨A1, c1, rfl, st.fresh (N := w.heap.size + 2) (HA1.out.mono (fun b hb => by have h1 := hb.1; have h2 := hb.2; simp only [World.size_alloc] at h1; omega)) (by omega) (by omega), st.below _ _ HB2.out (by omega)⟩
end Go.Proofs.Ytmljkhofahgelaa
