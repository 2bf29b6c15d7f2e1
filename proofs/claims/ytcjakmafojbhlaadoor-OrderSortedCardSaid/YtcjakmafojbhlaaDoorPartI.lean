/-
  Rows of bytes in slots; remainders; few, whose row can be written.
  Values that do not lead into a given block; a row of the call's own that is appended to, beside calls, in whatever order.
-/
import Derived.Test.YtcjakmafojbhlaaDoorPartH
import Derived.Test.YtcjakmafojbhlaaDoorOpenT
namespace Go.Proofs.YtcjakmafojbhlaaDoor
set_option linter.unusedVariables false
set_option linter.unusedSimpArgs false
open Go.ChangeShapes Go.WideShapes Go.ChangeAt Go.RowKit Go.Deep

/-- A row of bytes. -/
def u8P (L : List Nat) : Pd where
  R := fun v w => ∃ A c, v = .slice A L.length c ∧ (0 < L.length → ∃ b o, A = some ⟨b, o, none⟩ ∧ b < w.heap.size ∧ ∀ (j z : Nat), L[j]? = some z → w.cell? ⟨b, o + j, none⟩ = some (.int .u8 (z : Int)))
  keep := by
    rintro v w w' ⟨A, c, e, h⟩ hb
    refine ⟨A, c, e, fun hl => ?_⟩
    obtain ⟨b, o, e1, hlt, hc⟩ := h hl
    exact ⟨b, o, e1, Nat.lt_of_lt_of_le hlt hb.size, fun j z hz => (cell_of_block (p := ⟨b, o + j, none⟩) (hb.block _ hlt)).trans (hc j z hz)⟩
def ptr8P (z : Nat) : Pd where
  R := fun v w => ∃ a : Addr, v = .pointer (some a) ∧ a.block < w.heap.size ∧ w.cell? a = some (.int .u8 (z : Int))
  keep := by
    rintro v w w' ⟨a, e, hlt, hc⟩ hb
    exact ⟨a, e, Nat.lt_of_lt_of_le hlt hb.size, (cell_of_block (hb.block _ hlt)).trans hc⟩
section
variable {ops : Array Oper} {Q : Exit → Act → World → Prop} {E : Nat → Kd} {D : Nat → Nat} {base : Nat → Option Kd} {N : Nat}
theorem step_len_u8 {i : Nat} {x : Operand} {L : List Nat} (hop : (ops[i]?).map (·.op) = some (.call { callee := .builtin .len, args := #[x], argTypes := #[43] })) (hx : Opd ops E D base N i x (.sat (u8P L))) (hE : E i = .val (.int .i64 ((L.length : Nat) : Int))) : Step Tryd.prog ops Q E D base N i :=
  step_still hop hE fun a w h dst ty' pos after guard => by
    obtain ⟨A, c, e, _⟩ := hx a w h
    refine ⟨.int .i64 ((L.length : Nat) : Int), ?_, rfl⟩
    unfold execOp
    simp only [resolve, List.map_toArray, List.map_cons, List.map_nil, e]
    go_simp
theorem step_index_u8 {i : Nat} {x y : Operand} {L : List Nat} {k z : Nat} (hz : L[k]? = some z) (hop : (ops[i]?).map (·.op) = some (.indexAddr 43 x y)) (hx : Opd ops E D base N i x (.sat (u8P L))) (hy : Opd ops E D base N i y (.val (.int .i64 (k : Int)))) (hE : E i = .sat (ptr8P z)) : Step Tryd.prog ops Q E D base N i :=
  step_still hop hE fun a w h dst ty' pos after guard => by
    obtain ⟨A, c, e, hr⟩ := hx a w h
    have e' : a.eval y = .int .i64 (k : Int) := hy a w h
    have hk : k < L.length := (List.getElem?_eq_some_iff.1 hz).1
    obtain ⟨b, o, rfl, hlt, hc⟩ := hr (by omega)
    have hcell := hc k z hz
    refine ⟨.pointer (some ⟨b, o + k, none⟩), ?_, _, rfl, hlt, hcell⟩
    generalize L.length = n at e hk
    unfold execOp
    simp only [e, e']
    go_simp
theorem step_load_u8 {i : Nat} {x : Operand} {z : Nat} (hop : (ops[i]?).map (·.op) = some (.load 5 x)) (hx : Opd ops E D base N i x (.sat (ptr8P z))) (hE : E i = .val (.int .u8 (z : Int))) : Step Tryd.prog ops Q E D base N i :=
  step_still hop hE fun a w h dst ty' pos after guard => by
    obtain ⟨ad, e, hb, hc⟩ := hx a w h
    refine ⟨.int .u8 (z : Int), ?_, rfl⟩
    unfold execOp
    simp only [e]
    go_simp
theorem step_conv8 {i : Nat} {x : Operand} {z : Nat} (hz : z < 256) (hop : (ops[i]?).map (·.op) = some (.convert 5 3 x)) (hx : Opd ops E D base N i x (.val (.int .u8 (z : Int)))) (hE : E i = .val (.int .i64 (z : Int))) : Step Tryd.prog ops Q E D base N i :=
  step_still hop hE fun a w h dst ty' pos after guard => by
    have e : a.eval x = .int .u8 (z : Int) := hx a w h
    refine ⟨.int .i64 (z : Int), ?_, rfl⟩
    have hw : IntKind.i64.wrap (z : Int) = (z : Int) := by rw [IntKind.wrap_i64]; omega
    unfold execOp
    simp only [e]
    go_simp
theorem step_rem {i : Nat} {x y : Operand} {m n : Nat} (hn : 0 < n) (hm : m < 9223372036854775808) (hn2 : n < 9223372036854775808) (hop : (ops[i]?).map (·.op) = some (.binOp .rem 3 x y 3)) (hx : Opd ops E D base N i x (.val (.int .i64 (m : Int)))) (hy : Opd ops E D base N i y (.val (.int .i64 (n : Int)))) (hE : E i = .val (.int .i64 ((m % n : Nat) : Int))) : Step Tryd.prog ops Q E D base N i :=
  step_still hop hE fun a w h dst ty' pos after guard => by
    have e : a.eval x = .int .i64 (m : Int) := hx a w h
    have e' : a.eval y = .int .i64 (n : Int) := hy a w h
    refine ⟨.int .i64 ((m % n : Nat) : Int), ?_, rfl⟩
    have h0 : (n : Int) ≠ 0 := by omega
    have hlt : m % n < n := Nat.mod_lt _ hn
    have h1 : n ≠ 0 := by omega
    unfold execOp
    simp only [e, e']
    go_simp
    first | rfl | exact Int.tmod_eq_emod_of_nonneg (by omega)
theorem St.of_ownR {N : Nat} {w : World} {g n c : Nat} {F : Fo} (h : OwnR N w (some ⟨g, 0, none⟩) n c F) : St w g (tagged F) w := by
  obtain ⟨vs, h1, hv, ho⟩ := h.own
  have hlt := ho.lt g rfl
  have hv' : Vals (fun b => b < w.heap.size ∧ b ≠ g) w vs F := hv.mono' fun b hb => ⟨hb.1, fun e => hb.2 (by subst e; rfl)⟩
  refine ⟨Only.refl _ _, hlt.2, fun k hk => ?_, fun o => ?_⟩
  · rw [tagged_size] at hk
    obtain ⟨r, e, _⟩ := tagged_at hk
    have hrow : RowIn (fun b => b < w.heap.size ∧ b ≠ g) w F g 0 := Vals.row g vs F 0 hv' Tm.len_le_size fun j u hu => by
      have := ho.cells (g := g) rfl j u hu
      rw [show (⟨g, 0, none⟩ : Addr).add j = ⟨g, 0 + j, none⟩ by unfold Addr.add; split <;> simp_all] at this
      exact this
    obtain ⟨A, c, hn⟩ := RowIn.at F g 0 k _ _ _ hrow e
    rw [Nat.zero_add] at hn
    exact ⟨A, c, hn⟩
  · rcases ho.2 with h | ⟨g', cap', cur, e, _, hg, _⟩
    · cases h.1
    · cases e
      unfold World.frozen?
      rw [hg]; rfl
theorem OwnR.to {N : Nat} {w wz : World} {A : Option Addr} {n c : Nat} {F : Fo} (h : OwnR N w A n c F) (hz : wz.heap.size ≤ N) (hn : n ≤ 9223372036854775807) : (ownP F wz).R (.slice A (Tm.len F) c) w := by
  have hl := h.len
  refine ⟨A, c, rfl, by rw [hl]; exact h.args hn, fun h0 => ?_⟩
  rcases h.cap.2.2 with ⟨rfl, h1, _⟩ | ⟨g, rfl⟩
  · omega
  · exact ⟨g, w, rfl, Nat.le_trans hz (h.lt rfl).1, St.of_ownR h⟩
theorem step_fewP {i : Nat} {x : Operand} {F : Fo} {wz : World} (tt : Nat) (hop : (ops[i]?).map (·.op) = some (.call { callee := .value (.func 15), args := #[x], argTypes := #[22] })) (hx : Opd ops E D base N i x (.row F)) (hT : Opd ops E D base N i (.tmp tt) (.sat (oldP .tabs wz))) (hE : E i = .sat (ownP (Tm.takeF F 40) wz)) : Step Tryd.prog ops Q E D base N i :=
  step_call hop (fun _ _ => by kernel_rfl) fun a w h => by
    obtain ⟨A, c, ex, ha⟩ := hx a w h
    have hb0 : Below wz.heap.size wz w := (hT a w h).2
    rw [show (#[x] : Array Operand).map a.eval = #[.slice A (Tm.len F) c] by rw [← ex]; simp, hE]
    refine (few_any F A (Tm.len F) c w.heap.size w ha (Nat.le_refl _)).mono ?_
    rintro e w' ⟨A', c', rfl, ho, hb⟩
    have hl := ho.len
    have := ho.to hb0.size (by omega)
    rw [hl] at this
    exact ⟨_, rfl, this, hb⟩
end
theorem few_few (F : Fo) : Tm.takeF (Tm.takeF F 40) 40 = Tm.takeF F 40 := by
  refine Tm.toL_inj ?_
  rw [takeF_toL, takeF_toL, List.take_take]
  rfl
/-- The exchange keeps the elements. -/
theorem exch_perm (F : Fo) {i j : Nat} (hi : i < Tm.len F) (hj : j < Tm.len F) : (Tm.toL (rowF (Go.Sort.swp (tagged F) i j))).Perm (Tm.toL F) := by
  have hsz := tagged_size F
  have hp := Go.Sort.swp_permIn (tagged F) 0 (tagged F).size i j (Nat.zero_le _) (by omega) (Nat.zero_le _) (by omega) (Nat.le_refl _)
  have h1 : (Go.Sort.swp (tagged F) i j).toList.Perm (tagged F).toList := by
    have := hp.2.2
    have e1 : (Go.Sort.swp (tagged F) i j).extract 0 (tagged F).size = Go.Sort.swp (tagged F) i j := by
      rw [← Go.Sort.size_swp (tagged F) i j]; simp
    have e2 : (tagged F).extract 0 (tagged F).size = tagged F := by simp
    rwa [e1, e2] at this
  rw [rowF_toL]
  refine (h1.map (·.1)).trans ?_
  have : (tagged F).toList.map (·.1) = Tm.toL F := by simp [tagged]
  rw [this]
section
variable {H : Type} {enc : TypeId × Value → H} {w : World} {base : Nat} {spare : Nat → Bool} {held : Bool}
theorem u8_cells : Tryd.prog.cellsOf 5 = 1 := by kernel_rfl
/-- A slice of bytes. -/
theorem open_u8s {r : Reach} {b0 : Nat} {v : Value} {d : DataW H} {ps : List MemPlace} (hval : Value.okWide Tryd.prog w r b0 43 v) (hd : DataW.Trod enc Tryd.prog w base spare held 43 v d ps) :
    ∃ L : List Nat, (∀ z ∈ L, z < 256) ∧ L.length ≤ 9223372036854775807 ∧ (u8P L).R v w := by
  obtain ⟨A, n, c, rfl⟩ := okWide_slice Tryd.underlying43 hval
  obtain ⟨fuel, hf⟩ := hd
  rcases open_ints Tryd.underlying43 Tryd.underlying5 u8_cells hf with ⟨hcs, hx⟩ | ⟨a, len', cap', zs, hcs, _, hl, hm, hz, hx, hcell, hwz⟩
  · simp [Value.cells] at hcs
    obtain ⟨rfl, rfl, rfl⟩ := hcs
    exact ⟨[], fun z h => absurd h List.not_mem_nil, by decide, none, 0, rfl, fun h => absurd h (by decide)⟩
  · simp [Value.cells] at hcs
    obtain ⟨rfl, rfl, rfl⟩ := hcs
    unfold maxLen at hm
    have hzl : n ≤ zs.length := by rw [hz]; split <;> omega
    have hwf : ∀ z ∈ zs, 0 ≤ z ∧ z < 256 := fun z hz' => by
      have := hwz z hz'
      simp only [Lit.wf, Bool.and_eq_true, decide_eq_true_eq] at this
      have h8 : IntKind.u8.min = 0 := by rfl
      have h9 : IntKind.u8.max = 255 := by rfl
      omega
    refine ⟨(zs.take n).map Int.toNat, fun z hz' => ?_, by simp; omega, some a, c, by simp [Nat.min_eq_left hzl], fun h0 => ?_⟩
    · obtain ⟨y, hy, rfl⟩ := List.mem_map.1 hz'
      have := hwf y (List.mem_of_mem_take hy)
      omega
    · have hn0 : 0 < n := by simp at h0; omega
      obtain ⟨b, o, spot⟩ := a
      have h00 := hcell 0 (by omega)
      have hspot : spot = none := by simpa [Addr.add] using World.cell?_spot h00
      subst hspot
      refine ⟨b, o, rfl, by simpa [Addr.add] using World.block_lt_of_cell? w _ h00, fun j z hj => ?_⟩
      have hj2 : j < n := by
        have := (List.getElem?_eq_some_iff.1 hj).1
        simp at this
        omega
      have hcj := hcell j (by omega)
      rw [add_none] at hcj
      rw [hcj]
      have hzj : zs[j]? = some zs[j] := List.getElem?_eq_getElem (by omega)
      have hge : zs.getD j 0 = zs[j] := by simp [List.getD_eq_getElem?_getD, hzj]
      rw [hge]
      have hzt : ((zs.take n).map Int.toNat)[j]? = some (zs[j]).toNat := by
        rw [List.getElem?_map, List.getElem?_take, if_pos hj2, hzj]
        rfl
      rw [hzt] at hj
      cases hj
      have := hwf zs[j] (List.getElem_mem _)
      rw [Int.toNat_of_nonneg this.1]
end
end Go.Proofs.YtcjakmafojbhlaaDoor
namespace Go.Proofs.YtcjakmafojbhlaaDoor
set_option linter.unusedVariables false
set_option linter.unusedSimpArgs false
open Go.RowKit

/-- A term whose arguments do not lie in block G. -/
def avT (G : Option Nat) (p : Pay) (l : Fo) : Pd where
  R := fun v w => ∃ A c, v = tv p A (Tm.len l) c ∧ ArgsIn (fun b => b < w.heap.size ∧ G ≠ some b) w A (Tm.len l) l
  keep := by
    rintro v w w' ⟨A, c, e, h⟩ hb
    exact ⟨A, c, e, (h.keep fun b hb' => hb.block b hb'.1).mono fun b hb' => ⟨Nat.lt_of_lt_of_le hb'.1 hb.size, hb'.2⟩⟩
def avR (G : Option Nat) (F : Fo) : Pd where
  R := fun v w => ∃ A c, v = .slice A (Tm.len F) c ∧ ArgsIn (fun b => b < w.heap.size ∧ G ≠ some b) w A (Tm.len F) F
  keep := by
    rintro v w w' ⟨A, c, e, h⟩ hb
    exact ⟨A, c, e, (h.keep fun b hb' => hb.block b hb'.1).mono fun b hb' => ⟨Nat.lt_of_lt_of_le hb'.1 hb.size, hb'.2⟩⟩
def avPt (G : Option Nat) (p : Pay) (l : Fo) : Pd where
  R := fun v w => ∃ b o A c, v = .pointer (some ⟨b, o, none⟩) ∧ b < w.heap.size ∧ NodeAt (fun b => b < w.heap.size ∧ G ≠ some b) w b o p l A c
  keep := by
    rintro v w w' ⟨b, o, A, c, e, hlt, hn⟩ hb
    exact ⟨b, o, A, c, e, Nat.lt_of_lt_of_le hlt hb.size, hn.keep (hb.block _ hlt) (fun b hb' => hb.block b hb'.1) (fun b hb' => ⟨Nat.lt_of_lt_of_le hb'.1 hb.size, hb'.2⟩)⟩
/-- Block G is there. -/
def ltG (G : Option Nat) : Pd where
  R := fun _ w => ∀ g, G = some g → g < w.heap.size
  keep := fun _ _ _ h hb g e => Nat.lt_of_lt_of_le (h g e) hb.size
def ownRP (N0 : Nat) (A : Option Addr) (n c : Nat) (F : Fo) : Pd where
  R := fun _ w => OwnR N0 w A n c F
  keep := fun _ _ _ h hb => h.below hb
/-- A row of the call's own, that is appended to. -/
def apP (N0 : Nat) (F : Fo) : Pd where
  R := fun v w => ∃ A c, v = .slice A (Tm.len F) c ∧ OwnR N0 w A (Tm.len F) c F
  keep := by
    rintro v w w' ⟨A, c, e, h⟩ hb
    exact ⟨A, c, e, h.below hb⟩
theorem apP.to {N0 : Nat} {F : Fo} {w : World} {v : Value} (h : (apP N0 F).R v w) (hn : Tm.len F ≤ 9223372036854775807) : (Kd.row F).R v w := by
  obtain ⟨A, c, e, ho⟩ := h
  exact ⟨A, c, e, ho.args hn⟩
theorem row_newS {w : World} {S : Nat → Prop} (vs : List Value) (F : Fo) (n : Nat) (t : TypeId) (G : Option Nat) (hv : Vals (fun b => b < w.heap.size ∧ G ≠ some b) w vs F) (hn : Tm.len F = n) (h63 : n ≤ 1000) (hG : ∀ g, G = some g → g < w.heap.size) :
    (avR G F).R (.slice (some ⟨w.heap.size, 0, none⟩) n n) (w.alloc (.cells (tcells vs).toArray t)) := by
  subst hn
  refine ⟨some ⟨w.heap.size, 0, none⟩, Tm.len F, rfl, ?_⟩
  have hl := Vals.len vs F hv
  have hb := alloc_new w (.cells (tcells vs).toArray t)
  have hs : (w.alloc (.cells (tcells vs).toArray t)).heap.size = w.heap.size + 1 := World.size_alloc _ _
  rw [hs]
  have hv' : Vals (fun b => b < w.heap.size + 1 ∧ G ≠ some b) (w.alloc (.cells (tcells vs).toArray t)) vs F := Vals.mono (fun b h => ⟨Nat.lt_succ_of_lt h.1, h.2⟩) vs F (Vals.keep (fun b h => Below.heap_alloc w _ b h.1) vs F hv)
  have := Vals.args (b := w.heap.size) (o := 0) (S := fun b => b < w.heap.size + 1 ∧ G ≠ some b) ⟨by omega, fun e => by have := hG _ e; omega⟩ hv' (by omega) (fun j u hu => by
    rw [Nat.zero_add]
    rw [cell_of_row _ _ _ _ _ _ hb]
    simpa using hu)
  rw [hl] at this
  exact this
section
variable {ops : Array Oper} {Q : Exit → Act → World → Prop} {E : Nat → Kd} {D : Nat → Nat} {base : Nat → Option Kd} {N : Nat}
theorem Opd.av {i : Nat} {x : Operand} {F : Fo} {wz : World} {G : Option Nat} (hG : ∀ g, G = some g → wz.heap.size ≤ g) (h : Opd ops E D base N i x (.sat (oldP (.row F) wz))) : Opd ops E D base N i x (.sat (avR G F)) := fun a w hc => by
  obtain ⟨⟨A, c, e, ha⟩, hb⟩ := h a w hc
  exact ⟨A, c, e, (ha.below hb (Nat.le_refl _)).mono fun b (hb' : b < wz.heap.size) => ⟨Nat.lt_of_lt_of_le hb' hb.size, fun e => by have := hG _ e; omega⟩⟩
theorem step_row_at_av {i : Nat} {x y : Operand} {F l r : Fo} {k : Nat} {p : Pay} {G : Option Nat} (hop : (ops[i]?).map (·.op) = some (.indexAddr 22 x y)) (hx : Opd ops E D base N i x (.sat (avR G F))) (hy : Opd ops E D base N i y (.val (.int .i64 (k : Int)))) (hd : Tm.dropF F k = .node p l r) (hE : E i = .sat (avPt G p l)) : Step Tryd.prog ops Q E D base N i :=
  step_still hop hE fun a w h dst ty' pos after guard => by
    obtain ⟨A, c, e, ha⟩ := hx a w h
    have e' : a.eval y = .int .i64 (k : Int) := hy a w h
    have hk : k < Tm.len F := by
      have h1 := Tm.len_drop F k
      rw [hd] at h1
      have h2 : Tm.len (Fo.node p l r) = Tm.len r + 1 := rfl
      omega
    obtain ⟨b, o, p1, l1, r1, A1, c1, rfl, hb, hd', hn⟩ := ha.at hk
    rw [hd] at hd'
    cases hd'
    refine ⟨.pointer (some ⟨b, o + k * 4, none⟩), ?_, b, o + k * 4, A1, c1, rfl, hb.1, hn⟩
    generalize Tm.len F = n at e hk
    unfold execOp
    simp only [e, e']
    go_simp
theorem step_load_av {i : Nat} {x : Operand} {p : Pay} {l : Fo} {G : Option Nat} (hop : (ops[i]?).map (·.op) = some (.load 24 x)) (hx : Opd ops E D base N i x (.sat (avPt G p l))) (hE : E i = .sat (avT G p l)) : Step Tryd.prog ops Q E D base N i :=
  step_still hop hE fun a w h dst ty' pos after guard => by
    obtain ⟨b, o, A, c, e, hb, hn⟩ := hx a w h
    refine ⟨tv p A (Tm.len l) c, ?_, A, c, rfl, hn.inn⟩
    have h0 := hn.kind
    have h1 := hn.num
    have h2 := hn.name
    have h3 := hn.args
    generalize Tm.len l = n at h3
    unfold execOp
    simp only [e]
    go_simp
theorem step_n_av {i : Nat} {x : Operand} {n : Int} {G : Option Nat} (hop : (ops[i]?).map (·.op) = some (.call { callee := .value (.func 34), args := #[x], argTypes := #[2] })) (hx : Opd ops E D base N i x (.val (.int .i64 n))) (hE : E i = .sat (avT G (1, n, ByteArray.empty) .nil)) : Step Tryd.prog ops Q E D base N i :=
  step_call hop (fun _ _ => by kernel_rfl) fun a w h => by
    have ex : a.eval x = .int .i64 n := hx a w h
    rw [show (#[x] : Array Operand).map a.eval = #[.int .i64 n] by rw [← ex]; simp]
    exact (n_any n w).mono fun e w' ⟨he, hb⟩ => ⟨_, he, by rw [hE]; exact ⟨none, 0, rfl, ArgsIn.nil _ _ _⟩, hb⟩
theorem step_f_av {i : Nat} {x y : Operand} {s : ByteArray} {F : Fo} {G : Option Nat} (hop : (ops[i]?).map (·.op) = some (.call { callee := .value (.func 33), args := #[x, y], argTypes := #[9, 22] })) (hx : Opd ops E D base N i x (.val (.string s))) (hy : Opd ops E D base N i y (.sat (avR G F))) (hE : E i = .sat (avT G (3, 0, s) F)) : Step Tryd.prog ops Q E D base N i :=
  step_call hop (fun _ _ => by kernel_rfl) fun a w h => by
    have ex : a.eval x = .string s := hx a w h
    obtain ⟨A, c, ey, ha⟩ := hy a w h
    rw [show (#[x, y] : Array Operand).map a.eval = #[.string s, .slice A (Tm.len F) c] by rw [← ex, ← ey]; simp]
    exact (f_any s A (Tm.len F) c w).mono fun e w' ⟨he, hb⟩ => ⟨_, he, by rw [hE]; exact ⟨A, c, rfl, ((avR G F).keep (.slice A (Tm.len F) c) w w' ⟨A, c, rfl, ha⟩ hb).choose_spec.choose_spec.2 |> fun h => by
      have := (avR G F).keep (.slice A (Tm.len F) c) w w' ⟨A, c, rfl, ha⟩ hb
      obtain ⟨A2, c2, e2, h2⟩ := this
      cases e2
      exact h2⟩, hb⟩
theorem step_slice1_av {i ss : Nat} {x0 : Operand} {p0 : Pay} {l0 : Fo} {G : Option Nat} (hop : (ops[i]?).map (·.op) = some (.buildSlice 22 1 #[(0, x0)])) (h0 : Opd ops E D base N i x0 (.sat (avT G p0 l0))) (hG : Opd ops E D base N i (.tmp ss) (.sat (ltG G))) (hE : E i = .sat (avR G (.node p0 l0 .nil))) : Step Tryd.prog ops Q E D base N i := by
  intro o ho a w hc K hK
  have hxo := op_of ho hop
  obtain ⟨dst, op, ty, pos, after, guard⟩ := o
  have hx' : op = _ := hxo
  subst hx'
  obtain ⟨A0, c0, e0, ha0⟩ := h0 a w hc
  have hv : Vals (fun b => b < w.heap.size ∧ G ≠ some b) w [tv p0 A0 (Tm.len l0) c0] (.node p0 l0 .nil) := ⟨⟨A0, c0, rfl, ha0⟩, trivial⟩
  have hr := row_newS (S := fun _ => True) _ _ 1 24 G hv rfl (by decide) (hG a w hc)
  have hrun : (execOp a.eval ⟨dst, .buildSlice 22 1 #[(0, x0)], ty, pos, after, guard⟩).run Tryd.prog w = .ok (.value (.slice (some ⟨w.heap.size, 0, none⟩) 1 1)) (w.alloc (.cells (tcells [tv p0 A0 (Tm.len l0) c0]).toArray 24)) := by
    unfold execOp
    simp only [List.map_toArray, List.map_cons, List.map_nil, e0]
    go_simp
    rfl
  unfold Oper.wp
  rw [hrun]
  exact hK _ _ (by rw [hE]; exact hr) ((Below.refl _ _).alloc (Nat.le_refl _) _)
theorem step_slice2_av {i ss : Nat} {x0 x1 : Operand} {p0 p1 : Pay} {l0 l1 : Fo} {G : Option Nat} (hop : (ops[i]?).map (·.op) = some (.buildSlice 22 2 #[(0, x0), (1, x1)])) (h0 : Opd ops E D base N i x0 (.sat (avT G p0 l0))) (h1 : Opd ops E D base N i x1 (.sat (avT G p1 l1))) (hG : Opd ops E D base N i (.tmp ss) (.sat (ltG G))) (hE : E i = .sat (avR G (.node p0 l0 (.node p1 l1 .nil)))) : Step Tryd.prog ops Q E D base N i := by
  intro o ho a w hc K hK
  have hxo := op_of ho hop
  obtain ⟨dst, op, ty, pos, after, guard⟩ := o
  have hx' : op = _ := hxo
  subst hx'
  obtain ⟨A0, c0, e0, ha0⟩ := h0 a w hc
  obtain ⟨A1, c1, e1, ha1⟩ := h1 a w hc
  have hv : Vals (fun b => b < w.heap.size ∧ G ≠ some b) w [tv p0 A0 (Tm.len l0) c0, tv p1 A1 (Tm.len l1) c1] (.node p0 l0 (.node p1 l1 .nil)) := ⟨⟨A0, c0, rfl, ha0⟩, ⟨A1, c1, rfl, ha1⟩, trivial⟩
  have hr := row_newS (S := fun _ => True) _ _ 2 24 G hv rfl (by decide) (hG a w hc)
  have hrun : (execOp a.eval ⟨dst, .buildSlice 22 2 #[(0, x0), (1, x1)], ty, pos, after, guard⟩).run Tryd.prog w = .ok (.value (.slice (some ⟨w.heap.size, 0, none⟩) 2 2)) (w.alloc (.cells (tcells [tv p0 A0 (Tm.len l0) c0, tv p1 A1 (Tm.len l1) c1]).toArray 24)) := by
    unfold execOp
    simp only [List.map_toArray, List.map_cons, List.map_nil, e0, e1]
    go_simp
    rfl
  unfold Oper.wp
  rw [hrun]
  exact hK _ _ (by rw [hE]; exact hr) ((Below.refl _ _).alloc (Nat.le_refl _) _)
theorem step_ge_int64 {i : Nat} {x y : Operand} {m n : Int} {b : Bool} (hop : (ops[i]?).map (·.op) = some (.binOp .geq 2 x y 2)) (hx : Opd ops E D base N i x (.val (.int .i64 m))) (hy : Opd ops E D base N i y (.val (.int .i64 n))) (hb : (decide (n ≤ m)) = b) (hE : E i = .val (.bool b)) : Step Tryd.prog ops Q E D base N i :=
  step_still hop hE fun a w h dst ty' pos after guard => by
    have e : a.eval x = .int .i64 m := hx a w h
    have e' : a.eval y = .int .i64 n := hy a w h
    refine ⟨.bool b, ?_, rfl⟩
    rw [← hb]
    unfold execOp
    simp only [e, e']
    go_simp
end
theorem wp_append_terms {o : Oper} {a : Act} {Q : Exit → Act → World → Prop} {K : Act → World → Prop} {w : World} (s x : Operand) (ho : o.op = .call { callee := .builtin .append, args := #[s, x], argTypes := #[22, 22] })
    {N : Nat} {A0 : Option Addr} {n c0 : Nat} {F : Fo} (h : OwnR N w A0 n c0 F) (hs : a.eval s = .slice A0 n c0) {A : Option Addr} {m c : Nat} {G : Fo} (hx : a.eval x = .slice A m c)
    (hA : ArgsIn (fun b => b < w.heap.size ∧ (Value.slice A0 n c0).ownBlock ≠ some b) w A m G) (hb : n + m ≤ 100000)
    (hk : ∀ A' c' w', OwnR N w' A' (n + m) c' (Tm.app F G) → Below N w w' → (∀ b, b < w.heap.size → (Value.slice A0 n c0).ownBlock ≠ some b → w'.heap[b]? = w.heap[b]?) → K (a.put o.dst (.slice A' (n + m) c')) w') : o.wp Tryd.prog a w K Q := by
  obtain ⟨A', c', w', hr, h1, h2, h3⟩ := append_terms h hA hb o.type
  unfold Oper.wp
  simp [execOp, ho, resolve, invoke, builtin, hs, hx, Result.andThen]
  rw [hr]
  exact hk A' c' w' h1 h2 h3
end Go.Proofs.YtcjakmafojbhlaaDoor
