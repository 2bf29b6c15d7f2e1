/-
  The statement OrderRanked, as its function.
-/
import Derived.Test.YtcjakmafojbhlaaDoorMLawRanks
import Derived.Test.YtcjakmafojbhlaaDoorPartH
namespace Go.Proofs.YtcjakmafojbhlaaDoor
set_option linter.unusedVariables false
set_option linter.unusedSimpArgs false
open Go.RowKit
theorem rank_no {F : Fo} {p : Pay} {l : Fo} (h : (Tm.validB p l && (Tm.allV F && Tm.incB (Tm.toL F))) = false) : rankI F p l = 0 ∧ rankB F p l = false := by
  unfold rankI rankB
  rw [h]
  exact ⟨rfl, rfl⟩
theorem rank_yes {F : Fo} {p : Pay} {l : Fo} (h : (Tm.validB p l && (Tm.allV F && Tm.incB (Tm.toL F))) = true) : rankI F p l = ((Tm.rankOf (Tm.toL F) (p, l) : Nat) : Int) ∧ rankB F p l = Tm.rankHas (Tm.toL F) (p, l) := by
  unfold rankI rankB
  rw [h]
  exact ⟨rfl, rfl⟩
theorem sortR_valid {F : Fo} (h : Tm.allV F = true) : Tm.allV (sortR F).1 = true ∧ (Tm.toL (sortR F).1).Pairwise (fun s t => Tm.cmpP s t < 0) := by
  unfold sortR
  rw [if_pos h]
  refine ⟨Tm.allV_iff.2 fun x hx => ?_, by rw [Tm.toL_ofL]; exact Tm.uniq_lt _⟩
  rw [Tm.toL_ofL] at hx
  exact Tm.allV_iff.1 h x (Tm.sortL_mem.1 (Tm.uniq_mem hx))
theorem ranked_elem {S : Fo} {p p1 : Pay} {l l1 r1 : Fo} {k : Nat} {b : Bool} (hS : Tm.allV S = true) (ht : Tm.validB p l = true) (hd : Tm.dropF S k = .node p1 l1 r1) (h : decide (Tm.cmpP (Tm.toL S)[k]! (p, l) < 0) = b) : decide (Tm.cmpV p1 l1 p l < 0) = b := by
  have hx := Tm.toL_at hd
  have hm : (p1, l1) ∈ Tm.toL S := List.mem_of_getElem? hx
  rw [Tm.cmpV_of (Tm.allV_iff.1 hS _ hm) ht, ← h, toL_get hd]
  rfl
theorem swapped_no {S : Fo} {p : Pay} {l : Fo} (h1 : 1 < Tm.len S) (h : (Tm.toL S).Pairwise (fun s t => Tm.cmpP s t < 0)) : (Tm.validB p l && (Tm.allV (rowF (Go.Sort.swp (tagged S) 0 1)) && Tm.incB (Tm.toL (rowF (Go.Sort.swp (tagged S) 0 1))))) = false := by
  have hi : Tm.incB (Tm.toL (rowF (Go.Sort.swp (tagged S) 0 1))) = false := by
    rw [rowF_toL]
    cases hb : Tm.incB (keysOf (Go.Sort.swp (tagged S) 0 1)) with
    | false => rfl
    | true =>
      exfalso
      have hsz : (tagged S).size = Tm.len S := tagged_size S
      have hss : (Go.Sort.swp (tagged S) 0 1).size = Tm.len S := by rw [Go.Sort.size_swp, hsz]
      have hkl : (keysOf (Go.Sort.swp (tagged S) 0 1)).length = Tm.len S := by simp [keysOf, hss]
      have h2 := Tm.incB_iff.1 hb 0 (by rw [hkl]; exact h1)
      have k0 : (keysOf (Go.Sort.swp (tagged S) 0 1))[0]! = (tagged S)[1]!.1 := by
        rw [getElem!_pos _ 0 (by omega)]
        simp only [keysOf, List.getElem_map, Array.getElem_toList]
        have := Go.Sort.swp_get (tagged S) (i := 0) (j := 1) (by omega) (by omega) 0
        rw [getElem!_pos _ 0 (by omega)] at this
        rw [this]
        simp
      have k1 : (keysOf (Go.Sort.swp (tagged S) 0 1))[1]! = (tagged S)[0]!.1 := by
        rw [getElem!_pos _ 1 (by omega)]
        simp only [keysOf, List.getElem_map, Array.getElem_toList]
        have := Go.Sort.swp_get (tagged S) (i := 0) (j := 1) (by omega) (by omega) 1
        rw [getElem!_pos _ 1 (by omega)] at this
        rw [this]
        simp
      rw [k0, k1] at h2
      obtain ⟨r0, d0, _⟩ := tagged_at (F := S) (k := 0) (by omega)
      obtain ⟨r1, d1, _⟩ := tagged_at (F := S) (k := 1) h1
      have g0 := Tm.toL_at d0
      have g1 := Tm.toL_at d1
      have hlt := List.pairwise_iff_getElem.1 h 0 1 (by rw [Tm.len_toL]; omega) (by rw [Tm.len_toL]; omega) (by omega)
      have e0 : (Tm.toL S)[0]'(by rw [Tm.len_toL]; omega) = (tagged S)[0]!.1 := by
        rw [List.getElem?_eq_getElem (by rw [Tm.len_toL]; omega)] at g0
        exact Option.some.inj g0
      have e1 : (Tm.toL S)[1]'(by rw [Tm.len_toL]; omega) = (tagged S)[1]!.1 := by
        rw [List.getElem?_eq_getElem (by rw [Tm.len_toL]; omega)] at g1
        exact Option.some.inj g1
      rw [e0, e1] at hlt
      have := Tm.cmpP_neg (tagged S)[0]!.1 (tagged S)[1]!.1
      have h3 : Tm.cmpP (tagged S)[1]!.1 (tagged S)[0]!.1 < 0 := h2
      omega
  rw [hi]
  simp
noncomputable def ld0Ops : Array Oper := ((Tryd.f10.body).bind (findReg 0)).getD #[]
noncomputable def ld1Ops : Array Oper := ((Tryd.f10.body).bind (findReg 1)).getD #[]
noncomputable def ld2Ops : Array Oper := ((Tryd.f10.body).bind (findReg 2)).getD #[]
noncomputable def ld3Ops : Array Oper := ((Tryd.f10.body).bind (findReg 3)).getD #[]
noncomputable def ld4Ops : Array Oper := ((Tryd.f10.body).bind (findReg 4)).getD #[]
noncomputable def ld5Ops : Array Oper := ((Tryd.f10.body).bind (findReg 5)).getD #[]
noncomputable def ld6Ops : Array Oper := ((Tryd.f10.body).bind (findReg 6)).getD #[]
noncomputable def ld7Ops : Array Oper := ((Tryd.f10.body).bind (findReg 7)).getD #[]
noncomputable def ld8Ops : Array Oper := ((Tryd.f10.body).bind (findReg 8)).getD #[]
noncomputable def ld9Ops : Array Oper := ((Tryd.f10.body).bind (findReg 9)).getD #[]
noncomputable def ld10Ops : Array Oper := ((Tryd.f10.body).bind (findReg 10)).getD #[]
noncomputable def ld11Ops : Array Oper := ((Tryd.f10.body).bind (findReg 11)).getD #[]
noncomputable def ld12Ops : Array Oper := ((Tryd.f10.body).bind (findReg 12)).getD #[]
noncomputable def ld13Ops : Array Oper := ((Tryd.f10.body).bind (findReg 13)).getD #[]
noncomputable def ld14Ops : Array Oper := ((Tryd.f10.body).bind (findReg 14)).getD #[]
noncomputable def ld15Ops : Array Oper := ((Tryd.f10.body).bind (findReg 15)).getD #[]
noncomputable def ld16Ops : Array Oper := ((Tryd.f10.body).bind (findReg 16)).getD #[]
noncomputable def ld17Ops : Array Oper := ((Tryd.f10.body).bind (findReg 17)).getD #[]
noncomputable def ld18Ops : Array Oper := ((Tryd.f10.body).bind (findReg 18)).getD #[]
theorem ld_body : Tryd.f10.body = some (.seq (.region 0 ld0Ops false) (.seq (.region 1 ld1Ops false) (.seq (.seq (.region 2 ld2Ops false) (.cond (.tmp 23) (.seq (.region 3 ld3Ops false) (.seq (.region 4 ld4Ops false) .ret)) .skip)) (.seq (.region 5 ld5Ops false) (.seq (.region 6 ld6Ops false) (.seq (.seq (.region 7 ld7Ops false) (.cond (.tmp 65) (.seq (.region 8 ld8Ops false) .ret) .skip)) (.seq (.seq (.region 9 ld9Ops false) (.block 0 (.loop (.seq (.seq (.region 10 ld10Ops false) (.cond (.tmp 69) .skip (.exit 0))) (.seq (.block 1 (.seq (.region 12 ld12Ops true) (.cond (.tmp 82) (.seq (.region 13 ld13Ops false) .ret) .skip))) (.region 11 ld11Ops false)))))) (.seq (.seq (.region 14 ld14Ops false) (.cond (.tmp 85) (.seq (.region 15 ld15Ops true) (.seq (.region 16 ld16Ops false) (.seq (.region 17 ld17Ops false) .ret))) .skip)) (.seq (.region 18 ld18Ops false) .ret))))))))) := by kernel_rfl
def ld15xEs (p : Pay) (l : Fo) (S : Fo) (wz : World) (g c : Nat) (w1 : World) (A0 : Option Addr) (c0 : Nat) (A1 : Option Addr) (c1 : Nat) : List Kd := [
  .val (.slice (some ⟨g, 0, none⟩) (Tm.len S) c),
  .val (.slice (some ⟨g, 0, none⟩) (Tm.len S) c),
  .val (.slice (some ⟨g, 0, none⟩) (Tm.len S) c),
  .val (.pointer (some ⟨g, 1 * 4, none⟩)),
  .val (tv (tagged S)[1]!.1.1 A1 (Tm.len (tagged S)[1]!.1.2) c1),
  .val (.slice (some ⟨g, 0, none⟩) (Tm.len S) c),
  .val (.pointer (some ⟨g, 0 * 4, none⟩)),
  .val (tv (tagged S)[0]!.1.1 A0 (Tm.len (tagged S)[0]!.1.2) c0)]
def ld15xDs : List Nat := [86, 87, 88, 89, 90, 91, 92, 93]
def ld15xEnv (p : Pay) (l : Fo) (S : Fo) (wz : World) (g c : Nat) (w1 : World) (A0 : Option Addr) (c0 : Nat) (A1 : Option Addr) (c1 : Nat) : Env := [(7, .val (.slice (some ⟨g, 0, none⟩) (Tm.len S) c)), (3, .sat (oldP (.ptrT p l) wz)), (998, .sat (oldP .tabs wz)), (995, .sat (stP w1 g (tagged S))), (996, .sat (nodeP w1.heap.size g (0 * 4) (tagged S)[0]!.1.1 (tagged S)[0]!.1.2 A0 c0)), (997, .sat (nodeP w1.heap.size g (1 * 4) (tagged S)[1]!.1.1 (tagged S)[1]!.1.2 A1 c1))]
theorem ld15x_0 {Q : Exit → Act → World → Prop} (p : Pay) (l : Fo) (S : Fo) (wz : World) (g c : Nat) (w1 : World) (A0 : Option Addr) (c0 : Nat) (A1 : Option Addr) (c1 : Nat) (hi : 0 < Tm.len S) (hj : 1 < Tm.len S) : RStep (strip ld15Ops) Q (fun i => ((ld15xEs p l S wz g c w1 A0 c0 A1 c1)[i]?).getD .any) (fun i => (ld15xDs[i]?).getD (1000 + i)) (look (ld15xEnv p l S wz g c w1 A0 c0 A1 c1)) 112 0 := fun _ => step_move (by kernel_rfl) (Opd.of_base 7 rfl) rfl
theorem ld15x_1 {Q : Exit → Act → World → Prop} (p : Pay) (l : Fo) (S : Fo) (wz : World) (g c : Nat) (w1 : World) (A0 : Option Addr) (c0 : Nat) (A1 : Option Addr) (c1 : Nat) (hi : 0 < Tm.len S) (hj : 1 < Tm.len S) : RStep (strip ld15Ops) Q (fun i => ((ld15xEs p l S wz g c w1 A0 c0 A1 c1)[i]?).getD .any) (fun i => (ld15xDs[i]?).getD (1000 + i)) (look (ld15xEnv p l S wz g c w1 A0 c0 A1 c1)) 112 1 := fun _ => step_move (by kernel_rfl) (Opd.of_base 7 rfl) rfl
theorem ld15x_2 {Q : Exit → Act → World → Prop} (p : Pay) (l : Fo) (S : Fo) (wz : World) (g c : Nat) (w1 : World) (A0 : Option Addr) (c0 : Nat) (A1 : Option Addr) (c1 : Nat) (hi : 0 < Tm.len S) (hj : 1 < Tm.len S) : RStep (strip ld15Ops) Q (fun i => ((ld15xEs p l S wz g c w1 A0 c0 A1 c1)[i]?).getD .any) (fun i => (ld15xDs[i]?).getD (1000 + i)) (look (ld15xEnv p l S wz g c w1 A0 c0 A1 c1)) 112 2 := fun _ => step_move (by kernel_rfl) (Opd.of_base 7 rfl) rfl
theorem ld15x_3 {Q : Exit → Act → World → Prop} (p : Pay) (l : Fo) (S : Fo) (wz : World) (g c : Nat) (w1 : World) (A0 : Option Addr) (c0 : Nat) (A1 : Option Addr) (c1 : Nat) (hi : 0 < Tm.len S) (hj : 1 < Tm.len S) : RStep (strip ld15Ops) Q (fun i => ((ld15xEs p l S wz g c w1 A0 c0 A1 c1)[i]?).getD .any) (fun i => (ld15xDs[i]?).getD (1000 + i)) (look (ld15xEnv p l S wz g c w1 A0 c0 A1 c1)) 112 3 := fun _ => step_index_val (k := 1) (by omega) (by kernel_rfl) (Opd.dep 2 rfl rfl (by kernel_rfl)) (Opd.const _) rfl
theorem ld15x_4 {Q : Exit → Act → World → Prop} (p : Pay) (l : Fo) (S : Fo) (wz : World) (g c : Nat) (w1 : World) (A0 : Option Addr) (c0 : Nat) (A1 : Option Addr) (c1 : Nat) (hi : 0 < Tm.len S) (hj : 1 < Tm.len S) : RStep (strip ld15Ops) Q (fun i => ((ld15xEs p l S wz g c w1 A0 c0 A1 c1)[i]?).getD .any) (fun i => (ld15xDs[i]?).getD (1000 + i)) (look (ld15xEnv p l S wz g c w1 A0 c0 A1 c1)) 112 4 := fun _ => step_load_val 997 (by kernel_rfl) (Opd.dep 3 rfl rfl (by kernel_rfl)) (Opd.of_base 997 rfl) rfl
theorem ld15x_5 {Q : Exit → Act → World → Prop} (p : Pay) (l : Fo) (S : Fo) (wz : World) (g c : Nat) (w1 : World) (A0 : Option Addr) (c0 : Nat) (A1 : Option Addr) (c1 : Nat) (hi : 0 < Tm.len S) (hj : 1 < Tm.len S) : RStep (strip ld15Ops) Q (fun i => ((ld15xEs p l S wz g c w1 A0 c0 A1 c1)[i]?).getD .any) (fun i => (ld15xDs[i]?).getD (1000 + i)) (look (ld15xEnv p l S wz g c w1 A0 c0 A1 c1)) 112 5 := fun _ => step_move (by kernel_rfl) (Opd.of_base 7 rfl) rfl
theorem ld15x_6 {Q : Exit → Act → World → Prop} (p : Pay) (l : Fo) (S : Fo) (wz : World) (g c : Nat) (w1 : World) (A0 : Option Addr) (c0 : Nat) (A1 : Option Addr) (c1 : Nat) (hi : 0 < Tm.len S) (hj : 1 < Tm.len S) : RStep (strip ld15Ops) Q (fun i => ((ld15xEs p l S wz g c w1 A0 c0 A1 c1)[i]?).getD .any) (fun i => (ld15xDs[i]?).getD (1000 + i)) (look (ld15xEnv p l S wz g c w1 A0 c0 A1 c1)) 112 6 := fun _ => step_index_val (k := 0) (by omega) (by kernel_rfl) (Opd.dep 5 rfl rfl (by kernel_rfl)) (Opd.const _) rfl
theorem ld15x_7 {Q : Exit → Act → World → Prop} (p : Pay) (l : Fo) (S : Fo) (wz : World) (g c : Nat) (w1 : World) (A0 : Option Addr) (c0 : Nat) (A1 : Option Addr) (c1 : Nat) (hi : 0 < Tm.len S) (hj : 1 < Tm.len S) : RStep (strip ld15Ops) Q (fun i => ((ld15xEs p l S wz g c w1 A0 c0 A1 c1)[i]?).getD .any) (fun i => (ld15xDs[i]?).getD (1000 + i)) (look (ld15xEnv p l S wz g c w1 A0 c0 A1 c1)) 112 7 := fun _ => step_load_val 996 (by kernel_rfl) (Opd.dep 6 rfl rfl (by kernel_rfl)) (Opd.of_base 996 rfl) rfl
theorem ld15x_region {Q : Exit → Act → World → Prop} (p : Pay) (l : Fo) (S : Fo) (wz : World) (wzb : Tm.len S ≤ 50000) (hi : 0 < Tm.len S) (hj : 1 < Tm.len S) {a : Act} {w : World} (h : Hold 112 [(7, .sat (ownP S wz)), (3, .sat (oldP (.ptrT p l) wz)), (998, .sat (oldP .tabs wz))] wz a w) (hP : ∀ c (t : Option Tmp) v a w, Q (.panic c) (a.put t v) w → Q (.panic c) a w)
    (hQ : ∀ a' w', Hold 112 [(7, .sat (ownP (rowF (Go.Sort.swp (tagged S) 0 1)) wz)), (3, .sat (oldP (.ptrT p l) wz)), (998, .sat (oldP .tabs wz)), (999, .tabs)] wz a' w' → Q .normal a' w') : (Code.region 15 ld15Ops true).wp Tryd.prog Q a w := by
  obtain ⟨A, c, e7, hA, hst⟩ := h.get 7 rfl
  obtain ⟨g, w1, rfl, hg, st⟩ := hst (by omega)
  have hsz : (tagged S).size = Tm.len S := tagged_size S
  obtain ⟨A0, c0, n0⟩ := st.row 0 (by omega)
  obtain ⟨A1, c1, n1⟩ := st.row 1 (by omega)
  have hgl : g < w.heap.size := Nat.lt_of_lt_of_le st.lt st.only.size
  have h2 : Hold 112 (ld15xEnv p l S wz g c w1 A0 c0 A1 c1) wz a w := ⟨h.size, h.defers, h.world, slots_cons 7 e7 (slots_cons 3 (h.get 3 rfl) (slots_cons 998 (h.get 998 rfl) (slots_cons 995 st (slots_cons 996 ⟨hgl, st.only.size, n0⟩ (slots_cons 997 ⟨hgl, st.only.size, n1⟩ slots_nil)))))⟩
  have hall : ∀ i, i < 0 → RStep (strip ld15Ops) Q (fun i => ((ld15xEs p l S wz g c w1 A0 c0 A1 c1)[i]?).getD .any) (fun i => (ld15xDs[i]?).getD (1000 + i)) (look (ld15xEnv p l S wz g c w1 A0 c0 A1 c1)) 112 i := fun i hi => absurd hi (by omega)
  have hall := below_succ hall (ld15x_0 p l S wz g c w1 A0 c0 A1 c1 hi hj)
  have hall := below_succ hall (ld15x_1 p l S wz g c w1 A0 c0 A1 c1 hi hj)
  have hall := below_succ hall (ld15x_2 p l S wz g c w1 A0 c0 A1 c1 hi hj)
  have hall := below_succ hall (ld15x_3 p l S wz g c w1 A0 c0 A1 c1 hi hj)
  have hall := below_succ hall (ld15x_4 p l S wz g c w1 A0 c0 A1 c1 hi hj)
  have hall := below_succ hall (ld15x_5 p l S wz g c w1 A0 c0 A1 c1 hi hj)
  have hall := below_succ hall (ld15x_6 p l S wz g c w1 A0 c0 A1 c1 hi hj)
  have hall := below_succ hall (ld15x_7 p l S wz g c w1 A0 c0 A1 c1 hi hj)
  refine env_then1 (m := 8) (n := 12) (i1 := 1) (d1 := 87) (t1 := 7) ld15xDs (ld15xEs p l S wz g c w1 A0 c0 A1 c1) rfl (by kernel_rfl) (by decide) (by decide) (by kernel_rfl) (of_decide_eq_true (by kernel_rfl)) (by kernel_rfl) (by kernel_rfl) (by kernel_rfl) rfl rfl rfl (by decide) rfl (by kernel_rfl) (by kernel_rfl) (by kernel_rfl) (fun i_ hi_ => hall i_ hi_) h2 hP fun a' w' hq => ?_
  have st' : St w1 g (tagged S) w' := hq.get 995 rfl
  obtain ⟨_, _, n0'⟩ := hq.get 996 rfl
  obtain ⟨_, _, n1'⟩ := hq.get 997 rfl
  refine exch_ops (m := 8) (N := 112) (d1 := 94) (u1 := 90) (d2 := 95) (u2 := 93) (g := g) (n := Tm.len S) (cc := c) (i := 0) (j := 1) (d := tagged S) (A := A0) (B := A1) (c := c0) (e := c1) (x1 := .tmp 86) (y1 := .const (.int .i64 0)) (x2 := .tmp 87) (y2 := .const (.int .i64 1)) (by kernel_rfl) (by kernel_rfl) (by kernel_rfl) (by kernel_rfl) hq.size (by decide) (by decide) (by decide) (by decide) (by decide) (hq.get 86 rfl) rfl (fun _ => (put_other (by decide)).trans (hq.get 87 rfl)) (fun _ => rfl) (hq.get 90 rfl) (hq.get 93 rfl) st' hsz hi hj n0' n1' fun v v' w2 st2 ho => ?_
  have hb2 : Below wz.heap.size w' w2 := ho.below hq.world.size (fun k hk => by subst hk; exact hg)
  have hb3 : Below wz.heap.size wz w2 := hq.world.trans hb2
  have hget : ∀ x, x ≠ 94 → x ≠ 95 → ((a'.put (some 94) v).put (some 95) v').tmps.getD x undef = a'.tmps.getD x undef := fun x h1 h2 => (put_other h2).trans (put_other h1)
  refine hQ _ _ ⟨put_size.trans (put_size.trans hq.size), hq.defers, hb3, slots_cons 7 ?_ (slots_cons 3 (by rw [hget 3 (by decide) (by decide)]; exact ⟨(hq.get 3 rfl).1, hb3⟩) (slots_cons 998 (by rw [hget 998 (by decide) (by decide)]; exact ⟨(hq.get 998 rfl).1, hb3⟩) (slots_cons 999 (k0 := .tabs) (oldP.to (k := .tabs) (v := undef) ⟨(hq.get 998 rfl).1, hb3⟩) slots_nil)))⟩
  rw [hget 7 (by decide) (by decide)]
  have hn2 : (Go.Sort.swp (tagged S) 0 1).size = Tm.len S := by rw [Go.Sort.size_swp]; exact hsz
  have hl2 : Tm.len (rowF (Go.Sort.swp (tagged S) 0 1)) = Tm.len S := by rw [rowF_len, hn2]
  refine ⟨some ⟨g, 0, none⟩, c, by rw [hl2]; exact hq.get 7 rfl, st2.argsIn (by omega), fun _ => ⟨g, w1, rfl, hg, st2.retag⟩⟩
theorem ld0a_region {Q : Exit → Act → World → Prop} (F : Fo) (p : Pay) (l : Fo)  {w0 : World} {a : Act} {w : World} (h : Hold 112 [(0, .row F), (1, .term p l), (999, .tabs)] w0 a w)
    (hQ : ∀ a' w', Hold 112 [(0, .row F), (3, .ptrT p l), (4, .val (.bool false)), (999, .tabs)] w0 a' w' → Q .normal a' w') : (Code.region 0 ld0Ops false).wp Tryd.prog Q a w := by
  refine region_seq (w0 := w) 2 (by kernel_rfl) ?_
  rw [show List.range 2 = [0, 1] from rfl]
  refine env_one (i := 0) (d := 3) (k := .ptrT p l) (step_box (by kernel_rfl) (Opd.of_base 1 rfl) rfl) (by kernel_rfl) (by decide) h ?_
  clear h
  intro a w h
  refine env_one (i := 1) (d := 4) (k := .val (.bool false)) (step_assign (by kernel_rfl) (Opd.const _) rfl) (by kernel_rfl) (by decide) h ?_
  clear h
  intro a w h
  exact hQ a w (h.keep [0, 3, 4, 999])
theorem ld1a_region {Q : Exit → Act → World → Prop} (F : Fo) (p : Pay) (l : Fo)  {w0 : World} {a : Act} {w : World} (h : Hold 112 [(0, .row F), (3, .ptrT p l), (4, .val (.bool false)), (999, .tabs)] w0 a w)
    (hQ : ∀ a' w', Hold 112 [(0, .row (Tm.takeF F 40)), (3, .ptrT p l), (4, .val (.bool false)), (999, .tabs)] w0 a' w' → Q .normal a' w') : (Code.region 1 ld1Ops false).wp Tryd.prog Q a w := by
  refine region_seq (w0 := w) 3 (by kernel_rfl) ?_
  rw [show List.range 3 = [0, 1, 2] from rfl]
  refine env_one (i := 0) (d := 14) (k := .row F) (step_move (by kernel_rfl) (Opd.of_base 0 rfl) rfl) (by kernel_rfl) (by decide) h ?_
  clear h
  intro a w h
  refine env_one (i := 1) (d := 15) (k := .row (Tm.takeF F 40)) (step_few (by kernel_rfl) (Opd.of_base 14 rfl) rfl) (by kernel_rfl) (by decide) h ?_
  clear h
  intro a w h
  refine env_one (i := 2) (d := 0) (k := .row (Tm.takeF F 40)) (step_assign (by kernel_rfl) (Opd.of_base 15 rfl) rfl) (by kernel_rfl) (by decide) h ?_
  clear h
  intro a w h
  exact hQ a w (h.keep [0, 3, 4, 999])
theorem ld2a_region {Q : Exit → Act → World → Prop} (F : Fo) (p : Pay) (l : Fo) (hv : Tm.allV (Tm.takeF F 40) = false) {w0 : World} {a : Act} {w : World} (h : Hold 112 [(0, .row (Tm.takeF F 40)), (3, .ptrT p l), (4, .val (.bool false)), (999, .tabs)] w0 a w)
    (hQ : ∀ a' w', Hold 112 [(0, .row (Tm.takeF F 40)), (3, .ptrT p l), (4, .val (.bool false)), (23, .val (.bool true)), (999, .tabs)] w0 a' w' → Q .normal a' w') : (Code.region 2 ld2Ops false).wp Tryd.prog Q a w := by
  refine region_seq (w0 := w) 8 (by kernel_rfl) ?_
  rw [show List.range 8 = [0, 1, 2, 3, 4, 5, 6, 7] from rfl]
  refine env_one (i := 0) (d := 16) (k := .row (Tm.takeF F 40)) (step_move (by kernel_rfl) (Opd.of_base 0 rfl) rfl) (by kernel_rfl) (by decide) h ?_
  clear h
  intro a w h
  refine env_one (i := 1) (d := 17) (k := .val (.bool false)) (step_lvalid (few_len' F) (by kernel_rfl) (Opd.of_base 16 rfl) hv rfl) (by kernel_rfl) (by decide) h ?_
  clear h
  intro a w h
  refine env_one (i := 2) (d := 18) (k := .val (.bool true)) (step_not (by kernel_rfl) (Opd.of_base 17 rfl) rfl) (by kernel_rfl) (by decide) h ?_
  clear h
  intro a w h
  refine env_one (i := 3) (d := 19) (k := .val (.bool true)) (step_move (by kernel_rfl) (Opd.of_base 18 rfl) rfl) (by kernel_rfl) (by decide) h ?_
  clear h
  intro a w h
  refine env_skip (i := 4) (d := 20) (g := 3) (dg := 19) (b := false) (by kernel_rfl) (by decide) (by kernel_rfl) rfl rfl h ?_
  clear h
  intro a w h
  refine env_skip (i := 5) (d := 21) (g := 3) (dg := 19) (b := false) (by kernel_rfl) (by decide) (by kernel_rfl) rfl rfl h ?_
  clear h
  intro a w h
  refine env_skip (i := 6) (d := 22) (g := 3) (dg := 19) (b := false) (by kernel_rfl) (by decide) (by kernel_rfl) rfl rfl h ?_
  clear h
  intro a w h
  refine env_one (i := 7) (d := 23) (k := .val (.bool true)) (step_pick_yes (y := .tmp 22) (by kernel_rfl) (Opd.of_base 19 rfl) (Opd.const _) rfl) (by kernel_rfl) (by decide) h ?_
  clear h
  intro a w h
  exact hQ a w (h.keep [0, 3, 4, 23, 999])
theorem ld3a_region {Q : Exit → Act → World → Prop} (F : Fo) (p : Pay) (l : Fo)  {w0 : World} {a : Act} {w : World} (h : Hold 112 [(0, .row (Tm.takeF F 40)), (3, .ptrT p l), (4, .val (.bool false)), (999, .tabs)] w0 a w)
    (hQ : ∀ a' w', Hold 112 [(0, .row (Tm.takeF F 40)), (3, .ptrT p l), (4, .val (.bool false)), (5, .val (.int .i64 (rankI (Tm.takeF F 40) p l))), (6, .val (.bool (rankB (Tm.takeF F 40) p l))), (999, .tabs)] w0 a' w' → Q .normal a' w') : (Code.region 3 ld3Ops false).wp Tryd.prog Q a w := by
  refine region_seq (w0 := w) 8 (by kernel_rfl) ?_
  rw [show List.range 8 = [0, 1, 2, 3, 4, 5, 6, 7] from rfl]
  refine env_one (i := 0) (d := 25) (k := .row (Tm.takeF F 40)) (step_move (by kernel_rfl) (Opd.of_base 0 rfl) rfl) (by kernel_rfl) (by decide) h ?_
  clear h
  intro a w h
  refine env_one (i := 1) (d := 26) (k := .term p l) (step_load_term (by kernel_rfl) (Opd.of_base 3 rfl) rfl) (by kernel_rfl) (by decide) h ?_
  clear h
  intro a w h
  refine env_one (i := 2) (d := 27) (k := .val (.tuple #[.int .i64 (rankI (Tm.takeF F 40) p l), .bool (rankB (Tm.takeF F 40) p l)])) (step_orank (few_len' F) 999 (by kernel_rfl) (Opd.of_base 25 rfl) (Opd.of_base 26 rfl) (Opd.of_base 999 rfl) rfl) (by kernel_rfl) (by decide) h ?_
  clear h
  intro a w h
  refine env_one (i := 3) (d := 24) (k := .val (.tuple #[.int .i64 (rankI (Tm.takeF F 40) p l), .bool (rankB (Tm.takeF F 40) p l)])) (step_move (by kernel_rfl) (Opd.of_base 27 rfl) rfl) (by kernel_rfl) (by decide) h ?_
  clear h
  intro a w h
  refine env_one (i := 4) (d := 28) (k := .val (.int .i64 (rankI (Tm.takeF F 40) p l))) (step_two0 (by kernel_rfl) (Opd.of_base 24 rfl) rfl) (by kernel_rfl) (by decide) h ?_
  clear h
  intro a w h
  refine env_one (i := 5) (d := 29) (k := .val (.bool (rankB (Tm.takeF F 40) p l))) (step_two1 (by kernel_rfl) (Opd.of_base 24 rfl) rfl) (by kernel_rfl) (by decide) h ?_
  clear h
  intro a w h
  refine env_one (i := 6) (d := 5) (k := .val (.int .i64 (rankI (Tm.takeF F 40) p l))) (step_assign (by kernel_rfl) (Opd.of_base 28 rfl) rfl) (by kernel_rfl) (by decide) h ?_
  clear h
  intro a w h
  refine env_one (i := 7) (d := 6) (k := .val (.bool (rankB (Tm.takeF F 40) p l))) (step_assign (by kernel_rfl) (Opd.of_base 29 rfl) rfl) (by kernel_rfl) (by decide) h ?_
  clear h
  intro a w h
  exact hQ a w (h.keep [0, 3, 4, 5, 6, 999])
theorem ld4a_region {Q : Exit → Act → World → Prop} (F : Fo) (p : Pay) (l : Fo)  {w0 : World} {a : Act} {w : World} (h : Hold 112 [(0, .row (Tm.takeF F 40)), (3, .ptrT p l), (4, .val (.bool false)), (5, .val (.int .i64 0)), (6, .val (.bool false)), (999, .tabs)] w0 a w)
    (hQ : ∀ a' w', Hold 112 [(0, .row (Tm.takeF F 40)), (3, .ptrT p l), (4, .val (.bool true)), (999, .tabs)] w0 a' w' → Q .normal a' w') : (Code.region 4 ld4Ops false).wp Tryd.prog Q a w := by
  refine region_seq (w0 := w) 10 (by kernel_rfl) ?_
  rw [show List.range 10 = [0, 1, 2, 3, 4, 5, 6, 7, 8, 9] from rfl]
  refine env_one (i := 0) (d := 30) (k := .val (.int .i64 0)) (step_move (by kernel_rfl) (Opd.of_base 5 rfl) rfl) (by kernel_rfl) (by decide) h ?_
  clear h
  intro a w h
  refine env_one (i := 1) (d := 31) (k := .val (.bool true)) (step_eqs_int (by kernel_rfl) (Opd.of_base 30 rfl) (Opd.const _) rfl) (by kernel_rfl) (by decide) h ?_
  clear h
  intro a w h
  refine env_one (i := 2) (d := 32) (k := .val (.bool true)) (step_move (by kernel_rfl) (Opd.of_base 31 rfl) rfl) (by kernel_rfl) (by decide) h ?_
  clear h
  intro a w h
  refine env_guard (i := 3) (d := 33) (g := 2) (dg := 32) (b := true) (k := .val (.bool false)) (step_move (by kernel_rfl) (Opd.of_base 6 rfl) rfl) (by kernel_rfl) (by decide) (by kernel_rfl) (by decide) rfl h ?_
  clear h
  intro a w h
  refine env_guard (i := 4) (d := 34) (g := 2) (dg := 32) (b := true) (k := .val (.bool true)) (step_not (by kernel_rfl) (Opd.of_base 33 rfl) rfl) (by kernel_rfl) (by decide) (by kernel_rfl) (by decide) rfl h ?_
  clear h
  intro a w h
  refine env_one (i := 5) (d := 35) (k := .val (.bool true)) (step_pick_yes (y := .const (.bool false)) (by kernel_rfl) (Opd.of_base 32 rfl) (Opd.of_base 34 rfl) rfl) (by kernel_rfl) (by decide) h ?_
  clear h
  intro a w h
  refine env_one (i := 6) (d := 36) (k := .val (.bool true)) (step_move (by kernel_rfl) (Opd.of_base 35 rfl) rfl) (by kernel_rfl) (by decide) h ?_
  clear h
  intro a w h
  refine env_guard (i := 7) (d := 37) (g := 6) (dg := 36) (b := true) (k := .val (.bool true)) (step_awake 999 (by kernel_rfl) (Opd.of_base 999 rfl) rfl) (by kernel_rfl) (by decide) (by kernel_rfl) (by decide) rfl h ?_
  clear h
  intro a w h
  refine env_one (i := 8) (d := 38) (k := .val (.bool true)) (step_pick_yes (y := .const (.bool false)) (by kernel_rfl) (Opd.of_base 36 rfl) (Opd.of_base 37 rfl) rfl) (by kernel_rfl) (by decide) h ?_
  clear h
  intro a w h
  refine env_one (i := 9) (d := 4) (k := .val (.bool true)) (step_assign (by kernel_rfl) (Opd.of_base 38 rfl) rfl) (by kernel_rfl) (by decide) h ?_
  clear h
  intro a w h
  exact hQ a w (h.keep [0, 3, 4, 999])
theorem ld2b_region {Q : Exit → Act → World → Prop} (F : Fo) (p : Pay) (l : Fo) (hv : Tm.allV (Tm.takeF F 40) = true) (ht : Tm.validB p l = false) {w0 : World} {a : Act} {w : World} (h : Hold 112 [(0, .row (Tm.takeF F 40)), (3, .ptrT p l), (4, .val (.bool false)), (999, .tabs)] w0 a w)
    (hQ : ∀ a' w', Hold 112 [(0, .row (Tm.takeF F 40)), (3, .ptrT p l), (4, .val (.bool false)), (23, .val (.bool true)), (999, .tabs)] w0 a' w' → Q .normal a' w') : (Code.region 2 ld2Ops false).wp Tryd.prog Q a w := by
  refine region_seq (w0 := w) 8 (by kernel_rfl) ?_
  rw [show List.range 8 = [0, 1, 2, 3, 4, 5, 6, 7] from rfl]
  refine env_one (i := 0) (d := 16) (k := .row (Tm.takeF F 40)) (step_move (by kernel_rfl) (Opd.of_base 0 rfl) rfl) (by kernel_rfl) (by decide) h ?_
  clear h
  intro a w h
  refine env_one (i := 1) (d := 17) (k := .val (.bool true)) (step_lvalid (few_len' F) (by kernel_rfl) (Opd.of_base 16 rfl) hv rfl) (by kernel_rfl) (by decide) h ?_
  clear h
  intro a w h
  refine env_one (i := 2) (d := 18) (k := .val (.bool false)) (step_not (by kernel_rfl) (Opd.of_base 17 rfl) rfl) (by kernel_rfl) (by decide) h ?_
  clear h
  intro a w h
  refine env_one (i := 3) (d := 19) (k := .val (.bool false)) (step_move (by kernel_rfl) (Opd.of_base 18 rfl) rfl) (by kernel_rfl) (by decide) h ?_
  clear h
  intro a w h
  refine env_guard (i := 4) (d := 20) (g := 3) (dg := 19) (b := false) (k := .term p l) (step_load_term (by kernel_rfl) (Opd.of_base 3 rfl) rfl) (by kernel_rfl) (by decide) (by kernel_rfl) (by decide) rfl h ?_
  clear h
  intro a w h
  refine env_guard (i := 5) (d := 21) (g := 3) (dg := 19) (b := false) (k := .val (.bool false)) (step_rvalid (by kernel_rfl) (Opd.of_base 20 rfl) ht rfl) (by kernel_rfl) (by decide) (by kernel_rfl) (by decide) rfl h ?_
  clear h
  intro a w h
  refine env_guard (i := 6) (d := 22) (g := 3) (dg := 19) (b := false) (k := .val (.bool true)) (step_not (by kernel_rfl) (Opd.of_base 21 rfl) rfl) (by kernel_rfl) (by decide) (by kernel_rfl) (by decide) rfl h ?_
  clear h
  intro a w h
  refine env_one (i := 7) (d := 23) (k := .val (.bool true)) (step_pick_no (x := .const (.bool true)) (by kernel_rfl) (Opd.of_base 19 rfl) (Opd.of_base 22 rfl) rfl) (by kernel_rfl) (by decide) h ?_
  clear h
  intro a w h
  exact hQ a w (h.keep [0, 3, 4, 23, 999])
theorem ld2c_region {Q : Exit → Act → World → Prop} (F : Fo) (p : Pay) (l : Fo) (hv : Tm.allV (Tm.takeF F 40) = true) (ht : Tm.validB p l = true) {w0 : World} {a : Act} {w : World} (h : Hold 112 [(0, .row (Tm.takeF F 40)), (3, .ptrT p l), (4, .val (.bool false)), (999, .tabs)] w0 a w)
    (hQ : ∀ a' w', Hold 112 [(0, .row (Tm.takeF F 40)), (3, .ptrT p l), (4, .val (.bool false)), (23, .val (.bool false)), (999, .tabs)] w0 a' w' → Q .normal a' w') : (Code.region 2 ld2Ops false).wp Tryd.prog Q a w := by
  refine region_seq (w0 := w) 8 (by kernel_rfl) ?_
  rw [show List.range 8 = [0, 1, 2, 3, 4, 5, 6, 7] from rfl]
  refine env_one (i := 0) (d := 16) (k := .row (Tm.takeF F 40)) (step_move (by kernel_rfl) (Opd.of_base 0 rfl) rfl) (by kernel_rfl) (by decide) h ?_
  clear h
  intro a w h
  refine env_one (i := 1) (d := 17) (k := .val (.bool true)) (step_lvalid (few_len' F) (by kernel_rfl) (Opd.of_base 16 rfl) hv rfl) (by kernel_rfl) (by decide) h ?_
  clear h
  intro a w h
  refine env_one (i := 2) (d := 18) (k := .val (.bool false)) (step_not (by kernel_rfl) (Opd.of_base 17 rfl) rfl) (by kernel_rfl) (by decide) h ?_
  clear h
  intro a w h
  refine env_one (i := 3) (d := 19) (k := .val (.bool false)) (step_move (by kernel_rfl) (Opd.of_base 18 rfl) rfl) (by kernel_rfl) (by decide) h ?_
  clear h
  intro a w h
  refine env_guard (i := 4) (d := 20) (g := 3) (dg := 19) (b := false) (k := .term p l) (step_load_term (by kernel_rfl) (Opd.of_base 3 rfl) rfl) (by kernel_rfl) (by decide) (by kernel_rfl) (by decide) rfl h ?_
  clear h
  intro a w h
  refine env_guard (i := 5) (d := 21) (g := 3) (dg := 19) (b := false) (k := .val (.bool true)) (step_rvalid (by kernel_rfl) (Opd.of_base 20 rfl) ht rfl) (by kernel_rfl) (by decide) (by kernel_rfl) (by decide) rfl h ?_
  clear h
  intro a w h
  refine env_guard (i := 6) (d := 22) (g := 3) (dg := 19) (b := false) (k := .val (.bool false)) (step_not (by kernel_rfl) (Opd.of_base 21 rfl) rfl) (by kernel_rfl) (by decide) (by kernel_rfl) (by decide) rfl h ?_
  clear h
  intro a w h
  refine env_one (i := 7) (d := 23) (k := .val (.bool false)) (step_pick_no (x := .const (.bool true)) (by kernel_rfl) (Opd.of_base 19 rfl) (Opd.of_base 22 rfl) rfl) (by kernel_rfl) (by decide) h ?_
  clear h
  intro a w h
  exact hQ a w (h.keep [0, 3, 4, 23, 999])
theorem ld5a_region {Q : Exit → Act → World → Prop} (p : Pay) (l : Fo) (F : Fo) (wz : World)  {w0 : World} {a : Act} {w : World} (h : Hold 112 [(3, .sat (oldP (.ptrT p l) wz)), (0, .sat (oldP (.row (Tm.takeF F 40)) wz)), (998, .sat (oldP .tabs wz)), (999, .tabs)] w0 a w)
    (hQ : ∀ a' w', Hold 112 [(3, .sat (oldP (.ptrT p l) wz)), (7, .sat (ownP (sortR (Tm.takeF F 40)).1 wz)), (998, .sat (oldP .tabs wz)), (999, .tabs)] w0 a' w' → Q .normal a' w') : (Code.region 5 ld5Ops false).wp Tryd.prog Q a w := by
  refine region_seq (w0 := w) 7 (by kernel_rfl) ?_
  rw [show List.range 7 = [0, 1, 2, 3, 4, 5, 6] from rfl]
  refine env_one (i := 0) (d := 40) (k := .sat (oldP (.row (Tm.takeF F 40)) wz)) (step_move (by kernel_rfl) (Opd.of_base 0 rfl) rfl) (by kernel_rfl) (by decide) h ?_
  clear h
  intro a w h
  refine env_one (i := 1) (d := 41) (k := .sat (madeP (sortR (Tm.takeF F 40)).1 (sortR (Tm.takeF F 40)).2 wz)) (step_osortP (few_len' F) 998 (by kernel_rfl) (Opd.old (Opd.of_base 40 rfl)) (Opd.of_base 998 rfl) rfl) (by kernel_rfl) (by decide) h ?_
  clear h
  intro a w h
  refine env_one (i := 2) (d := 39) (k := .sat (madeP (sortR (Tm.takeF F 40)).1 (sortR (Tm.takeF F 40)).2 wz)) (step_move (by kernel_rfl) (Opd.of_base 41 rfl) rfl) (by kernel_rfl) (by decide) h ?_
  clear h
  intro a w h
  refine env_one (i := 3) (d := 42) (k := .sat (ownP (sortR (Tm.takeF F 40)).1 wz)) (step_made0 (by kernel_rfl) (Opd.of_base 39 rfl) rfl) (by kernel_rfl) (by decide) h ?_
  clear h
  intro a w h
  refine env_one (i := 4) (d := 43) (k := .val (.int .i64 (sortR (Tm.takeF F 40)).2)) (step_made1 (by kernel_rfl) (Opd.of_base 39 rfl) rfl) (by kernel_rfl) (by decide) h ?_
  clear h
  intro a w h
  refine env_one (i := 5) (d := 7) (k := .sat (ownP (sortR (Tm.takeF F 40)).1 wz)) (step_assign (by kernel_rfl) (Opd.of_base 42 rfl) rfl) (by kernel_rfl) (by decide) h ?_
  clear h
  intro a w h
  refine env_one (i := 6) (d := 8) (k := .val (.int .i64 (sortR (Tm.takeF F 40)).2)) (step_assign (by kernel_rfl) (Opd.of_base 43 rfl) rfl) (by kernel_rfl) (by decide) h ?_
  clear h
  intro a w h
  exact hQ a w (h.keep [3, 7, 998, 999])
theorem ld6a_region {Q : Exit → Act → World → Prop} (p : Pay) (l : Fo) (S : Fo) (wz : World) (hSn : Tm.len S ≤ 50000) {w0 : World} {a : Act} {w : World} (h : Hold 112 [(3, .sat (oldP (.ptrT p l) wz)), (7, .sat (ownP S wz)), (998, .sat (oldP .tabs wz)), (999, .tabs)] w0 a w)
    (hQ : ∀ a' w', Hold 112 [(3, .sat (oldP (.ptrT p l) wz)), (7, .sat (ownP S wz)), (9, .val (.int .i64 (rankI S p l))), (10, .val (.bool (rankB S p l))), (998, .sat (oldP .tabs wz)), (999, .tabs)] w0 a' w' → Q .normal a' w') : (Code.region 6 ld6Ops false).wp Tryd.prog Q a w := by
  refine region_seq (w0 := w) 8 (by kernel_rfl) ?_
  rw [show List.range 8 = [0, 1, 2, 3, 4, 5, 6, 7] from rfl]
  refine env_one (i := 0) (d := 45) (k := .sat (ownP S wz)) (step_move (by kernel_rfl) (Opd.of_base 7 rfl) rfl) (by kernel_rfl) (by decide) h ?_
  clear h
  intro a w h
  refine env_one (i := 1) (d := 46) (k := .term p l) (step_load_term (by kernel_rfl) (Opd.old (Opd.of_base 3 rfl)) rfl) (by kernel_rfl) (by decide) h ?_
  clear h
  intro a w h
  refine env_one (i := 2) (d := 47) (k := .val (.tuple #[.int .i64 (rankI S p l), .bool (rankB S p l)])) (step_orank hSn 999 (by kernel_rfl) (Opd.own (Opd.of_base 45 rfl)) (Opd.of_base 46 rfl) (Opd.of_base 999 rfl) rfl) (by kernel_rfl) (by decide) h ?_
  clear h
  intro a w h
  refine env_one (i := 3) (d := 44) (k := .val (.tuple #[.int .i64 (rankI S p l), .bool (rankB S p l)])) (step_move (by kernel_rfl) (Opd.of_base 47 rfl) rfl) (by kernel_rfl) (by decide) h ?_
  clear h
  intro a w h
  refine env_one (i := 4) (d := 48) (k := .val (.int .i64 (rankI S p l))) (step_two0 (by kernel_rfl) (Opd.of_base 44 rfl) rfl) (by kernel_rfl) (by decide) h ?_
  clear h
  intro a w h
  refine env_one (i := 5) (d := 49) (k := .val (.bool (rankB S p l))) (step_two1 (by kernel_rfl) (Opd.of_base 44 rfl) rfl) (by kernel_rfl) (by decide) h ?_
  clear h
  intro a w h
  refine env_one (i := 6) (d := 9) (k := .val (.int .i64 (rankI S p l))) (step_assign (by kernel_rfl) (Opd.of_base 48 rfl) rfl) (by kernel_rfl) (by decide) h ?_
  clear h
  intro a w h
  refine env_one (i := 7) (d := 10) (k := .val (.bool (rankB S p l))) (step_assign (by kernel_rfl) (Opd.of_base 49 rfl) rfl) (by kernel_rfl) (by decide) h ?_
  clear h
  intro a w h
  exact hQ a w (h.keep [3, 7, 9, 10, 998, 999])
theorem ld7a_region {Q : Exit → Act → World → Prop} (p : Pay) (l : Fo) (S : Fo) (wz : World) (R : Nat) (b : Bool) (hSn : Tm.len S ≤ 50000) (hRl : R ≤ Tm.len S) (hRh : b = (((Tm.countF S p l : Nat) : Int) == 1)) {w0 : World} {a : Act} {w : World} (h : Hold 112 [(3, .sat (oldP (.ptrT p l) wz)), (7, .sat (ownP S wz)), (9, .val (.int .i64 ((R : Nat) : Int))), (10, .val (.bool b)), (998, .sat (oldP .tabs wz)), (999, .tabs)] w0 a w)
    (hQ : ∀ a' w', Hold 112 [(3, .sat (oldP (.ptrT p l) wz)), (7, .sat (ownP S wz)), (9, .val (.int .i64 ((R : Nat) : Int))), (65, .val (.bool false)), (998, .sat (oldP .tabs wz)), (999, .tabs)] w0 a' w' → Q .normal a' w') : (Code.region 7 ld7Ops false).wp Tryd.prog Q a w := by
  refine region_seq (w0 := w) 16 (by kernel_rfl) ?_
  rw [show List.range 16 = [0, 1, 2, 3, 4, 5, 6, 7, 8, 9, 10, 11, 12, 13, 14, 15] from rfl]
  refine env_one (i := 0) (d := 50) (k := .val (.int .i64 ((R : Nat) : Int))) (step_move (by kernel_rfl) (Opd.of_base 9 rfl) rfl) (by kernel_rfl) (by decide) h ?_
  clear h
  intro a w h
  refine env_one (i := 1) (d := 51) (k := .val (.bool false)) (step_lt_int (m := ((R : Nat) : Int)) (n := 0) (by kernel_rfl) (Opd.of_base 50 rfl) (Opd.const _) (decide_eq_false (by omega)) rfl) (by kernel_rfl) (by decide) h ?_
  clear h
  intro a w h
  refine env_one (i := 2) (d := 52) (k := .val (.bool false)) (step_move (by kernel_rfl) (Opd.of_base 51 rfl) rfl) (by kernel_rfl) (by decide) h ?_
  clear h
  intro a w h
  refine env_guard (i := 3) (d := 53) (g := 2) (dg := 52) (b := false) (k := .val (.int .i64 ((R : Nat) : Int))) (step_move (by kernel_rfl) (Opd.of_base 9 rfl) rfl) (by kernel_rfl) (by decide) (by kernel_rfl) (by decide) rfl h ?_
  clear h
  intro a w h
  refine env_guard (i := 4) (d := 54) (g := 2) (dg := 52) (b := false) (k := .sat (ownP S wz)) (step_move (by kernel_rfl) (Opd.of_base 7 rfl) rfl) (by kernel_rfl) (by decide) (by kernel_rfl) (by decide) rfl h ?_
  clear h
  intro a w h
  refine env_guard (i := 5) (d := 55) (g := 2) (dg := 52) (b := false) (k := .val (.int .i64 ((Tm.len S : Nat) : Int))) (step_len_row (by kernel_rfl) (Opd.own (Opd.of_base 54 rfl)) rfl) (by kernel_rfl) (by decide) (by kernel_rfl) (by decide) rfl h ?_
  clear h
  intro a w h
  refine env_guard (i := 6) (d := 56) (g := 2) (dg := 52) (b := false) (k := .val (.bool false)) (step_gt_int (m := ((R : Nat) : Int)) (n := ((Tm.len S : Nat) : Int)) (by kernel_rfl) (Opd.of_base 53 rfl) (Opd.of_base 55 rfl) (decide_eq_false (by omega)) rfl) (by kernel_rfl) (by decide) (by kernel_rfl) (by decide) rfl h ?_
  clear h
  intro a w h
  refine env_one (i := 7) (d := 57) (k := .val (.bool false)) (step_pick_no (x := .const (.bool true)) (by kernel_rfl) (Opd.of_base 52 rfl) (Opd.of_base 56 rfl) rfl) (by kernel_rfl) (by decide) h ?_
  clear h
  intro a w h
  refine env_one (i := 8) (d := 58) (k := .val (.bool false)) (step_move (by kernel_rfl) (Opd.of_base 57 rfl) rfl) (by kernel_rfl) (by decide) h ?_
  clear h
  intro a w h
  refine env_guard (i := 9) (d := 59) (g := 8) (dg := 58) (b := false) (k := .val (.bool b)) (step_move (by kernel_rfl) (Opd.of_base 10 rfl) rfl) (by kernel_rfl) (by decide) (by kernel_rfl) (by decide) rfl h ?_
  clear h
  intro a w h
  refine env_guard (i := 10) (d := 60) (g := 8) (dg := 58) (b := false) (k := .sat (ownP S wz)) (step_move (by kernel_rfl) (Opd.of_base 7 rfl) rfl) (by kernel_rfl) (by decide) (by kernel_rfl) (by decide) rfl h ?_
  clear h
  intro a w h
  refine env_guard (i := 11) (d := 61) (g := 8) (dg := 58) (b := false) (k := .term p l) (step_load_term (by kernel_rfl) (Opd.old (Opd.of_base 3 rfl)) rfl) (by kernel_rfl) (by decide) (by kernel_rfl) (by decide) rfl h ?_
  clear h
  intro a w h
  refine env_guard (i := 12) (d := 62) (g := 8) (dg := 58) (b := false) (k := .val (.int .i64 ((Tm.countF S p l : Nat) : Int))) (step_count hSn (by kernel_rfl) (Opd.own (Opd.of_base 60 rfl)) (Opd.of_base 61 rfl) rfl) (by kernel_rfl) (by decide) (by kernel_rfl) (by decide) rfl h ?_
  clear h
  intro a w h
  refine env_guard (i := 13) (d := 63) (g := 8) (dg := 58) (b := false) (k := .val (.bool (((Tm.countF S p l : Nat) : Int) == 1))) (step_eqb_int (m := ((Tm.countF S p l : Nat) : Int)) (n := 1) (by kernel_rfl) (Opd.of_base 62 rfl) (Opd.const _) rfl rfl) (by kernel_rfl) (by decide) (by kernel_rfl) (by decide) rfl h ?_
  clear h
  intro a w h
  refine env_guard (i := 14) (d := 64) (g := 8) (dg := 58) (b := false) (k := .val (.bool false)) (step_ne_bool (by kernel_rfl) (Opd.of_base 59 rfl) (Opd.of_base 63 rfl) (by rw [hRh]; simp) rfl) (by kernel_rfl) (by decide) (by kernel_rfl) (by decide) rfl h ?_
  clear h
  intro a w h
  refine env_one (i := 15) (d := 65) (k := .val (.bool false)) (step_pick_no (x := .const (.bool true)) (by kernel_rfl) (Opd.of_base 58 rfl) (Opd.of_base 64 rfl) rfl) (by kernel_rfl) (by decide) h ?_
  clear h
  intro a w h
  exact hQ a w (h.keep [3, 7, 9, 65, 998, 999])
theorem ld9a_region {Q : Exit → Act → World → Prop} (p : Pay) (l : Fo) (S : Fo) (wz : World) (R : Nat) (b : Bool)  {w0 : World} {a : Act} {w : World} (h : Hold 112 [(3, .sat (oldP (.ptrT p l) wz)), (7, .sat (ownP S wz)), (9, .val (.int .i64 ((R : Nat) : Int))), (998, .sat (oldP .tabs wz)), (999, .tabs)] w0 a w)
    (hQ : ∀ a' w', Hold 112 [(3, .sat (oldP (.ptrT p l) wz)), (7, .sat (ownP S wz)), (9, .val (.int .i64 ((R : Nat) : Int))), (11, .val (.int .i64 0)), (998, .sat (oldP .tabs wz)), (999, .tabs)] w0 a' w' → Q .normal a' w') : (Code.region 9 ld9Ops false).wp Tryd.prog Q a w := by
  refine region_seq (w0 := w) 1 (by kernel_rfl) ?_
  rw [show List.range 1 = [0] from rfl]
  refine env_one (i := 0) (d := 11) (k := .val (.int .i64 0)) (step_assign (by kernel_rfl) (Opd.const _) rfl) (by kernel_rfl) (by decide) h ?_
  clear h
  intro a w h
  exact hQ a w (h.keep [3, 7, 9, 11, 998, 999])
theorem ld10a_region {Q : Exit → Act → World → Prop} (p : Pay) (l : Fo) (S : Fo) (wz : World) (R : Nat) (b : Bool) (kk : Nat) (hi : kk < (Tm.len S)) {w0 : World} {a : Act} {w : World} (h : Hold 112 [(11, .val (.int .i64 ((kk : Nat) : Int))), (7, .sat (ownP S wz)), (3, .sat (oldP (.ptrT p l) wz)), (9, .val (.int .i64 ((R : Nat) : Int))), (998, .sat (oldP .tabs wz)), (999, .tabs)] w0 a w)
    (hQ : ∀ a' w', Hold 112 [(11, .val (.int .i64 ((kk : Nat) : Int))), (7, .sat (ownP S wz)), (3, .sat (oldP (.ptrT p l) wz)), (9, .val (.int .i64 ((R : Nat) : Int))), (69, .val (.bool true)), (998, .sat (oldP .tabs wz)), (999, .tabs)] w0 a' w' → Q .normal a' w') : (Code.region 10 ld10Ops false).wp Tryd.prog Q a w := by
  refine region_seq (w0 := w) 4 (by kernel_rfl) ?_
  rw [show List.range 4 = [0, 1, 2, 3] from rfl]
  refine env_one (i := 0) (d := 66) (k := .val (.int .i64 ((kk : Nat) : Int))) (step_move (by kernel_rfl) (Opd.of_base 11 rfl) rfl) (by kernel_rfl) (by decide) h ?_
  clear h
  intro a w h
  refine env_one (i := 1) (d := 67) (k := .sat (ownP S wz)) (step_move (by kernel_rfl) (Opd.of_base 7 rfl) rfl) (by kernel_rfl) (by decide) h ?_
  clear h
  intro a w h
  refine env_one (i := 2) (d := 68) (k := .val (.int .i64 ((Tm.len S : Nat) : Int))) (step_len_row (by kernel_rfl) (Opd.own (Opd.of_base 67 rfl)) rfl) (by kernel_rfl) (by decide) h ?_
  clear h
  intro a w h
  refine env_one (i := 3) (d := 69) (k := .val (.bool true)) (step_lt_int (m := ((kk : Nat) : Int)) (n := ((Tm.len S : Nat) : Int)) (by kernel_rfl) (Opd.of_base 66 rfl) (Opd.of_base 68 rfl) (decide_eq_true (by omega)) rfl) (by kernel_rfl) (by decide) h ?_
  clear h
  intro a w h
  exact hQ a w (h.keep [11, 7, 3, 9, 69, 998, 999])
def ld12aEs (p : Pay) (l : Fo) (S : Fo) (wz : World) (R : Nat) (b : Bool) (kk : Nat) (p1 : Pay) (l1 r1 : Fo) : List Kd := [
  .sat (ownP S wz),
  .val (.int .i64 ((kk : Nat) : Int)),
  .ptrT p1 l1,
  .term p1 l1,
  .term p l,
  .val (.int .i64 (Tm.cmpV p1 l1 p l)),
  .val (.bool (decide ((Tm.cmpV p1 l1 p l) < 0))),
  .val (.int .i64 ((kk : Nat) : Int)),
  .val (.int .i64 ((R : Nat) : Int)),
  .val (.bool (decide (((kk : Nat) : Int) < ((R : Nat) : Int)))),
  .val (.bool false)]
def ld12aDs : List Nat := [72, 73, 74, 75, 76, 77, 78, 79, 80, 81, 82]
def ld12aEnv (p : Pay) (l : Fo) (S : Fo) (wz : World) (R : Nat) (b : Bool) (kk : Nat) (p1 : Pay) (l1 r1 : Fo) : Env := [(11, .val (.int .i64 ((kk : Nat) : Int))), (7, .sat (ownP S wz)), (3, .sat (oldP (.ptrT p l) wz)), (9, .val (.int .i64 ((R : Nat) : Int))), (998, .sat (oldP .tabs wz)), (999, .tabs)]
theorem ld12a_0 {Q : Exit → Act → World → Prop} (p : Pay) (l : Fo) (S : Fo) (wz : World) (R : Nat) (b : Bool) (kk : Nat) (p1 : Pay) (l1 r1 : Fo) (d1 : Tm.dropF S kk = .node p1 l1 r1) (hcv : decide (Tm.cmpV p1 l1 p l < 0) = decide (kk < R)) : RStep (strip ld12Ops) Q (fun i => ((ld12aEs p l S wz R b kk p1 l1 r1)[i]?).getD .any) (fun i => (ld12aDs[i]?).getD (1000 + i)) (look (ld12aEnv p l S wz R b kk p1 l1 r1)) 112 0 := fun _ => step_move (by kernel_rfl) (Opd.of_base 7 rfl) rfl
theorem ld12a_1 {Q : Exit → Act → World → Prop} (p : Pay) (l : Fo) (S : Fo) (wz : World) (R : Nat) (b : Bool) (kk : Nat) (p1 : Pay) (l1 r1 : Fo) (d1 : Tm.dropF S kk = .node p1 l1 r1) (hcv : decide (Tm.cmpV p1 l1 p l < 0) = decide (kk < R)) : RStep (strip ld12Ops) Q (fun i => ((ld12aEs p l S wz R b kk p1 l1 r1)[i]?).getD .any) (fun i => (ld12aDs[i]?).getD (1000 + i)) (look (ld12aEnv p l S wz R b kk p1 l1 r1)) 112 1 := fun _ => step_move (by kernel_rfl) (Opd.of_base 11 rfl) rfl
theorem ld12a_2 {Q : Exit → Act → World → Prop} (p : Pay) (l : Fo) (S : Fo) (wz : World) (R : Nat) (b : Bool) (kk : Nat) (p1 : Pay) (l1 r1 : Fo) (d1 : Tm.dropF S kk = .node p1 l1 r1) (hcv : decide (Tm.cmpV p1 l1 p l < 0) = decide (kk < R)) : RStep (strip ld12Ops) Q (fun i => ((ld12aEs p l S wz R b kk p1 l1 r1)[i]?).getD .any) (fun i => (ld12aDs[i]?).getD (1000 + i)) (look (ld12aEnv p l S wz R b kk p1 l1 r1)) 112 2 := fun _ => step_row_at (k := kk) (r := r1) (by kernel_rfl) (Opd.own (Opd.dep 0 rfl rfl (by kernel_rfl))) (Opd.dep 1 rfl rfl (by kernel_rfl)) d1 rfl
theorem ld12a_3 {Q : Exit → Act → World → Prop} (p : Pay) (l : Fo) (S : Fo) (wz : World) (R : Nat) (b : Bool) (kk : Nat) (p1 : Pay) (l1 r1 : Fo) (d1 : Tm.dropF S kk = .node p1 l1 r1) (hcv : decide (Tm.cmpV p1 l1 p l < 0) = decide (kk < R)) : RStep (strip ld12Ops) Q (fun i => ((ld12aEs p l S wz R b kk p1 l1 r1)[i]?).getD .any) (fun i => (ld12aDs[i]?).getD (1000 + i)) (look (ld12aEnv p l S wz R b kk p1 l1 r1)) 112 3 := fun _ => step_load_term (by kernel_rfl) (Opd.dep 2 rfl rfl (by kernel_rfl)) rfl
theorem ld12a_4 {Q : Exit → Act → World → Prop} (p : Pay) (l : Fo) (S : Fo) (wz : World) (R : Nat) (b : Bool) (kk : Nat) (p1 : Pay) (l1 r1 : Fo) (d1 : Tm.dropF S kk = .node p1 l1 r1) (hcv : decide (Tm.cmpV p1 l1 p l < 0) = decide (kk < R)) : RStep (strip ld12Ops) Q (fun i => ((ld12aEs p l S wz R b kk p1 l1 r1)[i]?).getD .any) (fun i => (ld12aDs[i]?).getD (1000 + i)) (look (ld12aEnv p l S wz R b kk p1 l1 r1)) 112 4 := fun _ => step_load_term (by kernel_rfl) (Opd.old (Opd.of_base 3 rfl)) rfl
theorem ld12a_5 {Q : Exit → Act → World → Prop} (p : Pay) (l : Fo) (S : Fo) (wz : World) (R : Nat) (b : Bool) (kk : Nat) (p1 : Pay) (l1 r1 : Fo) (d1 : Tm.dropF S kk = .node p1 l1 r1) (hcv : decide (Tm.cmpV p1 l1 p l < 0) = decide (kk < R)) : RStep (strip ld12Ops) Q (fun i => ((ld12aEs p l S wz R b kk p1 l1 r1)[i]?).getD .any) (fun i => (ld12aDs[i]?).getD (1000 + i)) (look (ld12aEnv p l S wz R b kk p1 l1 r1)) 112 5 := fun _ => step_ocmp 999 (by kernel_rfl) (Opd.dep 3 rfl rfl (by kernel_rfl)) (Opd.dep 4 rfl rfl (by kernel_rfl)) (Opd.of_base 999 rfl) rfl
theorem ld12a_6 {Q : Exit → Act → World → Prop} (p : Pay) (l : Fo) (S : Fo) (wz : World) (R : Nat) (b : Bool) (kk : Nat) (p1 : Pay) (l1 r1 : Fo) (d1 : Tm.dropF S kk = .node p1 l1 r1) (hcv : decide (Tm.cmpV p1 l1 p l < 0) = decide (kk < R)) : RStep (strip ld12Ops) Q (fun i => ((ld12aEs p l S wz R b kk p1 l1 r1)[i]?).getD .any) (fun i => (ld12aDs[i]?).getD (1000 + i)) (look (ld12aEnv p l S wz R b kk p1 l1 r1)) 112 6 := fun _ => step_lt_int (m := (Tm.cmpV p1 l1 p l)) (n := 0) (by kernel_rfl) (Opd.dep 5 rfl rfl (by kernel_rfl)) (Opd.const _) rfl rfl
theorem ld12a_7 {Q : Exit → Act → World → Prop} (p : Pay) (l : Fo) (S : Fo) (wz : World) (R : Nat) (b : Bool) (kk : Nat) (p1 : Pay) (l1 r1 : Fo) (d1 : Tm.dropF S kk = .node p1 l1 r1) (hcv : decide (Tm.cmpV p1 l1 p l < 0) = decide (kk < R)) : RStep (strip ld12Ops) Q (fun i => ((ld12aEs p l S wz R b kk p1 l1 r1)[i]?).getD .any) (fun i => (ld12aDs[i]?).getD (1000 + i)) (look (ld12aEnv p l S wz R b kk p1 l1 r1)) 112 7 := fun _ => step_move (by kernel_rfl) (Opd.of_base 11 rfl) rfl
theorem ld12a_8 {Q : Exit → Act → World → Prop} (p : Pay) (l : Fo) (S : Fo) (wz : World) (R : Nat) (b : Bool) (kk : Nat) (p1 : Pay) (l1 r1 : Fo) (d1 : Tm.dropF S kk = .node p1 l1 r1) (hcv : decide (Tm.cmpV p1 l1 p l < 0) = decide (kk < R)) : RStep (strip ld12Ops) Q (fun i => ((ld12aEs p l S wz R b kk p1 l1 r1)[i]?).getD .any) (fun i => (ld12aDs[i]?).getD (1000 + i)) (look (ld12aEnv p l S wz R b kk p1 l1 r1)) 112 8 := fun _ => step_move (by kernel_rfl) (Opd.of_base 9 rfl) rfl
theorem ld12a_9 {Q : Exit → Act → World → Prop} (p : Pay) (l : Fo) (S : Fo) (wz : World) (R : Nat) (b : Bool) (kk : Nat) (p1 : Pay) (l1 r1 : Fo) (d1 : Tm.dropF S kk = .node p1 l1 r1) (hcv : decide (Tm.cmpV p1 l1 p l < 0) = decide (kk < R)) : RStep (strip ld12Ops) Q (fun i => ((ld12aEs p l S wz R b kk p1 l1 r1)[i]?).getD .any) (fun i => (ld12aDs[i]?).getD (1000 + i)) (look (ld12aEnv p l S wz R b kk p1 l1 r1)) 112 9 := fun _ => step_lt_int (m := ((kk : Nat) : Int)) (n := ((R : Nat) : Int)) (by kernel_rfl) (Opd.dep 7 rfl rfl (by kernel_rfl)) (Opd.dep 8 rfl rfl (by kernel_rfl)) rfl rfl
theorem ld12a_10 {Q : Exit → Act → World → Prop} (p : Pay) (l : Fo) (S : Fo) (wz : World) (R : Nat) (b : Bool) (kk : Nat) (p1 : Pay) (l1 r1 : Fo) (d1 : Tm.dropF S kk = .node p1 l1 r1) (hcv : decide (Tm.cmpV p1 l1 p l < 0) = decide (kk < R)) : RStep (strip ld12Ops) Q (fun i => ((ld12aEs p l S wz R b kk p1 l1 r1)[i]?).getD .any) (fun i => (ld12aDs[i]?).getD (1000 + i)) (look (ld12aEnv p l S wz R b kk p1 l1 r1)) 112 10 := fun _ => step_ne_bool (by kernel_rfl) (Opd.dep 6 rfl rfl (by kernel_rfl)) (Opd.dep 9 rfl rfl (by kernel_rfl)) (by rw [hcv]; simp) rfl
theorem ld12a_region {Q : Exit → Act → World → Prop} (p : Pay) (l : Fo) (S : Fo) (wz : World) (R : Nat) (b : Bool) (kk : Nat) (p1 : Pay) (l1 r1 : Fo) (d1 : Tm.dropF S kk = .node p1 l1 r1) (hcv : decide (Tm.cmpV p1 l1 p l < 0) = decide (kk < R)) {w0 : World} {a : Act} {w : World} (h : Hold 112 [(11, .val (.int .i64 ((kk : Nat) : Int))), (7, .sat (ownP S wz)), (3, .sat (oldP (.ptrT p l) wz)), (9, .val (.int .i64 ((R : Nat) : Int))), (998, .sat (oldP .tabs wz)), (999, .tabs)] w0 a w)
    (hQ : ∀ a' w', Hold 112 [(11, .val (.int .i64 ((kk : Nat) : Int))), (7, .sat (ownP S wz)), (3, .sat (oldP (.ptrT p l) wz)), (9, .val (.int .i64 ((R : Nat) : Int))), (82, .val (.bool false)), (998, .sat (oldP .tabs wz)), (999, .tabs)] w0 a' w' → Q .normal a' w') : (Code.region 12 ld12Ops true).wp Tryd.prog Q a w := by
  have hall : ∀ i, i < 0 → RStep (strip ld12Ops) Q (fun i => ((ld12aEs p l S wz R b kk p1 l1 r1)[i]?).getD .any) (fun i => (ld12aDs[i]?).getD (1000 + i)) (look (ld12aEnv p l S wz R b kk p1 l1 r1)) 112 i := fun i hi => absurd hi (by omega)
  have hall := below_succ hall (ld12a_0 p l S wz R b kk p1 l1 r1 d1 hcv)
  have hall := below_succ hall (ld12a_1 p l S wz R b kk p1 l1 r1 d1 hcv)
  have hall := below_succ hall (ld12a_2 p l S wz R b kk p1 l1 r1 d1 hcv)
  have hall := below_succ hall (ld12a_3 p l S wz R b kk p1 l1 r1 d1 hcv)
  have hall := below_succ hall (ld12a_4 p l S wz R b kk p1 l1 r1 d1 hcv)
  have hall := below_succ hall (ld12a_5 p l S wz R b kk p1 l1 r1 d1 hcv)
  have hall := below_succ hall (ld12a_6 p l S wz R b kk p1 l1 r1 d1 hcv)
  have hall := below_succ hall (ld12a_7 p l S wz R b kk p1 l1 r1 d1 hcv)
  have hall := below_succ hall (ld12a_8 p l S wz R b kk p1 l1 r1 d1 hcv)
  have hall := below_succ hall (ld12a_9 p l S wz R b kk p1 l1 r1 d1 hcv)
  have hall := below_succ hall (ld12a_10 p l S wz R b kk p1 l1 r1 d1 hcv)
  refine env_any4 (env := ld12aEnv p l S wz R b kk p1 l1 r1) (N := 112) (w0 := w0) ld12aDs (ld12aEs p l S wz R b kk p1 l1 r1) (by kernel_rfl) (by kernel_rfl) (of_decide_eq_true (by kernel_rfl)) (fun i_ hi_ => hall i_ (by rw [show (ld12aEs p l S wz R b kk p1 l1 r1).length = 11 by kernel_rfl] at hi_; exact hi_)) h fun a' w' h => ?_
  exact hQ a' w' (h.keep [11, 7, 3, 9, 82, 998, 999])
theorem ld11a_region {Q : Exit → Act → World → Prop} (p : Pay) (l : Fo) (S : Fo) (wz : World) (R : Nat) (b : Bool) (kk : Nat) (hSn : Tm.len S ≤ 50000) (hi : kk < (Tm.len S)) {w0 : World} {a : Act} {w : World} (h : Hold 112 [(11, .val (.int .i64 ((kk : Nat) : Int))), (7, .sat (ownP S wz)), (3, .sat (oldP (.ptrT p l) wz)), (9, .val (.int .i64 ((R : Nat) : Int))), (998, .sat (oldP .tabs wz)), (999, .tabs)] w0 a w)
    (hQ : ∀ a' w', Hold 112 [(11, .val (.int .i64 ((kk + 1 : Nat) : Int))), (7, .sat (ownP S wz)), (3, .sat (oldP (.ptrT p l) wz)), (9, .val (.int .i64 ((R : Nat) : Int))), (998, .sat (oldP .tabs wz)), (999, .tabs)] w0 a' w' → Q .normal a' w') : (Code.region 11 ld11Ops false).wp Tryd.prog Q a w := by
  refine region_seq (w0 := w) 3 (by kernel_rfl) ?_
  rw [show List.range 3 = [0, 1, 2] from rfl]
  refine env_one (i := 0) (d := 70) (k := .val (.int .i64 ((kk : Nat) : Int))) (step_move (by kernel_rfl) (Opd.of_base 11 rfl) rfl) (by kernel_rfl) (by decide) h ?_
  clear h
  intro a w h
  refine env_one (i := 1) (d := 71) (k := .val (.int .i64 ((kk + 1 : Nat) : Int))) (step_add (m := ((kk : Nat) : Int)) (n := 1) (s := ((kk + 1 : Nat) : Int)) (by kernel_rfl) (Opd.of_base 70 rfl) (Opd.const _) (by rw [IntKind.wrap_i64]; omega) rfl) (by kernel_rfl) (by decide) h ?_
  clear h
  intro a w h
  refine env_one (i := 2) (d := 11) (k := .val (.int .i64 ((kk + 1 : Nat) : Int))) (step_assign (by kernel_rfl) (Opd.of_base 71 rfl) rfl) (by kernel_rfl) (by decide) h ?_
  clear h
  intro a w h
  exact hQ a w (h.keep [11, 7, 3, 9, 998, 999])
theorem ld10b_region {Q : Exit → Act → World → Prop} (p : Pay) (l : Fo) (S : Fo) (wz : World) (R : Nat) (b : Bool)  {w0 : World} {a : Act} {w : World} (h : Hold 112 [(11, .val (.int .i64 (((Tm.len S) : Nat) : Int))), (7, .sat (ownP S wz)), (3, .sat (oldP (.ptrT p l) wz)), (9, .val (.int .i64 ((R : Nat) : Int))), (998, .sat (oldP .tabs wz)), (999, .tabs)] w0 a w)
    (hQ : ∀ a' w', Hold 112 [(11, .val (.int .i64 (((Tm.len S) : Nat) : Int))), (7, .sat (ownP S wz)), (3, .sat (oldP (.ptrT p l) wz)), (9, .val (.int .i64 ((R : Nat) : Int))), (69, .val (.bool false)), (998, .sat (oldP .tabs wz)), (999, .tabs)] w0 a' w' → Q .normal a' w') : (Code.region 10 ld10Ops false).wp Tryd.prog Q a w := by
  refine region_seq (w0 := w) 4 (by kernel_rfl) ?_
  rw [show List.range 4 = [0, 1, 2, 3] from rfl]
  refine env_one (i := 0) (d := 66) (k := .val (.int .i64 (((Tm.len S) : Nat) : Int))) (step_move (by kernel_rfl) (Opd.of_base 11 rfl) rfl) (by kernel_rfl) (by decide) h ?_
  clear h
  intro a w h
  refine env_one (i := 1) (d := 67) (k := .sat (ownP S wz)) (step_move (by kernel_rfl) (Opd.of_base 7 rfl) rfl) (by kernel_rfl) (by decide) h ?_
  clear h
  intro a w h
  refine env_one (i := 2) (d := 68) (k := .val (.int .i64 ((Tm.len S : Nat) : Int))) (step_len_row (by kernel_rfl) (Opd.own (Opd.of_base 67 rfl)) rfl) (by kernel_rfl) (by decide) h ?_
  clear h
  intro a w h
  refine env_one (i := 3) (d := 69) (k := .val (.bool false)) (step_lt_int (m := (((Tm.len S) : Nat) : Int)) (n := ((Tm.len S : Nat) : Int)) (by kernel_rfl) (Opd.of_base 66 rfl) (Opd.of_base 68 rfl) (decide_eq_false (by omega)) rfl) (by kernel_rfl) (by decide) h ?_
  clear h
  intro a w h
  exact hQ a w (h.keep [11, 7, 3, 9, 69, 998, 999])
theorem ld14a_region {Q : Exit → Act → World → Prop} (p : Pay) (l : Fo) (S : Fo) (wz : World) (R : Nat) (b : Bool) (h1 : 1 < Tm.len S) {w0 : World} {a : Act} {w : World} (h : Hold 112 [(7, .sat (ownP S wz)), (3, .sat (oldP (.ptrT p l) wz)), (998, .sat (oldP .tabs wz)), (999, .tabs)] w0 a w)
    (hQ : ∀ a' w', Hold 112 [(7, .sat (ownP S wz)), (3, .sat (oldP (.ptrT p l) wz)), (85, .val (.bool true)), (998, .sat (oldP .tabs wz)), (999, .tabs)] w0 a' w' → Q .normal a' w') : (Code.region 14 ld14Ops false).wp Tryd.prog Q a w := by
  refine region_seq (w0 := w) 3 (by kernel_rfl) ?_
  rw [show List.range 3 = [0, 1, 2] from rfl]
  refine env_one (i := 0) (d := 83) (k := .sat (ownP S wz)) (step_move (by kernel_rfl) (Opd.of_base 7 rfl) rfl) (by kernel_rfl) (by decide) h ?_
  clear h
  intro a w h
  refine env_one (i := 1) (d := 84) (k := .val (.int .i64 ((Tm.len S : Nat) : Int))) (step_len_row (by kernel_rfl) (Opd.own (Opd.of_base 83 rfl)) rfl) (by kernel_rfl) (by decide) h ?_
  clear h
  intro a w h
  refine env_one (i := 2) (d := 85) (k := .val (.bool true)) (step_gt_int (m := ((Tm.len S : Nat) : Int)) (n := 1) (by kernel_rfl) (Opd.of_base 84 rfl) (Opd.const _) (decide_eq_true (by omega)) rfl) (by kernel_rfl) (by decide) h ?_
  clear h
  intro a w h
  exact hQ a w (h.keep [7, 3, 85, 998, 999])
theorem ld16a_region {Q : Exit → Act → World → Prop} (p : Pay) (l : Fo) (S : Fo) (wz : World) (hTn : Tm.len (rowF (Go.Sort.swp (tagged S) 0 1)) ≤ 50000) {w0 : World} {a : Act} {w : World} (h : Hold 112 [(7, .sat (ownP (rowF (Go.Sort.swp (tagged S) 0 1)) wz)), (3, .sat (oldP (.ptrT p l) wz)), (998, .sat (oldP .tabs wz)), (999, .tabs)] w0 a w)
    (hQ : ∀ a' w', Hold 112 [(12, .val (.int .i64 (rankI (rowF (Go.Sort.swp (tagged S) 0 1)) p l))), (13, .val (.bool (rankB (rowF (Go.Sort.swp (tagged S) 0 1)) p l))), (998, .sat (oldP .tabs wz)), (999, .tabs)] w0 a' w' → Q .normal a' w') : (Code.region 16 ld16Ops false).wp Tryd.prog Q a w := by
  refine region_seq (w0 := w) 8 (by kernel_rfl) ?_
  rw [show List.range 8 = [0, 1, 2, 3, 4, 5, 6, 7] from rfl]
  refine env_one (i := 0) (d := 97) (k := .sat (ownP (rowF (Go.Sort.swp (tagged S) 0 1)) wz)) (step_move (by kernel_rfl) (Opd.of_base 7 rfl) rfl) (by kernel_rfl) (by decide) h ?_
  clear h
  intro a w h
  refine env_one (i := 1) (d := 98) (k := .term p l) (step_load_term (by kernel_rfl) (Opd.old (Opd.of_base 3 rfl)) rfl) (by kernel_rfl) (by decide) h ?_
  clear h
  intro a w h
  refine env_one (i := 2) (d := 99) (k := .val (.tuple #[.int .i64 (rankI (rowF (Go.Sort.swp (tagged S) 0 1)) p l), .bool (rankB (rowF (Go.Sort.swp (tagged S) 0 1)) p l)])) (step_orank hTn 999 (by kernel_rfl) (Opd.own (Opd.of_base 97 rfl)) (Opd.of_base 98 rfl) (Opd.of_base 999 rfl) rfl) (by kernel_rfl) (by decide) h ?_
  clear h
  intro a w h
  refine env_one (i := 3) (d := 96) (k := .val (.tuple #[.int .i64 (rankI (rowF (Go.Sort.swp (tagged S) 0 1)) p l), .bool (rankB (rowF (Go.Sort.swp (tagged S) 0 1)) p l)])) (step_move (by kernel_rfl) (Opd.of_base 99 rfl) rfl) (by kernel_rfl) (by decide) h ?_
  clear h
  intro a w h
  refine env_one (i := 4) (d := 100) (k := .val (.int .i64 (rankI (rowF (Go.Sort.swp (tagged S) 0 1)) p l))) (step_two0 (by kernel_rfl) (Opd.of_base 96 rfl) rfl) (by kernel_rfl) (by decide) h ?_
  clear h
  intro a w h
  refine env_one (i := 5) (d := 101) (k := .val (.bool (rankB (rowF (Go.Sort.swp (tagged S) 0 1)) p l))) (step_two1 (by kernel_rfl) (Opd.of_base 96 rfl) rfl) (by kernel_rfl) (by decide) h ?_
  clear h
  intro a w h
  refine env_one (i := 6) (d := 12) (k := .val (.int .i64 (rankI (rowF (Go.Sort.swp (tagged S) 0 1)) p l))) (step_assign (by kernel_rfl) (Opd.of_base 100 rfl) rfl) (by kernel_rfl) (by decide) h ?_
  clear h
  intro a w h
  refine env_one (i := 7) (d := 13) (k := .val (.bool (rankB (rowF (Go.Sort.swp (tagged S) 0 1)) p l))) (step_assign (by kernel_rfl) (Opd.of_base 101 rfl) rfl) (by kernel_rfl) (by decide) h ?_
  clear h
  intro a w h
  exact hQ a w (h.keep [12, 13, 998, 999])
theorem ld17a_region {Q : Exit → Act → World → Prop} (p : Pay) (l : Fo) (S : Fo) (wz : World)  {w0 : World} {a : Act} {w : World} (h : Hold 112 [(12, .val (.int .i64 0)), (13, .val (.bool false)), (998, .sat (oldP .tabs wz)), (999, .tabs)] w0 a w)
    (hQ : ∀ a' w', Hold 112 [(4, .val (.bool true)), (998, .sat (oldP .tabs wz)), (999, .tabs)] w0 a' w' → Q .normal a' w') : (Code.region 17 ld17Ops false).wp Tryd.prog Q a w := by
  refine region_seq (w0 := w) 10 (by kernel_rfl) ?_
  rw [show List.range 10 = [0, 1, 2, 3, 4, 5, 6, 7, 8, 9] from rfl]
  refine env_one (i := 0) (d := 102) (k := .val (.int .i64 0)) (step_move (by kernel_rfl) (Opd.of_base 12 rfl) rfl) (by kernel_rfl) (by decide) h ?_
  clear h
  intro a w h
  refine env_one (i := 1) (d := 103) (k := .val (.bool true)) (step_eqs_int (by kernel_rfl) (Opd.of_base 102 rfl) (Opd.const _) rfl) (by kernel_rfl) (by decide) h ?_
  clear h
  intro a w h
  refine env_one (i := 2) (d := 104) (k := .val (.bool true)) (step_move (by kernel_rfl) (Opd.of_base 103 rfl) rfl) (by kernel_rfl) (by decide) h ?_
  clear h
  intro a w h
  refine env_guard (i := 3) (d := 105) (g := 2) (dg := 104) (b := true) (k := .val (.bool false)) (step_move (by kernel_rfl) (Opd.of_base 13 rfl) rfl) (by kernel_rfl) (by decide) (by kernel_rfl) (by decide) rfl h ?_
  clear h
  intro a w h
  refine env_guard (i := 4) (d := 106) (g := 2) (dg := 104) (b := true) (k := .val (.bool true)) (step_not (by kernel_rfl) (Opd.of_base 105 rfl) rfl) (by kernel_rfl) (by decide) (by kernel_rfl) (by decide) rfl h ?_
  clear h
  intro a w h
  refine env_one (i := 5) (d := 107) (k := .val (.bool true)) (step_pick_yes (y := .const (.bool false)) (by kernel_rfl) (Opd.of_base 104 rfl) (Opd.of_base 106 rfl) rfl) (by kernel_rfl) (by decide) h ?_
  clear h
  intro a w h
  refine env_one (i := 6) (d := 108) (k := .val (.bool true)) (step_move (by kernel_rfl) (Opd.of_base 107 rfl) rfl) (by kernel_rfl) (by decide) h ?_
  clear h
  intro a w h
  refine env_guard (i := 7) (d := 109) (g := 6) (dg := 108) (b := true) (k := .val (.bool true)) (step_awake 999 (by kernel_rfl) (Opd.of_base 999 rfl) rfl) (by kernel_rfl) (by decide) (by kernel_rfl) (by decide) rfl h ?_
  clear h
  intro a w h
  refine env_one (i := 8) (d := 110) (k := .val (.bool true)) (step_pick_yes (y := .const (.bool false)) (by kernel_rfl) (Opd.of_base 108 rfl) (Opd.of_base 109 rfl) rfl) (by kernel_rfl) (by decide) h ?_
  clear h
  intro a w h
  refine env_one (i := 9) (d := 4) (k := .val (.bool true)) (step_assign (by kernel_rfl) (Opd.of_base 110 rfl) rfl) (by kernel_rfl) (by decide) h ?_
  clear h
  intro a w h
  exact hQ a w (h.keep [4, 998, 999])
theorem ld14b_region {Q : Exit → Act → World → Prop} (p : Pay) (l : Fo) (S : Fo) (wz : World) (R : Nat) (b : Bool) (h1 : ¬ 1 < Tm.len S) {w0 : World} {a : Act} {w : World} (h : Hold 112 [(7, .sat (ownP S wz)), (3, .sat (oldP (.ptrT p l) wz)), (998, .sat (oldP .tabs wz)), (999, .tabs)] w0 a w)
    (hQ : ∀ a' w', Hold 112 [(7, .sat (ownP S wz)), (3, .sat (oldP (.ptrT p l) wz)), (85, .val (.bool false)), (998, .sat (oldP .tabs wz)), (999, .tabs)] w0 a' w' → Q .normal a' w') : (Code.region 14 ld14Ops false).wp Tryd.prog Q a w := by
  refine region_seq (w0 := w) 3 (by kernel_rfl) ?_
  rw [show List.range 3 = [0, 1, 2] from rfl]
  refine env_one (i := 0) (d := 83) (k := .sat (ownP S wz)) (step_move (by kernel_rfl) (Opd.of_base 7 rfl) rfl) (by kernel_rfl) (by decide) h ?_
  clear h
  intro a w h
  refine env_one (i := 1) (d := 84) (k := .val (.int .i64 ((Tm.len S : Nat) : Int))) (step_len_row (by kernel_rfl) (Opd.own (Opd.of_base 83 rfl)) rfl) (by kernel_rfl) (by decide) h ?_
  clear h
  intro a w h
  refine env_one (i := 2) (d := 85) (k := .val (.bool false)) (step_gt_int (m := ((Tm.len S : Nat) : Int)) (n := 1) (by kernel_rfl) (Opd.of_base 84 rfl) (Opd.const _) (decide_eq_false (by omega)) rfl) (by kernel_rfl) (by decide) h ?_
  clear h
  intro a w h
  exact hQ a w (h.keep [7, 3, 85, 998, 999])
theorem ld18a_region {Q : Exit → Act → World → Prop} (p : Pay) (l : Fo) (S : Fo) (wz : World) (R : Nat) (b : Bool)  {w0 : World} {a : Act} {w : World} (h : Hold 112 [(998, .sat (oldP .tabs wz)), (999, .tabs)] w0 a w)
    (hQ : ∀ a' w', Hold 112 [(4, .val (.bool true)), (998, .sat (oldP .tabs wz)), (999, .tabs)] w0 a' w' → Q .normal a' w') : (Code.region 18 ld18Ops false).wp Tryd.prog Q a w := by
  refine region_seq (w0 := w) 2 (by kernel_rfl) ?_
  rw [show List.range 2 = [0, 1] from rfl]
  refine env_one (i := 0) (d := 111) (k := .val (.bool true)) (step_awake 999 (by kernel_rfl) (Opd.of_base 999 rfl) rfl) (by kernel_rfl) (by decide) h ?_
  clear h
  intro a w h
  refine env_one (i := 1) (d := 4) (k := .val (.bool true)) (step_assign (by kernel_rfl) (Opd.of_base 111 rfl) rfl) (by kernel_rfl) (by decide) h ?_
  clear h
  intro a w h
  exact hQ a w (h.keep [4, 998, 999])
theorem law_ranked (F : Fo) (p : Pay) (l : Fo) (A A' : Option Addr) (c c' : Nat) (w : World) (hA : ArgsB w w.heap.size A (Tm.len F) F) (hA' : ArgsB w w.heap.size A' (Tm.len l) l) (hT : Tabs w) :
    Calls Tryd.prog 10 #[.slice A (Tm.len F) c, tv p A' (Tm.len l) c'] w fun e w' => e = .returned (.bool true) ∧ Below w.heap.size w w' := by
  refine calls_of_wp Tryd.func10 ld_body ?_
  obtain ⟨v0, hv0⟩ : ∃ v : Value, v = .slice A (Tm.len F) c := ⟨_, rfl⟩
  obtain ⟨v1, hv1⟩ : ∃ v : Value, v = tv p A' (Tm.len l) c' := ⟨_, rfl⟩
  rw [← hv0, ← hv1]
  have hk0 : (Kd.row F).R v0 w := ⟨A, c, hv0, hA⟩
  have hk1 : (Kd.term p l).R v1 w := ⟨A', c', hv1, hA'⟩
  have hsN : (#[v0, v1] ++ Array.replicate (Tryd.f10.ntmps - #[v0, v1].size) undef : Array Value).size = 112 := by kernel_rfl
  have gs0 : (#[v0, v1] ++ Array.replicate (Tryd.f10.ntmps - #[v0, v1].size) undef : Array Value).getD 0 undef = v0 := by kernel_rfl
  have gs1 : (#[v0, v1] ++ Array.replicate (Tryd.f10.ntmps - #[v0, v1].size) undef : Array Value).getD 1 undef = v1 := by kernel_rfl
  generalize (#[v0, v1] ++ Array.replicate (Tryd.f10.ntmps - #[v0, v1].size) undef : Array Value) = tm at hsN gs0 gs1 ⊢
  refine wp_seq ?_
  refine ld0a_region F p l  (w0 := w) ⟨hsN, rfl, Below.refl _ _, (slots_cons 0 (by rw [gs0]; exact hk0) (slots_cons 1 (by rw [gs1]; exact hk1) (slots_cons 999 (k0 := .tabs) hT slots_nil)))⟩ ?_
  intro a w1 h
  show Code.wp _ _ _ a w1
  refine wp_seq ?_
  refine ld1a_region F p l  h ?_
  intro a w1 h
  show Code.wp _ _ _ a w1
  refine wp_seq ?_
  refine wp_seq ?_
  cases hv : Tm.allV (Tm.takeF F 40)
  · refine ld2a_region F p l hv h ?_
    intro a w1 h
    have hq := rank_no (F := Tm.takeF F 40) (p := p) (l := l) (by rw [hv]; simp)
    show Code.wp _ _ _ a w1
    refine env_cond (b := true) rfl h ?_
    have h := h.keep [0, 3, 4, 999]
    show Code.wp _ _ _ a w1
    refine wp_seq ?_
    refine ld3a_region F p l  h ?_
    intro a w1 h
    rw [hq.1, hq.2] at h
    show Code.wp _ _ _ a w1
    refine wp_seq ?_
    refine ld4a_region F p l  h ?_
    intro a w1 h
    show Code.wp _ _ _ a w1
    refine wp_ret ?_
    (try simp only [then_ret, block_ret])
    refine law_out rfl (h.get 4 rfl) h.defers ⟨rfl, h.world⟩
  cases ht : Tm.validB p l
  · refine ld2b_region F p l hv ht h ?_
    intro a w1 h
    have hq := rank_no (F := Tm.takeF F 40) (p := p) (l := l) (by rw [ht]; rfl)
    show Code.wp _ _ _ a w1
    refine env_cond (b := true) rfl h ?_
    have h := h.keep [0, 3, 4, 999]
    show Code.wp _ _ _ a w1
    refine wp_seq ?_
    refine ld3a_region F p l  h ?_
    intro a w1 h
    rw [hq.1, hq.2] at h
    show Code.wp _ _ _ a w1
    refine wp_seq ?_
    refine ld4a_region F p l  h ?_
    intro a w1 h
    show Code.wp _ _ _ a w1
    refine wp_ret ?_
    (try simp only [then_ret, block_ret])
    refine law_out rfl (h.get 4 rfl) h.defers ⟨rfl, h.world⟩
  · refine ld2c_region F p l hv ht h ?_
    intro a w1 h
    show Code.wp _ _ _ a w1
    refine env_cond (b := false) rfl h ?_
    refine wp_skip ?_
    have h := h.keep [0, 3, 4, 999]
    show Code.wp _ _ _ a w1
    refine wp_seq ?_
    have hb0 := h.world
    obtain ⟨wz, rfl⟩ : ∃ wz : World, wz = w1 := ⟨_, rfl⟩
    have h := (h.since rfl).keep [3, 0, 998, 999]
    refine ld5a_region p l F wz  h ?_
    intro a w1 h
    obtain ⟨S, hS⟩ : ∃ S : Fo, S = (sortR (Tm.takeF F 40)).1 := ⟨_, rfl⟩
    rw [← hS] at h
    have hSn : Tm.len S ≤ 50000 := by rw [hS]; exact few_sort F
    have hSv := sortR_valid hv
    rw [← hS] at hSv
    obtain ⟨hS1, hS2⟩ := hSv
    have hinc := Tm.incB_of_pairwise hS2
    have hq := rank_yes (F := S) (p := p) (l := l) (by rw [ht, hS1, hinc]; rfl)
    have hRl := Tm.rankOf_le (Tm.toL S) (p, l)
    have hRs := fun k hk => Tm.rankOf_split hS2 (p, l) (k := k) hk
    have hRh := Tm.rankHas_iff hS1 hS2 p l
    rw [Tm.len_toL] at hRl
    show Code.wp _ _ _ a w1
    refine wp_seq ?_
    refine ld6a_region p l S wz hSn h ?_
    intro a w1 h
    rw [hq.1, hq.2] at h
    obtain ⟨R, hR⟩ : ∃ R : Nat, R = Tm.rankOf (Tm.toL S) (p, l) := ⟨_, rfl⟩
    rw [← hR] at h hRl hRs
    obtain ⟨b, hb⟩ : ∃ b : Bool, b = Tm.rankHas (Tm.toL S) (p, l) := ⟨_, rfl⟩
    rw [← hb] at h hRh
    show Code.wp _ _ _ a w1
    refine wp_seq ?_
    refine wp_seq ?_
    refine ld7a_region p l S wz R b hSn hRl hRh h ?_
    intro a w1 h
    show Code.wp _ _ _ a w1
    refine env_cond (b := false) rfl h ?_
    refine wp_skip ?_
    have h := h.keep [3, 7, 9, 998, 999]
    show Code.wp _ _ _ a w1
    refine wp_seq ?_
    refine wp_seq ?_
    refine ld9a_region p l S wz R b  h ?_
    intro a w1 h
    show Code.wp _ _ _ a w1
    refine wp_block ?_
    have h := h.keep [11, 7, 3, 9, 998, 999]
    refine wp_for (n := (Tm.len S)) (fun kk a w1 => Hold 112 [(11, .val (.int .i64 ((kk : Nat) : Int))), (7, .sat (ownP S wz)), (3, .sat (oldP (.ptrT p l) wz)), (9, .val (.int .i64 ((R : Nat) : Int))), (998, .sat (oldP .tabs wz)), (999, .tabs)] wz a w1) h ?_ ?_
    · intro kk a w1 hi h
      refine wp_seq ?_
      refine wp_seq ?_
      refine ld10a_region p l S wz R b kk hi h ?_
      intro a w1 h
      show Code.wp _ _ _ a w1
      refine env_cond (b := true) rfl h ?_
      refine wp_skip ?_
      have h := h.keep [11, 7, 3, 9, 998, 999]
      show Code.wp _ _ _ a w1
      refine wp_seq ?_
      refine wp_block ?_
      refine wp_seq ?_
      obtain ⟨p1, l1, r1, d1⟩ := Tm.drop_at (F := S) (k := kk) hi
      have hcv := ranked_elem hS1 ht d1 (by rw [hRs kk (by rw [Tm.len_toL]; exact hi)])
      refine ld12a_region p l S wz R b kk p1 l1 r1 d1 hcv h ?_
      intro a w1 h
      show Code.wp _ _ _ a w1
      refine env_cond (b := false) rfl h ?_
      refine wp_skip ?_
      have h := h.keep [11, 7, 3, 9, 998, 999]
      show Code.wp _ _ _ a w1
      refine ld11a_region p l S wz R b kk hSn hi h ?_
      intro a w1 h
      exact h.keep [11, 7, 3, 9, 998, 999]
    · intro a w1 h
      refine wp_seq ?_
      refine wp_seq ?_
      refine ld10b_region p l S wz R b  h ?_
      intro a w1 h
      show Code.wp _ _ _ a w1
      refine env_cond (b := false) rfl h ?_
      refine wp_exit ?_
      have h := h.keep [7, 3, 998, 999]
      show Code.wp _ _ _ a w1
      refine wp_seq ?_
      refine wp_seq ?_
      by_cases h1 : 1 < Tm.len S
      · refine ld14a_region p l S wz R b h1 h ?_
        intro a w1 h
        show Code.wp _ _ _ a w1
        refine env_cond (b := true) rfl h ?_
        have h := h.keep [7, 3, 998, 999]
        show Code.wp _ _ _ a w1
        refine wp_seq ?_
        refine ld15x_region p l S wz hSn (by omega) h1 (h.keep [7, 3, 998]) (fun _ t _ _ _ h => by cases t <;> exact h) ?_
        intro a w1 h
        have hTn : Tm.len (rowF (Go.Sort.swp (tagged S) 0 1)) ≤ 50000 := by rw [rowF_len, Go.Sort.size_swp, tagged_size]; exact hSn
        have hq2 := rank_no (F := (rowF (Go.Sort.swp (tagged S) 0 1))) (p := p) (l := l) (swapped_no h1 hS2)
        show Code.wp _ _ _ a w1
        refine wp_seq ?_
        refine ld16a_region p l S wz hTn h ?_
        intro a w1 h
        rw [hq2.1, hq2.2] at h
        show Code.wp _ _ _ a w1
        refine wp_seq ?_
        refine ld17a_region p l S wz  h ?_
        intro a w1 h
        show Code.wp _ _ _ a w1
        refine wp_ret ?_
        (try simp only [then_ret, block_ret])
        refine law_out rfl (h.get 4 rfl) h.defers ⟨rfl, hb0.trans (h.world.mono hb0.size)⟩
      · refine ld14b_region p l S wz R b h1 h ?_
        intro a w1 h
        show Code.wp _ _ _ a w1
        refine env_cond (b := false) rfl h ?_
        refine wp_skip ?_
        have h := h.keep [998, 999]
        show Code.wp _ _ _ a w1
        refine wp_seq ?_
        refine ld18a_region p l S wz R b  h ?_
        intro a w1 h
        show Code.wp _ _ _ a w1
        refine wp_ret ?_
        (try simp only [then_ret, block_ret])
        refine law_out rfl (h.get 4 rfl) h.defers ⟨rfl, hb0.trans (h.world.mono hb0.size)⟩
end Go.Proofs.YtcjakmafojbhlaaDoor
