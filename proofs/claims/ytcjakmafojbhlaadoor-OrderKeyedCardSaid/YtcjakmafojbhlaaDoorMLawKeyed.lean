/-
  The statement OrderKeyed, as its function.
-/
import Derived.Test.YtcjakmafojbhlaaDoorMLawRanks
import Derived.Test.YtcjakmafojbhlaaDoorPartI
namespace Go.Proofs.YtcjakmafojbhlaaDoor
set_option linter.unusedVariables false
set_option linter.unusedSimpArgs false
open Go.RowKit
theorem allV_permK {L T : Fo} (hv : Tm.allV L = true) (h : (Tm.toL T).Perm (Tm.toL L)) : Tm.allV T = true := Tm.allV_iff.2 fun x hx => Tm.allV_iff.1 hv x (h.mem_iff.1 hx)
/-- A key with its number, as a pair. -/
def kp (x : Tm.Tn) (i : Nat) : Tm.Tn := ((3, 0, ⟨#[45]⟩), .node x.1 x.2 (.node (1, ((i : Nat) : Int), ByteArray.empty) .nil .nil))
def keyL (L : List Tm.Tn) (k : Nat) : List Tm.Tn := (L.take k).zipIdx.map fun x => kp x.1 x.2
def keyF (K : Fo) (k : Nat) : Fo := Tm.ofL (keyL (Tm.toL K) k)
theorem keyF_toL (K : Fo) (k : Nat) : Tm.toL (keyF K k) = keyL (Tm.toL K) k := Tm.toL_ofL _
theorem keyF_len (K : Fo) (k : Nat) (hk : k ≤ Tm.len K) : Tm.len (keyF K k) = k := by
  rw [← Tm.len_toL, keyF_toL, keyL, List.length_map, List.length_zipIdx, List.length_take, Tm.len_toL]
  omega
theorem keyF_zero (K : Fo) : keyF K 0 = .nil := Tm.len_zero (keyF_len K 0 (Nat.zero_le _))
theorem keyF_next {K : Fo} {k : Nat} {p1 : Pay} {l1 r1 : Fo} (d : Tm.dropF K k = .node p1 l1 r1) : Tm.app (keyF K k) (.node (3, 0, ⟨#[45]⟩) (.node p1 l1 (.node (1, ((k : Nat) : Int), ByteArray.empty) .nil .nil)) .nil) = keyF K (k + 1) := by
  have hx := Tm.toL_at d
  have hk := (List.getElem?_eq_some_iff.1 hx).1
  refine Tm.toL_inj ?_
  rw [Tm.toL_app, keyF_toL, keyF_toL]
  unfold keyL
  rw [List.take_add_one, hx, List.zipIdx_append, List.map_append, List.length_take, Nat.min_eq_left (Nat.le_of_lt hk)]
  simp [Tm.toL, kp]
theorem keyed_len {l1 : Fo} (h : ∃ (x : Tm.Tn) (i : Nat), l1 = (kp x i).2) : Tm.len l1 = 2 := by
  obtain ⟨x, i, rfl⟩ := h
  rfl
theorem keyL_at {L : List Tm.Tn} {i : Nat} {y : Tm.Tn} (h : (keyL L L.length)[i]? = some y) : ∃ x, L[i]? = some x ∧ y = kp x i := by
  unfold keyL at h
  rw [List.take_length, List.getElem?_map] at h
  obtain ⟨z, hz, rfl⟩ := Option.map_eq_some_iff.1 h
  rw [List.getElem?_zipIdx] at hz
  obtain ⟨x, hx, rfl⟩ := Option.map_eq_some_iff.1 hz
  exact ⟨x, hx, by rw [Nat.zero_add]⟩
theorem kp_inj {x y : Tm.Tn} {i j : Nat} (h : kp x i = kp y j) : x = y ∧ i = j := by
  obtain ⟨x1, x2⟩ := x
  obtain ⟨y1, y2⟩ := y
  simp only [kp, Prod.mk.injEq, Fo.node.injEq, true_and, and_true] at h
  obtain ⟨h1, h2, h3⟩ := h
  exact ⟨by rw [h1, h2], by omega⟩
theorem keyL_nodup (L : List Tm.Tn) : (keyL L L.length).Nodup := by
  rw [List.nodup_iff_pairwise_ne, List.pairwise_iff_getElem]
  intro i j hi hj hij e
  obtain ⟨x, _, hx⟩ := keyL_at (List.getElem?_eq_getElem hi)
  obtain ⟨y, _, hy⟩ := keyL_at (List.getElem?_eq_getElem hj)
  rw [hx, hy] at e
  have := (kp_inj e).2
  omega
theorem countP_nodup {q : Tm.Tn → Bool} {t : Tm.Tn} : ∀ {L : List Tm.Tn}, L.Nodup → (∀ x ∈ L, q x = true ↔ x = t) → t ∈ L → L.countP q = 1
  | [], _, _, h => by cases h
  | x :: r, hp, hq, h => by
    rw [List.nodup_cons] at hp
    by_cases hx : x = t
    · subst hx
      rw [List.countP_cons, Tm.countP_not (fun y hy => hq y (List.mem_cons_of_mem _ hy)) hp.1, if_pos ((hq x List.mem_cons_self).2 rfl)]
    · have hm : t ∈ r := by
        rcases List.mem_cons.1 h with h | h
        · exact absurd h.symm hx
        · exact h
      rw [List.countP_cons, countP_nodup hp.2 (fun y hy => hq y (List.mem_cons_of_mem _ hy)) hm, if_neg (fun e => hx ((hq x List.mem_cons_self).1 e))]
theorem valid_key {x : Tm.Tn} {i : Nat} (h : Tm.validB (kp x i).1 (kp x i).2 = true) : Tm.validB x.1 x.2 = true := by
  obtain ⟨p, l⟩ := x
  unfold Tm.validB at h ⊢
  rw [Bool.and_eq_true, decide_eq_true_eq] at h ⊢
  obtain ⟨h1, h2⟩ := h
  refine ⟨?_, ?_⟩
  · dsimp only [kp, Tm.size] at h1 ⊢
    omega
  · unfold Tm.goodB at h2 ⊢
    rw [Bool.and_eq_true] at h2
    have h3 : (Tm.nodeB p (Tm.len l) && Tm.allB l && _) = true := h2.2
    rw [Bool.and_eq_true] at h3
    exact h3.1
theorem keyed_facts {K : Fo} (hv : Tm.allV (keyF K (Tm.len K)) = true) : ∃ R : Fo, R = (keysR (keyF K (Tm.len K))).1 ∧ (keysR (keyF K (Tm.len K))).2 = 0 ∧ Tm.len R = Tm.len (keyF K (Tm.len K)) ∧ Tm.allV R = true ∧
    (∀ k p l r, Tm.dropF R k = .node p l r → ∃ (x : Tm.Tn) (i : Nat), l = (kp x i).2) ∧ (∀ p l, (p, l) ∈ Tm.toL R → Tm.countF R p l = 1) ∧ (∀ p l, (p, l) ∈ Tm.toL R → Tm.countF (keyF K (Tm.len K)) p l = 1) ∧
    (∀ j p1 l1 r1 p2 l2 r2, Tm.dropF R ((j + 1) - 1) = .node p1 l1 r1 → Tm.dropF R (j + 1) = .node p2 l2 r2 → ∃ kp1 kl1 kr1, Tm.dropF l1 0 = .node kp1 kl1 kr1 ∧ ∃ kp2 kl2 kr2, Tm.dropF l2 0 = .node kp2 kl2 kr2 ∧ ∃ np1 nl1 nr1, Tm.dropF l1 1 = .node np1 nl1 nr1 ∧ ∃ np2 nl2 nr2, Tm.dropF l2 1 = .node np2 nl2 nr2 ∧
      (Tm.cmpV kp1 kl1 kp2 kl2 < 0 ∨ (Tm.cmpV kp1 kl1 kp2 kl2 = 0 ∧ np1.2.1 < np2.2.1))) := by
  obtain ⟨M, hM⟩ : ∃ M, M = keyF K (Tm.len K) := ⟨_, rfl⟩
  rw [← hM] at hv ⊢
  have hMt : Tm.toL M = keyL (Tm.toL K) (Tm.toL K).length := by rw [hM, keyF_toL, Tm.len_toL]
  have hpairs : Tm.allPairs M = true := by
    unfold Tm.allPairs
    rw [hMt, List.all_eq_true]
    intro y hy
    obtain ⟨i, hi⟩ := List.getElem?_of_mem hy
    obtain ⟨x, _, rfl⟩ := keyL_at hi
    rfl
  have hR1 : (keysR M).1 = Tm.ofL (Tm.sortL true (Tm.toL M)) := by unfold keysR; rw [if_pos hv, if_pos hpairs]
  have hRt : Tm.toL (keysR M).1 = Tm.sortL true (Tm.toL M) := by rw [hR1, Tm.toL_ofL]
  have hperm : (Tm.toL (keysR M).1).Perm (Tm.toL M) := by rw [hRt]; exact Tm.sortL_perm true _
  have hRv := allV_permK hv hperm
  have hnd : (Tm.toL M).Nodup := by rw [hMt]; exact keyL_nodup _
  have hcM : ∀ p l, (p, l) ∈ Tm.toL M → Tm.countF M p l = 1 := fun p l hm => countP_nodup hnd (Tm.count_iff hv p l) hm
  refine ⟨_, rfl, by unfold keysR; rw [if_pos hv, if_pos hpairs], by rw [← Tm.len_toL, ← Tm.len_toL]; exact hperm.length_eq, hRv, ?_, ?_, ?_, ?_⟩
  · intro k p l r hd
    have hm : (p, l) ∈ Tm.toL M := hperm.mem_iff.1 (List.mem_of_getElem? (Tm.toL_at hd))
    rw [hMt] at hm
    obtain ⟨i, hi⟩ := List.getElem?_of_mem hm
    obtain ⟨x, _, e⟩ := keyL_at hi
    exact ⟨x, i, congrArg (·.2) e⟩
  · intro p l hm
    rw [Tm.countF_perm hperm]
    exact hcM p l (hperm.mem_iff.1 hm)
  · intro p l hm
    exact hcM p l (hperm.mem_iff.1 hm)
  · intro j p1 l1 r1 p2 l2 r2 d1 d2
    rw [Nat.add_sub_cancel] at d1
    have x1 := Tm.toL_at d1
    have x2 := Tm.toL_at d2
    have v1 := Tm.allV_iff.1 hRv _ (List.mem_of_getElem? x1)
    have v2 := Tm.allV_iff.1 hRv _ (List.mem_of_getElem? x2)
    obtain ⟨Z, hZp, hZs, hZe⟩ := Tm.isSort_sortL true (Tm.toL M)
    rw [hRt, hZe, List.getElem?_map] at x1 x2
    obtain ⟨z1, hz1, e1⟩ := Option.map_eq_some_iff.1 x1
    obtain ⟨z2, hz2, e2⟩ := Option.map_eq_some_iff.1 x2
    have key : ∀ z, z ∈ Z → ∃ x, z.1 = kp x z.2 := fun z hz => by
      have hz' : z ∈ (Tm.toL M).zipIdx := hZp.mem_iff.1 hz
      have := List.mem_zipIdx_iff_getElem?.1 hz'
      rw [hMt] at this
      obtain ⟨x, _, e⟩ := keyL_at this
      exact ⟨x, e⟩
    obtain ⟨y1, w1⟩ := key z1 (List.mem_of_getElem? hz1)
    obtain ⟨y2, w2⟩ := key z2 (List.mem_of_getElem? hz2)
    obtain ⟨g1, q1⟩ := List.getElem?_eq_some_iff.1 hz1
    obtain ⟨g2, q2⟩ := List.getElem?_eq_some_iff.1 hz2
    have hb := List.pairwise_iff_getElem.1 hZs j (j + 1) g1 g2 (by omega)
    rw [q1, q2] at hb
    rw [w1] at e1
    rw [w2] at e2
    have el1 : l1 = (kp y1 z1.2).2 := (congrArg (·.2) e1).symm
    have el2 : l2 = (kp y2 z2.2).2 := (congrArg (·.2) e2).symm
    have ep1 : (p1, l1) = kp y1 z1.2 := e1.symm
    have ep2 : (p2, l2) = kp y2 z2.2 := e2.symm
    have v1' : Tm.validB (kp y1 z1.2).1 (kp y1 z1.2).2 = true := by rw [← ep1]; exact v1
    have v2' : Tm.validB (kp y2 z2.2).1 (kp y2 z2.2).2 = true := by rw [← ep2]; exact v2
    have k1 := valid_key v1'
    have k2 := valid_key v2'
    subst el1 el2
    refine ⟨y1.1, y1.2, _, rfl, y2.1, y2.2, _, rfl, _, _, _, rfl, _, _, _, rfl, ?_⟩
    rw [Tm.cmpV_of k1 k2]
    have hb' : Tm.cmpK true (kp y1 z1.2) (kp y2 z2.2) < 0 ∨ (Tm.cmpK true (kp y1 z1.2) (kp y2 z2.2) = 0 ∧ z1.2 < z2.2) := by
      have := hb
      unfold Tm.Bef at this
      rw [w1, w2] at this
      exact this
    rcases hb' with hb' | ⟨hb1, hb2⟩
    · exact .inl hb'
    · refine .inr ⟨hb1, ?_⟩
      show ((z1.2 : Nat) : Int) < ((z2.2 : Nat) : Int)
      omega
noncomputable def lk0Ops : Array Oper := ((Tryd.f9.body).bind (findReg 0)).getD #[]
noncomputable def lk1Ops : Array Oper := ((Tryd.f9.body).bind (findReg 1)).getD #[]
noncomputable def lk2Ops : Array Oper := ((Tryd.f9.body).bind (findReg 2)).getD #[]
noncomputable def lk3Ops : Array Oper := ((Tryd.f9.body).bind (findReg 3)).getD #[]
noncomputable def lk4Ops : Array Oper := ((Tryd.f9.body).bind (findReg 4)).getD #[]
noncomputable def lk5Ops : Array Oper := ((Tryd.f9.body).bind (findReg 5)).getD #[]
noncomputable def lk6Ops : Array Oper := ((Tryd.f9.body).bind (findReg 6)).getD #[]
noncomputable def lk7Ops : Array Oper := ((Tryd.f9.body).bind (findReg 7)).getD #[]
noncomputable def lk8Ops : Array Oper := ((Tryd.f9.body).bind (findReg 8)).getD #[]
noncomputable def lk9Ops : Array Oper := ((Tryd.f9.body).bind (findReg 9)).getD #[]
noncomputable def lk10Ops : Array Oper := ((Tryd.f9.body).bind (findReg 10)).getD #[]
noncomputable def lk11Ops : Array Oper := ((Tryd.f9.body).bind (findReg 11)).getD #[]
noncomputable def lk12Ops : Array Oper := ((Tryd.f9.body).bind (findReg 12)).getD #[]
noncomputable def lk13Ops : Array Oper := ((Tryd.f9.body).bind (findReg 13)).getD #[]
noncomputable def lk14Ops : Array Oper := ((Tryd.f9.body).bind (findReg 14)).getD #[]
noncomputable def lk15Ops : Array Oper := ((Tryd.f9.body).bind (findReg 15)).getD #[]
noncomputable def lk16Ops : Array Oper := ((Tryd.f9.body).bind (findReg 16)).getD #[]
noncomputable def lk17Ops : Array Oper := ((Tryd.f9.body).bind (findReg 17)).getD #[]
noncomputable def lk18Ops : Array Oper := ((Tryd.f9.body).bind (findReg 18)).getD #[]
noncomputable def lk19Ops : Array Oper := ((Tryd.f9.body).bind (findReg 19)).getD #[]
noncomputable def lk20Ops : Array Oper := ((Tryd.f9.body).bind (findReg 20)).getD #[]
noncomputable def lk21Ops : Array Oper := ((Tryd.f9.body).bind (findReg 21)).getD #[]
noncomputable def lk22Ops : Array Oper := ((Tryd.f9.body).bind (findReg 22)).getD #[]
theorem lk_body : Tryd.f9.body = some (.seq (.region 0 lk0Ops false) (.seq (.region 1 lk1Ops false) (.seq (.region 2 lk2Ops false) (.seq (.seq (.region 3 lk3Ops false) (.block 0 (.loop (.seq (.seq (.region 4 lk4Ops false) (.cond (.tmp 16) .skip (.exit 0))) (.seq (.block 1 (.region 6 lk6Ops true)) (.region 5 lk5Ops false)))))) (.seq (.seq (.region 7 lk7Ops false) (.cond (.tmp 32) (.seq (.region 8 lk8Ops false) (.seq (.region 9 lk9Ops false) .ret)) .skip)) (.seq (.region 10 lk10Ops false) (.seq (.seq (.region 11 lk11Ops false) (.cond (.tmp 56) (.seq (.region 12 lk12Ops false) .ret) .skip)) (.seq (.seq (.region 13 lk13Ops false) (.block 2 (.loop (.seq (.seq (.region 14 lk14Ops false) (.cond (.tmp 60) .skip (.exit 2))) (.seq (.block 3 (.seq (.seq (.region 16 lk16Ops false) (.cond (.tmp 87) (.seq (.region 17 lk17Ops false) .ret) .skip)) (.seq (.seq (.region 18 lk18Ops false) (.cond (.tmp 89) (.exit 3) .skip)) (.seq (.region 19 lk19Ops true) (.seq (.region 20 lk20Ops true) (.cond (.tmp 131) (.seq (.region 21 lk21Ops false) .ret) .skip)))))) (.region 15 lk15Ops false)))))) (.seq (.region 22 lk22Ops false) .ret))))))))) := by kernel_rfl
def lk6xEs (K : Fo) (wz : World) (kk : Nat) (p1 : Pay) (l1 r1 : Fo) (A : Option Addr) (c : Nat) : List Kd := [
  .val (.slice A kk c),
  .sat (oldP (.row K) wz),
  .val (.int .i64 ((kk : Nat) : Int)),
  .sat (avPt (Value.slice A kk c).ownBlock p1 l1),
  .sat (avT (Value.slice A kk c).ownBlock p1 l1),
  .val (.int .i64 ((kk : Nat) : Int)),
  .sat (avT (Value.slice A kk c).ownBlock (1, ((kk : Nat) : Int), ByteArray.empty) .nil),
  .sat (avR (Value.slice A kk c).ownBlock (.node p1 l1 (.node (1, ((kk : Nat) : Int), ByteArray.empty) .nil .nil))),
  .sat (avT (Value.slice A kk c).ownBlock (3, 0, ⟨#[45]⟩) (.node p1 l1 (.node (1, ((kk : Nat) : Int), ByteArray.empty) .nil .nil))),
  .sat (avR (Value.slice A kk c).ownBlock (.node (3, 0, ⟨#[45]⟩) (.node p1 l1 (.node (1, ((kk : Nat) : Int), ByteArray.empty) .nil .nil)) .nil))]
def lk6xDs : List Nat := [19, 20, 21, 22, 23, 24, 25, 26, 27, 28]
def lk6xEnv (K : Fo) (wz : World) (kk : Nat) (p1 : Pay) (l1 r1 : Fo) (A : Option Addr) (c : Nat) : Env := [(3, .val (.slice A kk c)), (0, .sat (oldP (.row K) wz)), (4, .val (.int .i64 ((kk : Nat) : Int))), (998, .sat (oldP .tabs wz)), (996, .sat (ownRP wz.heap.size A kk c (keyF K kk))), (997, .sat (ltG (Value.slice A kk c).ownBlock))]
theorem lk6x_0 {Q : Exit → Act → World → Prop} (K : Fo) (wz : World) (kk : Nat) (p1 : Pay) (l1 r1 : Fo) (A : Option Addr) (c : Nat) (hG : ∀ g, (Value.slice A kk c).ownBlock = some g → wz.heap.size ≤ g) (d1 : Tm.dropF K kk = .node p1 l1 r1) : RStep (strip lk6Ops) Q (fun i => ((lk6xEs K wz kk p1 l1 r1 A c)[i]?).getD .any) (fun i => (lk6xDs[i]?).getD (1000 + i)) (look (lk6xEnv K wz kk p1 l1 r1 A c)) 133 0 := fun _ => step_move (by kernel_rfl) (Opd.of_base 3 rfl) rfl
theorem lk6x_1 {Q : Exit → Act → World → Prop} (K : Fo) (wz : World) (kk : Nat) (p1 : Pay) (l1 r1 : Fo) (A : Option Addr) (c : Nat) (hG : ∀ g, (Value.slice A kk c).ownBlock = some g → wz.heap.size ≤ g) (d1 : Tm.dropF K kk = .node p1 l1 r1) : RStep (strip lk6Ops) Q (fun i => ((lk6xEs K wz kk p1 l1 r1 A c)[i]?).getD .any) (fun i => (lk6xDs[i]?).getD (1000 + i)) (look (lk6xEnv K wz kk p1 l1 r1 A c)) 133 1 := fun _ => step_move (by kernel_rfl) (Opd.of_base 0 rfl) rfl
theorem lk6x_2 {Q : Exit → Act → World → Prop} (K : Fo) (wz : World) (kk : Nat) (p1 : Pay) (l1 r1 : Fo) (A : Option Addr) (c : Nat) (hG : ∀ g, (Value.slice A kk c).ownBlock = some g → wz.heap.size ≤ g) (d1 : Tm.dropF K kk = .node p1 l1 r1) : RStep (strip lk6Ops) Q (fun i => ((lk6xEs K wz kk p1 l1 r1 A c)[i]?).getD .any) (fun i => (lk6xDs[i]?).getD (1000 + i)) (look (lk6xEnv K wz kk p1 l1 r1 A c)) 133 2 := fun _ => step_move (by kernel_rfl) (Opd.of_base 4 rfl) rfl
theorem lk6x_3 {Q : Exit → Act → World → Prop} (K : Fo) (wz : World) (kk : Nat) (p1 : Pay) (l1 r1 : Fo) (A : Option Addr) (c : Nat) (hG : ∀ g, (Value.slice A kk c).ownBlock = some g → wz.heap.size ≤ g) (d1 : Tm.dropF K kk = .node p1 l1 r1) : RStep (strip lk6Ops) Q (fun i => ((lk6xEs K wz kk p1 l1 r1 A c)[i]?).getD .any) (fun i => (lk6xDs[i]?).getD (1000 + i)) (look (lk6xEnv K wz kk p1 l1 r1 A c)) 133 3 := fun _ => step_row_at_av (k := kk) (r := r1) (by kernel_rfl) (Opd.av hG (Opd.dep 1 rfl rfl (by kernel_rfl))) (Opd.dep 2 rfl rfl (by kernel_rfl)) d1 rfl
theorem lk6x_4 {Q : Exit → Act → World → Prop} (K : Fo) (wz : World) (kk : Nat) (p1 : Pay) (l1 r1 : Fo) (A : Option Addr) (c : Nat) (hG : ∀ g, (Value.slice A kk c).ownBlock = some g → wz.heap.size ≤ g) (d1 : Tm.dropF K kk = .node p1 l1 r1) : RStep (strip lk6Ops) Q (fun i => ((lk6xEs K wz kk p1 l1 r1 A c)[i]?).getD .any) (fun i => (lk6xDs[i]?).getD (1000 + i)) (look (lk6xEnv K wz kk p1 l1 r1 A c)) 133 4 := fun _ => step_load_av (by kernel_rfl) (Opd.dep 3 rfl rfl (by kernel_rfl)) rfl
theorem lk6x_5 {Q : Exit → Act → World → Prop} (K : Fo) (wz : World) (kk : Nat) (p1 : Pay) (l1 r1 : Fo) (A : Option Addr) (c : Nat) (hG : ∀ g, (Value.slice A kk c).ownBlock = some g → wz.heap.size ≤ g) (d1 : Tm.dropF K kk = .node p1 l1 r1) : RStep (strip lk6Ops) Q (fun i => ((lk6xEs K wz kk p1 l1 r1 A c)[i]?).getD .any) (fun i => (lk6xDs[i]?).getD (1000 + i)) (look (lk6xEnv K wz kk p1 l1 r1 A c)) 133 5 := fun _ => step_move (by kernel_rfl) (Opd.of_base 4 rfl) rfl
theorem lk6x_6 {Q : Exit → Act → World → Prop} (K : Fo) (wz : World) (kk : Nat) (p1 : Pay) (l1 r1 : Fo) (A : Option Addr) (c : Nat) (hG : ∀ g, (Value.slice A kk c).ownBlock = some g → wz.heap.size ≤ g) (d1 : Tm.dropF K kk = .node p1 l1 r1) : RStep (strip lk6Ops) Q (fun i => ((lk6xEs K wz kk p1 l1 r1 A c)[i]?).getD .any) (fun i => (lk6xDs[i]?).getD (1000 + i)) (look (lk6xEnv K wz kk p1 l1 r1 A c)) 133 6 := fun _ => step_n_av (by kernel_rfl) (Opd.dep 5 rfl rfl (by kernel_rfl)) rfl
theorem lk6x_7 {Q : Exit → Act → World → Prop} (K : Fo) (wz : World) (kk : Nat) (p1 : Pay) (l1 r1 : Fo) (A : Option Addr) (c : Nat) (hG : ∀ g, (Value.slice A kk c).ownBlock = some g → wz.heap.size ≤ g) (d1 : Tm.dropF K kk = .node p1 l1 r1) : RStep (strip lk6Ops) Q (fun i => ((lk6xEs K wz kk p1 l1 r1 A c)[i]?).getD .any) (fun i => (lk6xDs[i]?).getD (1000 + i)) (look (lk6xEnv K wz kk p1 l1 r1 A c)) 133 7 := fun _ => step_slice2_av (ss := 997) (by kernel_rfl) (Opd.dep 4 rfl rfl (by kernel_rfl)) (Opd.dep 6 rfl rfl (by kernel_rfl)) (Opd.of_base 997 rfl) rfl
theorem lk6x_8 {Q : Exit → Act → World → Prop} (K : Fo) (wz : World) (kk : Nat) (p1 : Pay) (l1 r1 : Fo) (A : Option Addr) (c : Nat) (hG : ∀ g, (Value.slice A kk c).ownBlock = some g → wz.heap.size ≤ g) (d1 : Tm.dropF K kk = .node p1 l1 r1) : RStep (strip lk6Ops) Q (fun i => ((lk6xEs K wz kk p1 l1 r1 A c)[i]?).getD .any) (fun i => (lk6xDs[i]?).getD (1000 + i)) (look (lk6xEnv K wz kk p1 l1 r1 A c)) 133 8 := fun _ => step_f_av (by kernel_rfl) (Opd.const _) (Opd.dep 7 rfl rfl (by kernel_rfl)) rfl
theorem lk6x_9 {Q : Exit → Act → World → Prop} (K : Fo) (wz : World) (kk : Nat) (p1 : Pay) (l1 r1 : Fo) (A : Option Addr) (c : Nat) (hG : ∀ g, (Value.slice A kk c).ownBlock = some g → wz.heap.size ≤ g) (d1 : Tm.dropF K kk = .node p1 l1 r1) : RStep (strip lk6Ops) Q (fun i => ((lk6xEs K wz kk p1 l1 r1 A c)[i]?).getD .any) (fun i => (lk6xDs[i]?).getD (1000 + i)) (look (lk6xEnv K wz kk p1 l1 r1 A c)) 133 9 := fun _ => step_slice1_av (ss := 997) (by kernel_rfl) (Opd.dep 8 rfl rfl (by kernel_rfl)) (Opd.of_base 997 rfl) rfl
theorem lk6x_region {Q : Exit → Act → World → Prop} (K : Fo) (wz : World) (kk : Nat) (p1 : Pay) (l1 r1 : Fo) (d1 : Tm.dropF K kk = .node p1 l1 r1) (hKn : Tm.len K ≤ 50000) {a : Act} {w : World} (h : Hold 133 [(3, .sat (apP wz.heap.size (keyF K kk))), (0, .sat (oldP (.row K) wz)), (4, .val (.int .i64 ((kk : Nat) : Int))), (998, .sat (oldP .tabs wz))] wz a w)
    (hQ : ∀ a' w', Hold 133 [(3, .sat (apP wz.heap.size (keyF K (kk + 1)))), (0, .sat (oldP (.row K) wz)), (4, .val (.int .i64 ((kk : Nat) : Int))), (998, .sat (oldP .tabs wz)), (999, .tabs)] wz a' w' → Q .normal a' w') : (Code.region 6 lk6Ops true).wp Tryd.prog Q a w := by
  obtain ⟨A, c, e3, ho⟩ := h.get 3 rfl
  have hkk : kk < Tm.len K := by
    have h1 := Tm.len_drop K kk
    rw [d1] at h1
    have h2 : Tm.len (Fo.node p1 l1 r1) = Tm.len r1 + 1 := rfl
    omega
  have hkl := keyF_len K kk (by omega)
  rw [hkl] at e3 ho
  have hG : ∀ g, (Value.slice A kk c).ownBlock = some g → wz.heap.size ≤ g := fun g e => (ho.lt e).1
  have hG2 : ∀ g, (Value.slice A kk c).ownBlock = some g → g < w.heap.size := fun g e => (ho.lt e).2
  have h2 : Hold 133 (lk6xEnv K wz kk p1 l1 r1 A c) wz a w := ⟨h.size, h.defers, h.world, slots_cons 3 e3 (slots_cons 0 (h.get 0 rfl) (slots_cons 4 (h.get 4 rfl) (slots_cons 998 (h.get 998 rfl) (slots_cons 996 ho (slots_cons 997 hG2 slots_nil)))))⟩
  have hall : ∀ i, i < 0 → RStep (strip lk6Ops) Q (fun i => ((lk6xEs K wz kk p1 l1 r1 A c)[i]?).getD .any) (fun i => (lk6xDs[i]?).getD (1000 + i)) (look (lk6xEnv K wz kk p1 l1 r1 A c)) 133 i := fun i hi => absurd hi (by omega)
  have hall := below_succ hall (lk6x_0 K wz kk p1 l1 r1 A c hG d1)
  have hall := below_succ hall (lk6x_1 K wz kk p1 l1 r1 A c hG d1)
  have hall := below_succ hall (lk6x_2 K wz kk p1 l1 r1 A c hG d1)
  have hall := below_succ hall (lk6x_3 K wz kk p1 l1 r1 A c hG d1)
  have hall := below_succ hall (lk6x_4 K wz kk p1 l1 r1 A c hG d1)
  have hall := below_succ hall (lk6x_5 K wz kk p1 l1 r1 A c hG d1)
  have hall := below_succ hall (lk6x_6 K wz kk p1 l1 r1 A c hG d1)
  have hall := below_succ hall (lk6x_7 K wz kk p1 l1 r1 A c hG d1)
  have hall := below_succ hall (lk6x_8 K wz kk p1 l1 r1 A c hG d1)
  have hall := below_succ hall (lk6x_9 K wz kk p1 l1 r1 A c hG d1)
  refine env_then (m := 10) (n := 12) lk6xDs (lk6xEs K wz kk p1 l1 r1 A c) rfl (by kernel_rfl) (by decide) (by kernel_rfl) (of_decide_eq_true (by kernel_rfl)) (by kernel_rfl) (by kernel_rfl) (fun i_ hi_ => hall i_ hi_) h2 fun a' w' hq => ?_
  have ho' : OwnR wz.heap.size w' A kk c (keyF K kk) := hq.get 996 rfl
  obtain ⟨A2, c2, e28, ha28⟩ := hq.get 28 rfl
  have e19 : a'.eval (.tmp 19) = .slice A kk c := hq.get 19 rfl
  have hs := hq.size
  cases o10 : lk6Ops[10]? with
  | none => exact absurd o10 (by rw [show lk6Ops[10]? = some lk6Ops[10]! by kernel_rfl]; exact Option.some_ne_none _)
  | some o =>
  have hop : (lk6Ops[10]?).map (fun o => (o.op, o.dst, o.guard)) = some (.call { callee := .builtin .append, args := #[.tmp 19, .tmp 28], argTypes := #[22, 22] }, some 29, none) := by kernel_rfl
  rw [o10] at hop
  have hop := Option.some.inj hop
  simp only [Prod.mk.injEq] at hop
  obtain ⟨f1, f2, f3⟩ := hop
  refine wpOps_one o10 f3 (wp_append_terms (.tmp 19) (.tmp 28) f1 ho' e19 (m := 1) (G := .node (3, 0, ⟨#[45]⟩) (.node p1 l1 (.node (1, ((kk : Nat) : Int), ByteArray.empty) .nil .nil)) .nil) e28 ha28 (by omega) fun A' c' w2 ho2 hb2 hk2 => ?_)
  rw [f2]
  cases o11 : lk6Ops[11]? with
  | none => exact absurd o11 (by rw [show lk6Ops[11]? = some lk6Ops[11]! by kernel_rfl]; exact Option.some_ne_none _)
  | some oo =>
  have hop : (lk6Ops[11]?).map (fun o => (o.op, o.dst, o.guard)) = some (.assign (.tmp 29), some 3, none) := by kernel_rfl
  rw [o11] at hop
  have hop := Option.some.inj hop
  simp only [Prod.mk.injEq] at hop
  obtain ⟨g1, g2, g3⟩ := hop
  refine wpOps_one o11 g3 ?_
  obtain ⟨dst, op, ty, pos, after, guard⟩ := oo
  have g1' : op = _ := g1
  have g2' : dst = _ := g2
  subst g1' g2'
  refine wp_assign_op ?_
  have ev : (a'.put (some 29) (.slice A' (kk + 1) c')).eval (.tmp 29) = .slice A' (kk + 1) c' := put_self (by omega)
  rw [ev]
  have hb3 : Below wz.heap.size wz w2 := hq.world.trans hb2
  have hget : ∀ x, x ≠ 29 → x ≠ 3 → ((a'.put (some 29) (.slice A' (kk + 1) c')).put (some 3) (.slice A' (kk + 1) c')).tmps.getD x undef = a'.tmps.getD x undef := fun x h1 h2 => (put_other h2).trans (put_other h1)
  have hF := keyF_next d1
  rw [hF] at ho2
  refine hQ _ _ ⟨put_size.trans (put_size.trans hs), hq.defers, hb3, slots_cons 3 ?_ (slots_cons 0 (by rw [hget 0 (by decide) (by decide)]; exact ⟨(hq.get 0 rfl).1, hb3⟩) (slots_cons 4 (by rw [hget 4 (by decide) (by decide)]; exact hq.get 4 rfl) (slots_cons 998 ⟨(hq.get 998 rfl).1, hb3⟩ (slots_cons 999 (k0 := .tabs) (oldP.to (k := .tabs) (v := undef) ⟨(hq.get 998 rfl).1, hb3⟩) slots_nil))))⟩
  rw [put_self (by rw [put_size]; omega)]
  have hkl2 := keyF_len K (kk + 1) (by omega)
  exact ⟨A', c', by rw [hkl2], by rw [hkl2]; exact ho2⟩
theorem lk0a_region {Q : Exit → Act → World → Prop} (F : Fo)  {w0 : World} {a : Act} {w : World} (h : Hold 133 [(0, .row F), (999, .tabs)] w0 a w)
    (hQ : ∀ a' w', Hold 133 [(0, .row F), (2, .val (.bool false)), (999, .tabs)] w0 a' w' → Q .normal a' w') : (Code.region 0 lk0Ops false).wp Tryd.prog Q a w := by
  refine region_seq (w0 := w) 1 (by kernel_rfl) ?_
  rw [show List.range 1 = [0] from rfl]
  refine env_one (i := 0) (d := 2) (k := .val (.bool false)) (step_assign (by kernel_rfl) (Opd.const _) rfl) (by kernel_rfl) (by decide) h ?_
  clear h
  intro a w h
  exact hQ a w (h.keep [0, 2, 999])
theorem lk1a_region {Q : Exit → Act → World → Prop} (F : Fo)  {w0 : World} {a : Act} {w : World} (h : Hold 133 [(0, .row F), (2, .val (.bool false)), (999, .tabs)] w0 a w)
    (hQ : ∀ a' w', Hold 133 [(0, .row (Tm.takeF F 40)), (2, .val (.bool false)), (999, .tabs)] w0 a' w' → Q .normal a' w') : (Code.region 1 lk1Ops false).wp Tryd.prog Q a w := by
  refine region_seq (w0 := w) 3 (by kernel_rfl) ?_
  rw [show List.range 3 = [0, 1, 2] from rfl]
  refine env_one (i := 0) (d := 11) (k := .row F) (step_move (by kernel_rfl) (Opd.of_base 0 rfl) rfl) (by kernel_rfl) (by decide) h ?_
  clear h
  intro a w h
  refine env_one (i := 1) (d := 12) (k := .row (Tm.takeF F 40)) (step_few (by kernel_rfl) (Opd.of_base 11 rfl) rfl) (by kernel_rfl) (by decide) h ?_
  clear h
  intro a w h
  refine env_one (i := 2) (d := 0) (k := .row (Tm.takeF F 40)) (step_assign (by kernel_rfl) (Opd.of_base 12 rfl) rfl) (by kernel_rfl) (by decide) h ?_
  clear h
  intro a w h
  exact hQ a w (h.keep [0, 2, 999])
theorem lk2a_region {Q : Exit → Act → World → Prop} (K : Fo) (wz : World)  {w0 : World} {a : Act} {w : World} (h : Hold 133 [(0, .sat (oldP (.row K) wz)), (998, .sat (oldP .tabs wz)), (999, .tabs)] w0 a w)
    (hQ : ∀ a' w', Hold 133 [(0, .sat (oldP (.row K) wz)), (3, .val (.slice none 0 0)), (998, .sat (oldP .tabs wz)), (999, .tabs)] w0 a' w' → Q .normal a' w') : (Code.region 2 lk2Ops false).wp Tryd.prog Q a w := by
  refine region_seq (w0 := w) 1 (by kernel_rfl) ?_
  rw [show List.range 1 = [0] from rfl]
  refine env_one (i := 0) (d := 3) (k := .val (.slice none 0 0)) (step_assign (by kernel_rfl) (Opd.const _) rfl) (by kernel_rfl) (by decide) h ?_
  clear h
  intro a w h
  exact hQ a w (h.keep [0, 3, 998, 999])
theorem lk3a_region {Q : Exit → Act → World → Prop} (K : Fo) (wz : World)  {w0 : World} {a : Act} {w : World} (h : Hold 133 [(0, .sat (oldP (.row K) wz)), (998, .sat (oldP .tabs wz)), (999, .tabs), (3, .sat (apP wz.heap.size (keyF K 0)))] w0 a w)
    (hQ : ∀ a' w', Hold 133 [(0, .sat (oldP (.row K) wz)), (3, .sat (apP wz.heap.size (keyF K 0))), (4, .val (.int .i64 0)), (998, .sat (oldP .tabs wz)), (999, .tabs)] w0 a' w' → Q .normal a' w') : (Code.region 3 lk3Ops false).wp Tryd.prog Q a w := by
  refine region_seq (w0 := w) 1 (by kernel_rfl) ?_
  rw [show List.range 1 = [0] from rfl]
  refine env_one (i := 0) (d := 4) (k := .val (.int .i64 0)) (step_assign (by kernel_rfl) (Opd.const _) rfl) (by kernel_rfl) (by decide) h ?_
  clear h
  intro a w h
  exact hQ a w (h.keep [0, 3, 4, 998, 999])
theorem lk4a_region {Q : Exit → Act → World → Prop} (K : Fo) (wz : World) (kk : Nat) (hi : kk < (Tm.len K)) {w0 : World} {a : Act} {w : World} (h : Hold 133 [(4, .val (.int .i64 ((kk : Nat) : Int))), (0, .sat (oldP (.row K) wz)), (3, .sat (apP wz.heap.size (keyF K kk))), (998, .sat (oldP .tabs wz)), (999, .tabs)] w0 a w)
    (hQ : ∀ a' w', Hold 133 [(4, .val (.int .i64 ((kk : Nat) : Int))), (0, .sat (oldP (.row K) wz)), (3, .sat (apP wz.heap.size (keyF K kk))), (16, .val (.bool true)), (998, .sat (oldP .tabs wz)), (999, .tabs)] w0 a' w' → Q .normal a' w') : (Code.region 4 lk4Ops false).wp Tryd.prog Q a w := by
  refine region_seq (w0 := w) 4 (by kernel_rfl) ?_
  rw [show List.range 4 = [0, 1, 2, 3] from rfl]
  refine env_one (i := 0) (d := 13) (k := .val (.int .i64 ((kk : Nat) : Int))) (step_move (by kernel_rfl) (Opd.of_base 4 rfl) rfl) (by kernel_rfl) (by decide) h ?_
  clear h
  intro a w h
  refine env_one (i := 1) (d := 14) (k := .sat (oldP (.row K) wz)) (step_move (by kernel_rfl) (Opd.of_base 0 rfl) rfl) (by kernel_rfl) (by decide) h ?_
  clear h
  intro a w h
  refine env_one (i := 2) (d := 15) (k := .val (.int .i64 ((Tm.len K : Nat) : Int))) (step_len_row (by kernel_rfl) (Opd.old (Opd.of_base 14 rfl)) rfl) (by kernel_rfl) (by decide) h ?_
  clear h
  intro a w h
  refine env_one (i := 3) (d := 16) (k := .val (.bool true)) (step_lt_int (m := ((kk : Nat) : Int)) (n := ((Tm.len K : Nat) : Int)) (by kernel_rfl) (Opd.of_base 13 rfl) (Opd.of_base 15 rfl) (decide_eq_true (by omega)) rfl) (by kernel_rfl) (by decide) h ?_
  clear h
  intro a w h
  exact hQ a w (h.keep [4, 0, 3, 16, 998, 999])
theorem lk5a_region {Q : Exit → Act → World → Prop} (K : Fo) (wz : World) (kk : Nat) (hKn : Tm.len K ≤ 50000) (hi : kk < (Tm.len K)) {w0 : World} {a : Act} {w : World} (h : Hold 133 [(3, .sat (apP wz.heap.size (keyF K (kk + 1)))), (0, .sat (oldP (.row K) wz)), (4, .val (.int .i64 ((kk : Nat) : Int))), (998, .sat (oldP .tabs wz)), (999, .tabs)] w0 a w)
    (hQ : ∀ a' w', Hold 133 [(3, .sat (apP wz.heap.size (keyF K (kk + 1)))), (0, .sat (oldP (.row K) wz)), (4, .val (.int .i64 ((kk + 1 : Nat) : Int))), (998, .sat (oldP .tabs wz)), (999, .tabs)] w0 a' w' → Q .normal a' w') : (Code.region 5 lk5Ops false).wp Tryd.prog Q a w := by
  refine region_seq (w0 := w) 3 (by kernel_rfl) ?_
  rw [show List.range 3 = [0, 1, 2] from rfl]
  refine env_one (i := 0) (d := 17) (k := .val (.int .i64 ((kk : Nat) : Int))) (step_move (by kernel_rfl) (Opd.of_base 4 rfl) rfl) (by kernel_rfl) (by decide) h ?_
  clear h
  intro a w h
  refine env_one (i := 1) (d := 18) (k := .val (.int .i64 ((kk + 1 : Nat) : Int))) (step_add (m := ((kk : Nat) : Int)) (n := 1) (s := ((kk + 1 : Nat) : Int)) (by kernel_rfl) (Opd.of_base 17 rfl) (Opd.const _) (by rw [IntKind.wrap_i64]; omega) rfl) (by kernel_rfl) (by decide) h ?_
  clear h
  intro a w h
  refine env_one (i := 2) (d := 4) (k := .val (.int .i64 ((kk + 1 : Nat) : Int))) (step_assign (by kernel_rfl) (Opd.of_base 18 rfl) rfl) (by kernel_rfl) (by decide) h ?_
  clear h
  intro a w h
  exact hQ a w (h.keep [3, 0, 4, 998, 999])
theorem lk4b_region {Q : Exit → Act → World → Prop} (K : Fo) (wz : World)  {w0 : World} {a : Act} {w : World} (h : Hold 133 [(4, .val (.int .i64 (((Tm.len K) : Nat) : Int))), (0, .sat (oldP (.row K) wz)), (3, .sat (apP wz.heap.size (keyF K (Tm.len K)))), (998, .sat (oldP .tabs wz)), (999, .tabs)] w0 a w)
    (hQ : ∀ a' w', Hold 133 [(4, .val (.int .i64 (((Tm.len K) : Nat) : Int))), (0, .sat (oldP (.row K) wz)), (3, .sat (apP wz.heap.size (keyF K (Tm.len K)))), (16, .val (.bool false)), (998, .sat (oldP .tabs wz)), (999, .tabs)] w0 a' w' → Q .normal a' w') : (Code.region 4 lk4Ops false).wp Tryd.prog Q a w := by
  refine region_seq (w0 := w) 4 (by kernel_rfl) ?_
  rw [show List.range 4 = [0, 1, 2, 3] from rfl]
  refine env_one (i := 0) (d := 13) (k := .val (.int .i64 (((Tm.len K) : Nat) : Int))) (step_move (by kernel_rfl) (Opd.of_base 4 rfl) rfl) (by kernel_rfl) (by decide) h ?_
  clear h
  intro a w h
  refine env_one (i := 1) (d := 14) (k := .sat (oldP (.row K) wz)) (step_move (by kernel_rfl) (Opd.of_base 0 rfl) rfl) (by kernel_rfl) (by decide) h ?_
  clear h
  intro a w h
  refine env_one (i := 2) (d := 15) (k := .val (.int .i64 ((Tm.len K : Nat) : Int))) (step_len_row (by kernel_rfl) (Opd.old (Opd.of_base 14 rfl)) rfl) (by kernel_rfl) (by decide) h ?_
  clear h
  intro a w h
  refine env_one (i := 3) (d := 16) (k := .val (.bool false)) (step_lt_int (m := (((Tm.len K) : Nat) : Int)) (n := ((Tm.len K : Nat) : Int)) (by kernel_rfl) (Opd.of_base 13 rfl) (Opd.of_base 15 rfl) (decide_eq_false (by omega)) rfl) (by kernel_rfl) (by decide) h ?_
  clear h
  intro a w h
  exact hQ a w (h.keep [4, 0, 3, 16, 998, 999])
theorem lk7a_region {Q : Exit → Act → World → Prop} (K M : Fo) (wz : World) (hMn : Tm.len M ≤ 50000) (hv : Tm.allV M = false) {w0 : World} {a : Act} {w : World} (h : Hold 133 [(3, .row M), (999, .tabs)] w0 a w)
    (hQ : ∀ a' w', Hold 133 [(3, .row M), (32, .val (.bool true)), (999, .tabs)] w0 a' w' → Q .normal a' w') : (Code.region 7 lk7Ops false).wp Tryd.prog Q a w := by
  refine region_seq (w0 := w) 3 (by kernel_rfl) ?_
  rw [show List.range 3 = [0, 1, 2] from rfl]
  refine env_one (i := 0) (d := 30) (k := .row M) (step_move (by kernel_rfl) (Opd.of_base 3 rfl) rfl) (by kernel_rfl) (by decide) h ?_
  clear h
  intro a w h
  refine env_one (i := 1) (d := 31) (k := .val (.bool false)) (step_lvalid hMn (by kernel_rfl) (Opd.of_base 30 rfl) hv rfl) (by kernel_rfl) (by decide) h ?_
  clear h
  intro a w h
  refine env_one (i := 2) (d := 32) (k := .val (.bool true)) (step_not (by kernel_rfl) (Opd.of_base 31 rfl) rfl) (by kernel_rfl) (by decide) h ?_
  clear h
  intro a w h
  exact hQ a w (h.keep [3, 32, 999])
theorem lk8a_region {Q : Exit → Act → World → Prop} (K M : Fo) (wz : World) (hMn : Tm.len M ≤ 50000) {w0 : World} {a : Act} {w : World} (h : Hold 133 [(3, .row M), (999, .tabs)] w0 a w)
    (hQ : ∀ a' w', Hold 133 [(3, .row M), (6, .val (.int .i64 (keysR M).2)), (999, .tabs)] w0 a' w' → Q .normal a' w') : (Code.region 8 lk8Ops false).wp Tryd.prog Q a w := by
  refine region_seq (w0 := w) 7 (by kernel_rfl) ?_
  rw [show List.range 7 = [0, 1, 2, 3, 4, 5, 6] from rfl]
  refine env_one (i := 0) (d := 34) (k := .row M) (step_move (by kernel_rfl) (Opd.of_base 3 rfl) rfl) (by kernel_rfl) (by decide) h ?_
  clear h
  intro a w h
  refine env_one (i := 1) (d := 35) (k := .rowErr (keysR M).1 (keysR M).2) (step_okeys hMn 999 (by kernel_rfl) (Opd.of_base 34 rfl) (Opd.of_base 999 rfl) rfl) (by kernel_rfl) (by decide) h ?_
  clear h
  intro a w h
  refine env_one (i := 2) (d := 33) (k := .rowErr (keysR M).1 (keysR M).2) (step_move (by kernel_rfl) (Opd.of_base 35 rfl) rfl) (by kernel_rfl) (by decide) h ?_
  clear h
  intro a w h
  refine env_one (i := 3) (d := 36) (k := .row (keysR M).1) (step_rowErr0 (by kernel_rfl) (Opd.of_base 33 rfl) rfl) (by kernel_rfl) (by decide) h ?_
  clear h
  intro a w h
  refine env_one (i := 4) (d := 37) (k := .val (.int .i64 (keysR M).2)) (step_rowErr1 (by kernel_rfl) (Opd.of_base 33 rfl) rfl) (by kernel_rfl) (by decide) h ?_
  clear h
  intro a w h
  refine env_one (i := 5) (d := 5) (k := .row (keysR M).1) (step_assign (by kernel_rfl) (Opd.of_base 36 rfl) rfl) (by kernel_rfl) (by decide) h ?_
  clear h
  intro a w h
  refine env_one (i := 6) (d := 6) (k := .val (.int .i64 (keysR M).2)) (step_assign (by kernel_rfl) (Opd.of_base 37 rfl) rfl) (by kernel_rfl) (by decide) h ?_
  clear h
  intro a w h
  exact hQ a w (h.keep [3, 6, 999])
theorem lk9a_region {Q : Exit → Act → World → Prop} (K M : Fo) (wz : World)  {w0 : World} {a : Act} {w : World} (h : Hold 133 [(3, .row M), (6, .val (.int .i64 1)), (999, .tabs)] w0 a w)
    (hQ : ∀ a' w', Hold 133 [(3, .row M), (2, .val (.bool true)), (999, .tabs)] w0 a' w' → Q .normal a' w') : (Code.region 9 lk9Ops false).wp Tryd.prog Q a w := by
  refine region_seq (w0 := w) 6 (by kernel_rfl) ?_
  rw [show List.range 6 = [0, 1, 2, 3, 4, 5] from rfl]
  refine env_one (i := 0) (d := 38) (k := .val (.int .i64 1)) (step_move (by kernel_rfl) (Opd.of_base 6 rfl) rfl) (by kernel_rfl) (by decide) h ?_
  clear h
  intro a w h
  refine env_one (i := 1) (d := 39) (k := .val (.bool true)) (step_eqs_err (by kernel_rfl) (Opd.of_base 38 rfl) (Opd.const _) rfl) (by kernel_rfl) (by decide) h ?_
  clear h
  intro a w h
  refine env_one (i := 2) (d := 40) (k := .val (.bool true)) (step_move (by kernel_rfl) (Opd.of_base 39 rfl) rfl) (by kernel_rfl) (by decide) h ?_
  clear h
  intro a w h
  refine env_guard (i := 3) (d := 41) (g := 2) (dg := 40) (b := true) (k := .val (.bool true)) (step_awake 999 (by kernel_rfl) (Opd.of_base 999 rfl) rfl) (by kernel_rfl) (by decide) (by kernel_rfl) (by decide) rfl h ?_
  clear h
  intro a w h
  refine env_one (i := 4) (d := 42) (k := .val (.bool true)) (step_pick_yes (y := .const (.bool false)) (by kernel_rfl) (Opd.of_base 40 rfl) (Opd.of_base 41 rfl) rfl) (by kernel_rfl) (by decide) h ?_
  clear h
  intro a w h
  refine env_one (i := 5) (d := 2) (k := .val (.bool true)) (step_assign (by kernel_rfl) (Opd.of_base 42 rfl) rfl) (by kernel_rfl) (by decide) h ?_
  clear h
  intro a w h
  exact hQ a w (h.keep [3, 2, 999])
theorem lk7b_region {Q : Exit → Act → World → Prop} (K M : Fo) (wz : World) (hMn : Tm.len M ≤ 50000) (hv : Tm.allV M = true) {w0 : World} {a : Act} {w : World} (h : Hold 133 [(3, .row M), (999, .tabs)] w0 a w)
    (hQ : ∀ a' w', Hold 133 [(3, .row M), (32, .val (.bool false)), (999, .tabs)] w0 a' w' → Q .normal a' w') : (Code.region 7 lk7Ops false).wp Tryd.prog Q a w := by
  refine region_seq (w0 := w) 3 (by kernel_rfl) ?_
  rw [show List.range 3 = [0, 1, 2] from rfl]
  refine env_one (i := 0) (d := 30) (k := .row M) (step_move (by kernel_rfl) (Opd.of_base 3 rfl) rfl) (by kernel_rfl) (by decide) h ?_
  clear h
  intro a w h
  refine env_one (i := 1) (d := 31) (k := .val (.bool true)) (step_lvalid hMn (by kernel_rfl) (Opd.of_base 30 rfl) hv rfl) (by kernel_rfl) (by decide) h ?_
  clear h
  intro a w h
  refine env_one (i := 2) (d := 32) (k := .val (.bool false)) (step_not (by kernel_rfl) (Opd.of_base 31 rfl) rfl) (by kernel_rfl) (by decide) h ?_
  clear h
  intro a w h
  exact hQ a w (h.keep [3, 32, 999])
theorem lk10a_region {Q : Exit → Act → World → Prop} (K M : Fo) (wz : World) (hMn : Tm.len M ≤ 50000) {w0 : World} {a : Act} {w : World} (h : Hold 133 [(3, .row M), (999, .tabs)] w0 a w)
    (hQ : ∀ a' w', Hold 133 [(3, .row M), (7, .row (keysR M).1), (8, .val (.int .i64 (keysR M).2)), (999, .tabs)] w0 a' w' → Q .normal a' w') : (Code.region 10 lk10Ops false).wp Tryd.prog Q a w := by
  refine region_seq (w0 := w) 7 (by kernel_rfl) ?_
  rw [show List.range 7 = [0, 1, 2, 3, 4, 5, 6] from rfl]
  refine env_one (i := 0) (d := 44) (k := .row M) (step_move (by kernel_rfl) (Opd.of_base 3 rfl) rfl) (by kernel_rfl) (by decide) h ?_
  clear h
  intro a w h
  refine env_one (i := 1) (d := 45) (k := .rowErr (keysR M).1 (keysR M).2) (step_okeys hMn 999 (by kernel_rfl) (Opd.of_base 44 rfl) (Opd.of_base 999 rfl) rfl) (by kernel_rfl) (by decide) h ?_
  clear h
  intro a w h
  refine env_one (i := 2) (d := 43) (k := .rowErr (keysR M).1 (keysR M).2) (step_move (by kernel_rfl) (Opd.of_base 45 rfl) rfl) (by kernel_rfl) (by decide) h ?_
  clear h
  intro a w h
  refine env_one (i := 3) (d := 46) (k := .row (keysR M).1) (step_rowErr0 (by kernel_rfl) (Opd.of_base 43 rfl) rfl) (by kernel_rfl) (by decide) h ?_
  clear h
  intro a w h
  refine env_one (i := 4) (d := 47) (k := .val (.int .i64 (keysR M).2)) (step_rowErr1 (by kernel_rfl) (Opd.of_base 43 rfl) rfl) (by kernel_rfl) (by decide) h ?_
  clear h
  intro a w h
  refine env_one (i := 5) (d := 7) (k := .row (keysR M).1) (step_assign (by kernel_rfl) (Opd.of_base 46 rfl) rfl) (by kernel_rfl) (by decide) h ?_
  clear h
  intro a w h
  refine env_one (i := 6) (d := 8) (k := .val (.int .i64 (keysR M).2)) (step_assign (by kernel_rfl) (Opd.of_base 47 rfl) rfl) (by kernel_rfl) (by decide) h ?_
  clear h
  intro a w h
  exact hQ a w (h.keep [3, 7, 8, 999])
theorem lk11a_region {Q : Exit → Act → World → Prop} (M R : Fo) (hRl : Tm.len R = Tm.len M) {w0 : World} {a : Act} {w : World} (h : Hold 133 [(3, .row M), (7, .row R), (8, .val (.int .i64 0)), (999, .tabs)] w0 a w)
    (hQ : ∀ a' w', Hold 133 [(3, .row M), (7, .row R), (56, .val (.bool false)), (999, .tabs)] w0 a' w' → Q .normal a' w') : (Code.region 11 lk11Ops false).wp Tryd.prog Q a w := by
  refine region_seq (w0 := w) 9 (by kernel_rfl) ?_
  rw [show List.range 9 = [0, 1, 2, 3, 4, 5, 6, 7, 8] from rfl]
  refine env_one (i := 0) (d := 48) (k := .val (.int .i64 0)) (step_move (by kernel_rfl) (Opd.of_base 8 rfl) rfl) (by kernel_rfl) (by decide) h ?_
  clear h
  intro a w h
  refine env_one (i := 1) (d := 49) (k := .val (.bool false)) (step_ne_err (m := 0) (n := 0) (by kernel_rfl) (Opd.of_base 48 rfl) (Opd.const _) (by rfl) rfl) (by kernel_rfl) (by decide) h ?_
  clear h
  intro a w h
  refine env_one (i := 2) (d := 50) (k := .val (.bool false)) (step_move (by kernel_rfl) (Opd.of_base 49 rfl) rfl) (by kernel_rfl) (by decide) h ?_
  clear h
  intro a w h
  refine env_guard (i := 3) (d := 51) (g := 2) (dg := 50) (b := false) (k := .row R) (step_move (by kernel_rfl) (Opd.of_base 7 rfl) rfl) (by kernel_rfl) (by decide) (by kernel_rfl) (by decide) rfl h ?_
  clear h
  intro a w h
  refine env_guard (i := 4) (d := 52) (g := 2) (dg := 50) (b := false) (k := .val (.int .i64 ((Tm.len R : Nat) : Int))) (step_len_row (by kernel_rfl) (Opd.of_base 51 rfl) rfl) (by kernel_rfl) (by decide) (by kernel_rfl) (by decide) rfl h ?_
  clear h
  intro a w h
  refine env_guard (i := 5) (d := 53) (g := 2) (dg := 50) (b := false) (k := .row M) (step_move (by kernel_rfl) (Opd.of_base 3 rfl) rfl) (by kernel_rfl) (by decide) (by kernel_rfl) (by decide) rfl h ?_
  clear h
  intro a w h
  refine env_guard (i := 6) (d := 54) (g := 2) (dg := 50) (b := false) (k := .val (.int .i64 ((Tm.len M : Nat) : Int))) (step_len_row (by kernel_rfl) (Opd.of_base 53 rfl) rfl) (by kernel_rfl) (by decide) (by kernel_rfl) (by decide) rfl h ?_
  clear h
  intro a w h
  refine env_guard (i := 7) (d := 55) (g := 2) (dg := 50) (b := false) (k := .val (.bool false)) (step_ne_int (m := ((Tm.len R : Nat) : Int)) (n := ((Tm.len M : Nat) : Int)) (by kernel_rfl) (Opd.of_base 52 rfl) (Opd.of_base 54 rfl) (by rw [hRl]; simp) rfl) (by kernel_rfl) (by decide) (by kernel_rfl) (by decide) rfl h ?_
  clear h
  intro a w h
  refine env_one (i := 8) (d := 56) (k := .val (.bool false)) (step_pick_no (x := .const (.bool true)) (by kernel_rfl) (Opd.of_base 50 rfl) (Opd.of_base 55 rfl) rfl) (by kernel_rfl) (by decide) h ?_
  clear h
  intro a w h
  exact hQ a w (h.keep [3, 7, 56, 999])
theorem lk13a_region {Q : Exit → Act → World → Prop} (M R : Fo)  {w0 : World} {a : Act} {w : World} (h : Hold 133 [(3, .row M), (7, .row R), (999, .tabs)] w0 a w)
    (hQ : ∀ a' w', Hold 133 [(3, .row M), (7, .row R), (9, .val (.int .i64 0)), (999, .tabs)] w0 a' w' → Q .normal a' w') : (Code.region 13 lk13Ops false).wp Tryd.prog Q a w := by
  refine region_seq (w0 := w) 1 (by kernel_rfl) ?_
  rw [show List.range 1 = [0] from rfl]
  refine env_one (i := 0) (d := 9) (k := .val (.int .i64 0)) (step_assign (by kernel_rfl) (Opd.const _) rfl) (by kernel_rfl) (by decide) h ?_
  clear h
  intro a w h
  exact hQ a w (h.keep [3, 7, 9, 999])
theorem lk14a_region {Q : Exit → Act → World → Prop} (M R : Fo) (kk : Nat) (hi : kk < (Tm.len R)) {w0 : World} {a : Act} {w : World} (h : Hold 133 [(9, .val (.int .i64 ((kk : Nat) : Int))), (7, .row R), (3, .row M), (999, .tabs)] w0 a w)
    (hQ : ∀ a' w', Hold 133 [(9, .val (.int .i64 ((kk : Nat) : Int))), (7, .row R), (3, .row M), (60, .val (.bool true)), (999, .tabs)] w0 a' w' → Q .normal a' w') : (Code.region 14 lk14Ops false).wp Tryd.prog Q a w := by
  refine region_seq (w0 := w) 4 (by kernel_rfl) ?_
  rw [show List.range 4 = [0, 1, 2, 3] from rfl]
  refine env_one (i := 0) (d := 57) (k := .val (.int .i64 ((kk : Nat) : Int))) (step_move (by kernel_rfl) (Opd.of_base 9 rfl) rfl) (by kernel_rfl) (by decide) h ?_
  clear h
  intro a w h
  refine env_one (i := 1) (d := 58) (k := .row R) (step_move (by kernel_rfl) (Opd.of_base 7 rfl) rfl) (by kernel_rfl) (by decide) h ?_
  clear h
  intro a w h
  refine env_one (i := 2) (d := 59) (k := .val (.int .i64 ((Tm.len R : Nat) : Int))) (step_len_row (by kernel_rfl) (Opd.of_base 58 rfl) rfl) (by kernel_rfl) (by decide) h ?_
  clear h
  intro a w h
  refine env_one (i := 3) (d := 60) (k := .val (.bool true)) (step_lt_int (m := ((kk : Nat) : Int)) (n := ((Tm.len R : Nat) : Int)) (by kernel_rfl) (Opd.of_base 57 rfl) (Opd.of_base 59 rfl) (decide_eq_true (by omega)) rfl) (by kernel_rfl) (by decide) h ?_
  clear h
  intro a w h
  exact hQ a w (h.keep [9, 7, 3, 60, 999])
theorem lk16a_region {Q : Exit → Act → World → Prop} (M R : Fo) (kk : Nat) (p1 : Pay) (l1 r1 : Fo) (hMn : Tm.len M ≤ 50000) (hRn : Tm.len R ≤ 50000) (d1 : Tm.dropF R kk = .node p1 l1 r1) (hl2 : Tm.len l1 = 2) (hc1 : Tm.countF R p1 l1 = 1) (hc2 : Tm.countF M p1 l1 = 1) {w0 : World} {a : Act} {w : World} (h : Hold 133 [(9, .val (.int .i64 ((kk : Nat) : Int))), (7, .row R), (3, .row M), (999, .tabs)] w0 a w)
    (hQ : ∀ a' w', Hold 133 [(9, .val (.int .i64 ((kk : Nat) : Int))), (7, .row R), (3, .row M), (87, .val (.bool false)), (999, .tabs)] w0 a' w' → Q .normal a' w') : (Code.region 16 lk16Ops false).wp Tryd.prog Q a w := by
  refine region_seq (w0 := w) 25 (by kernel_rfl) ?_
  rw [show List.range 25 = [0, 1, 2, 3, 4, 5, 6, 7, 8, 9, 10, 11, 12, 13, 14, 15, 16, 17, 18, 19, 20, 21, 22, 23, 24] from rfl]
  refine env_one (i := 0) (d := 63) (k := .row R) (step_move (by kernel_rfl) (Opd.of_base 7 rfl) rfl) (by kernel_rfl) (by decide) h ?_
  clear h
  intro a w h
  refine env_one (i := 1) (d := 64) (k := .val (.int .i64 ((kk : Nat) : Int))) (step_move (by kernel_rfl) (Opd.of_base 9 rfl) rfl) (by kernel_rfl) (by decide) h ?_
  clear h
  intro a w h
  refine env_one (i := 2) (d := 65) (k := .ptrT p1 l1) (step_row_at (k := kk) (r := r1) (by kernel_rfl) (Opd.of_base 63 rfl) (Opd.of_base 64 rfl) d1 rfl) (by kernel_rfl) (by decide) h ?_
  clear h
  intro a w h
  refine env_one (i := 3) (d := 66) (k := .ptrR l1) (step_field3 (by kernel_rfl) (Opd.of_base 65 rfl) rfl) (by kernel_rfl) (by decide) h ?_
  clear h
  intro a w h
  refine env_one (i := 4) (d := 67) (k := .row l1) (step_load_row (by kernel_rfl) (Opd.of_base 66 rfl) rfl) (by kernel_rfl) (by decide) h ?_
  clear h
  intro a w h
  refine env_one (i := 5) (d := 68) (k := .val (.int .i64 ((Tm.len l1 : Nat) : Int))) (step_len_row (by kernel_rfl) (Opd.of_base 67 rfl) rfl) (by kernel_rfl) (by decide) h ?_
  clear h
  intro a w h
  refine env_one (i := 6) (d := 69) (k := .val (.bool false)) (step_ne_int (m := ((Tm.len l1 : Nat) : Int)) (n := 2) (by kernel_rfl) (Opd.of_base 68 rfl) (Opd.const _) (by rw [hl2]; rfl) rfl) (by kernel_rfl) (by decide) h ?_
  clear h
  intro a w h
  refine env_one (i := 7) (d := 70) (k := .val (.bool false)) (step_move (by kernel_rfl) (Opd.of_base 69 rfl) rfl) (by kernel_rfl) (by decide) h ?_
  clear h
  intro a w h
  refine env_guard (i := 8) (d := 71) (g := 7) (dg := 70) (b := false) (k := .row R) (step_move (by kernel_rfl) (Opd.of_base 7 rfl) rfl) (by kernel_rfl) (by decide) (by kernel_rfl) (by decide) rfl h ?_
  clear h
  intro a w h
  refine env_guard (i := 9) (d := 72) (g := 7) (dg := 70) (b := false) (k := .row R) (step_move (by kernel_rfl) (Opd.of_base 7 rfl) rfl) (by kernel_rfl) (by decide) (by kernel_rfl) (by decide) rfl h ?_
  clear h
  intro a w h
  refine env_guard (i := 10) (d := 73) (g := 7) (dg := 70) (b := false) (k := .val (.int .i64 ((kk : Nat) : Int))) (step_move (by kernel_rfl) (Opd.of_base 9 rfl) rfl) (by kernel_rfl) (by decide) (by kernel_rfl) (by decide) rfl h ?_
  clear h
  intro a w h
  refine env_guard (i := 11) (d := 74) (g := 7) (dg := 70) (b := false) (k := .ptrT p1 l1) (step_row_at (k := kk) (r := r1) (by kernel_rfl) (Opd.of_base 72 rfl) (Opd.of_base 73 rfl) d1 rfl) (by kernel_rfl) (by decide) (by kernel_rfl) (by decide) rfl h ?_
  clear h
  intro a w h
  refine env_guard (i := 12) (d := 75) (g := 7) (dg := 70) (b := false) (k := .term p1 l1) (step_load_term (by kernel_rfl) (Opd.of_base 74 rfl) rfl) (by kernel_rfl) (by decide) (by kernel_rfl) (by decide) rfl h ?_
  clear h
  intro a w h
  refine env_guard (i := 13) (d := 76) (g := 7) (dg := 70) (b := false) (k := .val (.int .i64 ((Tm.countF R p1 l1 : Nat) : Int))) (step_count hRn (by kernel_rfl) (Opd.of_base 71 rfl) (Opd.of_base 75 rfl) rfl) (by kernel_rfl) (by decide) (by kernel_rfl) (by decide) rfl h ?_
  clear h
  intro a w h
  refine env_guard (i := 14) (d := 77) (g := 7) (dg := 70) (b := false) (k := .val (.bool false)) (step_ne_int (m := ((Tm.countF R p1 l1 : Nat) : Int)) (n := 1) (by kernel_rfl) (Opd.of_base 76 rfl) (Opd.const _) (by rw [hc1]; rfl) rfl) (by kernel_rfl) (by decide) (by kernel_rfl) (by decide) rfl h ?_
  clear h
  intro a w h
  refine env_one (i := 15) (d := 78) (k := .val (.bool false)) (step_pick_no (x := .const (.bool true)) (by kernel_rfl) (Opd.of_base 70 rfl) (Opd.of_base 77 rfl) rfl) (by kernel_rfl) (by decide) h ?_
  clear h
  intro a w h
  refine env_one (i := 16) (d := 79) (k := .val (.bool false)) (step_move (by kernel_rfl) (Opd.of_base 78 rfl) rfl) (by kernel_rfl) (by decide) h ?_
  clear h
  intro a w h
  refine env_guard (i := 17) (d := 80) (g := 16) (dg := 79) (b := false) (k := .row M) (step_move (by kernel_rfl) (Opd.of_base 3 rfl) rfl) (by kernel_rfl) (by decide) (by kernel_rfl) (by decide) rfl h ?_
  clear h
  intro a w h
  refine env_guard (i := 18) (d := 81) (g := 16) (dg := 79) (b := false) (k := .row R) (step_move (by kernel_rfl) (Opd.of_base 7 rfl) rfl) (by kernel_rfl) (by decide) (by kernel_rfl) (by decide) rfl h ?_
  clear h
  intro a w h
  refine env_guard (i := 19) (d := 82) (g := 16) (dg := 79) (b := false) (k := .val (.int .i64 ((kk : Nat) : Int))) (step_move (by kernel_rfl) (Opd.of_base 9 rfl) rfl) (by kernel_rfl) (by decide) (by kernel_rfl) (by decide) rfl h ?_
  clear h
  intro a w h
  refine env_guard (i := 20) (d := 83) (g := 16) (dg := 79) (b := false) (k := .ptrT p1 l1) (step_row_at (k := kk) (r := r1) (by kernel_rfl) (Opd.of_base 81 rfl) (Opd.of_base 82 rfl) d1 rfl) (by kernel_rfl) (by decide) (by kernel_rfl) (by decide) rfl h ?_
  clear h
  intro a w h
  refine env_guard (i := 21) (d := 84) (g := 16) (dg := 79) (b := false) (k := .term p1 l1) (step_load_term (by kernel_rfl) (Opd.of_base 83 rfl) rfl) (by kernel_rfl) (by decide) (by kernel_rfl) (by decide) rfl h ?_
  clear h
  intro a w h
  refine env_guard (i := 22) (d := 85) (g := 16) (dg := 79) (b := false) (k := .val (.int .i64 ((Tm.countF M p1 l1 : Nat) : Int))) (step_count hMn (by kernel_rfl) (Opd.of_base 80 rfl) (Opd.of_base 84 rfl) rfl) (by kernel_rfl) (by decide) (by kernel_rfl) (by decide) rfl h ?_
  clear h
  intro a w h
  refine env_guard (i := 23) (d := 86) (g := 16) (dg := 79) (b := false) (k := .val (.bool false)) (step_ne_int (m := ((Tm.countF M p1 l1 : Nat) : Int)) (n := 1) (by kernel_rfl) (Opd.of_base 85 rfl) (Opd.const _) (by rw [hc2]; rfl) rfl) (by kernel_rfl) (by decide) (by kernel_rfl) (by decide) rfl h ?_
  clear h
  intro a w h
  refine env_one (i := 24) (d := 87) (k := .val (.bool false)) (step_pick_no (x := .const (.bool true)) (by kernel_rfl) (Opd.of_base 79 rfl) (Opd.of_base 86 rfl) rfl) (by kernel_rfl) (by decide) h ?_
  clear h
  intro a w h
  exact hQ a w (h.keep [9, 7, 3, 87, 999])
theorem lk18a_region {Q : Exit → Act → World → Prop} (M R : Fo) (kk : Nat) (h0 : kk = 0) {w0 : World} {a : Act} {w : World} (h : Hold 133 [(9, .val (.int .i64 ((kk : Nat) : Int))), (7, .row R), (3, .row M), (999, .tabs)] w0 a w)
    (hQ : ∀ a' w', Hold 133 [(9, .val (.int .i64 ((kk : Nat) : Int))), (7, .row R), (3, .row M), (89, .val (.bool true)), (999, .tabs)] w0 a' w' → Q .normal a' w') : (Code.region 18 lk18Ops false).wp Tryd.prog Q a w := by
  refine region_seq (w0 := w) 2 (by kernel_rfl) ?_
  rw [show List.range 2 = [0, 1] from rfl]
  refine env_one (i := 0) (d := 88) (k := .val (.int .i64 ((kk : Nat) : Int))) (step_move (by kernel_rfl) (Opd.of_base 9 rfl) rfl) (by kernel_rfl) (by decide) h ?_
  clear h
  intro a w h
  refine env_one (i := 1) (d := 89) (k := .val (.bool true)) (step_eqb_int (m := ((kk : Nat) : Int)) (n := 0) (by kernel_rfl) (Opd.of_base 88 rfl) (Opd.const _) (by rw [h0]; rfl) rfl) (by kernel_rfl) (by decide) h ?_
  clear h
  intro a w h
  exact hQ a w (h.keep [9, 7, 3, 89, 999])
theorem lk15a_region {Q : Exit → Act → World → Prop} (M R : Fo) (kk : Nat) (hRn : Tm.len R ≤ 50000) (hi : kk < (Tm.len R)) {w0 : World} {a : Act} {w : World} (h : Hold 133 [(9, .val (.int .i64 ((kk : Nat) : Int))), (7, .row R), (3, .row M), (999, .tabs)] w0 a w)
    (hQ : ∀ a' w', Hold 133 [(9, .val (.int .i64 ((kk + 1 : Nat) : Int))), (7, .row R), (3, .row M), (999, .tabs)] w0 a' w' → Q .normal a' w') : (Code.region 15 lk15Ops false).wp Tryd.prog Q a w := by
  refine region_seq (w0 := w) 3 (by kernel_rfl) ?_
  rw [show List.range 3 = [0, 1, 2] from rfl]
  refine env_one (i := 0) (d := 61) (k := .val (.int .i64 ((kk : Nat) : Int))) (step_move (by kernel_rfl) (Opd.of_base 9 rfl) rfl) (by kernel_rfl) (by decide) h ?_
  clear h
  intro a w h
  refine env_one (i := 1) (d := 62) (k := .val (.int .i64 ((kk + 1 : Nat) : Int))) (step_add (m := ((kk : Nat) : Int)) (n := 1) (s := ((kk + 1 : Nat) : Int)) (by kernel_rfl) (Opd.of_base 61 rfl) (Opd.const _) (by rw [IntKind.wrap_i64]; omega) rfl) (by kernel_rfl) (by decide) h ?_
  clear h
  intro a w h
  refine env_one (i := 2) (d := 9) (k := .val (.int .i64 ((kk + 1 : Nat) : Int))) (step_assign (by kernel_rfl) (Opd.of_base 62 rfl) rfl) (by kernel_rfl) (by decide) h ?_
  clear h
  intro a w h
  exact hQ a w (h.keep [9, 7, 3, 999])
theorem lk18b_region {Q : Exit → Act → World → Prop} (M R : Fo) (kk : Nat) (j : Nat)  {w0 : World} {a : Act} {w : World} (h : Hold 133 [(9, .val (.int .i64 (((j + 1) : Nat) : Int))), (7, .row R), (3, .row M), (999, .tabs)] w0 a w)
    (hQ : ∀ a' w', Hold 133 [(9, .val (.int .i64 (((j + 1) : Nat) : Int))), (7, .row R), (3, .row M), (89, .val (.bool false)), (999, .tabs)] w0 a' w' → Q .normal a' w') : (Code.region 18 lk18Ops false).wp Tryd.prog Q a w := by
  refine region_seq (w0 := w) 2 (by kernel_rfl) ?_
  rw [show List.range 2 = [0, 1] from rfl]
  refine env_one (i := 0) (d := 88) (k := .val (.int .i64 (((j + 1) : Nat) : Int))) (step_move (by kernel_rfl) (Opd.of_base 9 rfl) rfl) (by kernel_rfl) (by decide) h ?_
  clear h
  intro a w h
  refine env_one (i := 1) (d := 89) (k := .val (.bool false)) (step_eqb_int (m := (((j + 1) : Nat) : Int)) (n := 0) (by kernel_rfl) (Opd.of_base 88 rfl) (Opd.const _) (by rw [beq_eq_false_iff_ne]; omega) rfl) (by kernel_rfl) (by decide) h ?_
  clear h
  intro a w h
  exact hQ a w (h.keep [9, 7, 3, 89, 999])
def lk19aEs (M R : Fo) (kk : Nat) (j : Nat) (p1 : Pay) (l1 r1 : Fo) (p2 : Pay) (l2 r2 : Fo) (kp1 : Pay) (kl1 kr1 : Fo) (kp2 : Pay) (kl2 kr2 : Fo) (np1 : Pay) (nl1 nr1 : Fo) (np2 : Pay) (nl2 nr2 : Fo) : List Kd := [
  .row R,
  .val (.int .i64 (((j + 1) : Nat) : Int)),
  .val (.int .i64 ((((j + 1)) - 1 : Nat) : Int)),
  .ptrT p1 l1,
  .ptrR l1,
  .row l1,
  .ptrT kp1 kl1,
  .term kp1 kl1,
  .row R,
  .val (.int .i64 (((j + 1) : Nat) : Int)),
  .ptrT p2 l2,
  .ptrR l2,
  .row l2,
  .ptrT kp2 kl2,
  .term kp2 kl2,
  .val (.int .i64 (Tm.cmpV kp1 kl1 kp2 kl2)),
  .val (.int .i64 (Tm.cmpV kp1 kl1 kp2 kl2))]
def lk19aDs : List Nat := [90, 91, 92, 93, 94, 95, 96, 97, 98, 99, 100, 101, 102, 103, 104, 105, 10]
def lk19aEnv (M R : Fo) (kk : Nat) (j : Nat) (p1 : Pay) (l1 r1 : Fo) (p2 : Pay) (l2 r2 : Fo) (kp1 : Pay) (kl1 kr1 : Fo) (kp2 : Pay) (kl2 kr2 : Fo) (np1 : Pay) (nl1 nr1 : Fo) (np2 : Pay) (nl2 nr2 : Fo) : Env := [(9, .val (.int .i64 (((j + 1) : Nat) : Int))), (7, .row R), (3, .row M), (999, .tabs)]
theorem lk19a_0 {Q : Exit → Act → World → Prop} (M R : Fo) (kk : Nat) (j : Nat) (p1 : Pay) (l1 r1 : Fo) (p2 : Pay) (l2 r2 : Fo) (kp1 : Pay) (kl1 kr1 : Fo) (kp2 : Pay) (kl2 kr2 : Fo) (np1 : Pay) (nl1 nr1 : Fo) (np2 : Pay) (nl2 nr2 : Fo) (hRn : Tm.len R ≤ 50000) (hj : j + 1 < Tm.len R) (d1 : Tm.dropF R ((j + 1) - 1) = .node p1 l1 r1) (d2 : Tm.dropF R (j + 1) = .node p2 l2 r2) (e1 : Tm.dropF l1 0 = .node kp1 kl1 kr1) (e2 : Tm.dropF l2 0 = .node kp2 kl2 kr2) : RStep (strip lk19Ops) Q (fun i => ((lk19aEs M R (j + 1) j p1 l1 r1 p2 l2 r2 kp1 kl1 kr1 kp2 kl2 kr2 np1 nl1 nr1 np2 nl2 nr2)[i]?).getD .any) (fun i => (lk19aDs[i]?).getD (1000 + i)) (look (lk19aEnv M R (j + 1) j p1 l1 r1 p2 l2 r2 kp1 kl1 kr1 kp2 kl2 kr2 np1 nl1 nr1 np2 nl2 nr2)) 133 0 := fun _ => step_move (by kernel_rfl) (Opd.of_base 7 rfl) rfl
theorem lk19a_1 {Q : Exit → Act → World → Prop} (M R : Fo) (kk : Nat) (j : Nat) (p1 : Pay) (l1 r1 : Fo) (p2 : Pay) (l2 r2 : Fo) (kp1 : Pay) (kl1 kr1 : Fo) (kp2 : Pay) (kl2 kr2 : Fo) (np1 : Pay) (nl1 nr1 : Fo) (np2 : Pay) (nl2 nr2 : Fo) (hRn : Tm.len R ≤ 50000) (hj : j + 1 < Tm.len R) (d1 : Tm.dropF R ((j + 1) - 1) = .node p1 l1 r1) (d2 : Tm.dropF R (j + 1) = .node p2 l2 r2) (e1 : Tm.dropF l1 0 = .node kp1 kl1 kr1) (e2 : Tm.dropF l2 0 = .node kp2 kl2 kr2) : RStep (strip lk19Ops) Q (fun i => ((lk19aEs M R (j + 1) j p1 l1 r1 p2 l2 r2 kp1 kl1 kr1 kp2 kl2 kr2 np1 nl1 nr1 np2 nl2 nr2)[i]?).getD .any) (fun i => (lk19aDs[i]?).getD (1000 + i)) (look (lk19aEnv M R (j + 1) j p1 l1 r1 p2 l2 r2 kp1 kl1 kr1 kp2 kl2 kr2 np1 nl1 nr1 np2 nl2 nr2)) 133 1 := fun _ => step_move (by kernel_rfl) (Opd.of_base 9 rfl) rfl
theorem lk19a_2 {Q : Exit → Act → World → Prop} (M R : Fo) (kk : Nat) (j : Nat) (p1 : Pay) (l1 r1 : Fo) (p2 : Pay) (l2 r2 : Fo) (kp1 : Pay) (kl1 kr1 : Fo) (kp2 : Pay) (kl2 kr2 : Fo) (np1 : Pay) (nl1 nr1 : Fo) (np2 : Pay) (nl2 nr2 : Fo) (hRn : Tm.len R ≤ 50000) (hj : j + 1 < Tm.len R) (d1 : Tm.dropF R ((j + 1) - 1) = .node p1 l1 r1) (d2 : Tm.dropF R (j + 1) = .node p2 l2 r2) (e1 : Tm.dropF l1 0 = .node kp1 kl1 kr1) (e2 : Tm.dropF l2 0 = .node kp2 kl2 kr2) : RStep (strip lk19Ops) Q (fun i => ((lk19aEs M R (j + 1) j p1 l1 r1 p2 l2 r2 kp1 kl1 kr1 kp2 kl2 kr2 np1 nl1 nr1 np2 nl2 nr2)[i]?).getD .any) (fun i => (lk19aDs[i]?).getD (1000 + i)) (look (lk19aEnv M R (j + 1) j p1 l1 r1 p2 l2 r2 kp1 kl1 kr1 kp2 kl2 kr2 np1 nl1 nr1 np2 nl2 nr2)) 133 2 := fun _ => step_sub (m := (((j + 1) : Nat) : Int)) (n := 1) (s := ((((j + 1)) - 1 : Nat) : Int)) (by kernel_rfl) (Opd.dep 1 rfl rfl (by kernel_rfl)) (Opd.const _) (by rw [IntKind.wrap_i64]; omega) rfl
theorem lk19a_3 {Q : Exit → Act → World → Prop} (M R : Fo) (kk : Nat) (j : Nat) (p1 : Pay) (l1 r1 : Fo) (p2 : Pay) (l2 r2 : Fo) (kp1 : Pay) (kl1 kr1 : Fo) (kp2 : Pay) (kl2 kr2 : Fo) (np1 : Pay) (nl1 nr1 : Fo) (np2 : Pay) (nl2 nr2 : Fo) (hRn : Tm.len R ≤ 50000) (hj : j + 1 < Tm.len R) (d1 : Tm.dropF R ((j + 1) - 1) = .node p1 l1 r1) (d2 : Tm.dropF R (j + 1) = .node p2 l2 r2) (e1 : Tm.dropF l1 0 = .node kp1 kl1 kr1) (e2 : Tm.dropF l2 0 = .node kp2 kl2 kr2) : RStep (strip lk19Ops) Q (fun i => ((lk19aEs M R (j + 1) j p1 l1 r1 p2 l2 r2 kp1 kl1 kr1 kp2 kl2 kr2 np1 nl1 nr1 np2 nl2 nr2)[i]?).getD .any) (fun i => (lk19aDs[i]?).getD (1000 + i)) (look (lk19aEnv M R (j + 1) j p1 l1 r1 p2 l2 r2 kp1 kl1 kr1 kp2 kl2 kr2 np1 nl1 nr1 np2 nl2 nr2)) 133 3 := fun _ => step_row_at (k := ((j + 1)) - 1) (r := r1) (by kernel_rfl) (Opd.dep 0 rfl rfl (by kernel_rfl)) (Opd.dep 2 rfl rfl (by kernel_rfl)) d1 rfl
theorem lk19a_4 {Q : Exit → Act → World → Prop} (M R : Fo) (kk : Nat) (j : Nat) (p1 : Pay) (l1 r1 : Fo) (p2 : Pay) (l2 r2 : Fo) (kp1 : Pay) (kl1 kr1 : Fo) (kp2 : Pay) (kl2 kr2 : Fo) (np1 : Pay) (nl1 nr1 : Fo) (np2 : Pay) (nl2 nr2 : Fo) (hRn : Tm.len R ≤ 50000) (hj : j + 1 < Tm.len R) (d1 : Tm.dropF R ((j + 1) - 1) = .node p1 l1 r1) (d2 : Tm.dropF R (j + 1) = .node p2 l2 r2) (e1 : Tm.dropF l1 0 = .node kp1 kl1 kr1) (e2 : Tm.dropF l2 0 = .node kp2 kl2 kr2) : RStep (strip lk19Ops) Q (fun i => ((lk19aEs M R (j + 1) j p1 l1 r1 p2 l2 r2 kp1 kl1 kr1 kp2 kl2 kr2 np1 nl1 nr1 np2 nl2 nr2)[i]?).getD .any) (fun i => (lk19aDs[i]?).getD (1000 + i)) (look (lk19aEnv M R (j + 1) j p1 l1 r1 p2 l2 r2 kp1 kl1 kr1 kp2 kl2 kr2 np1 nl1 nr1 np2 nl2 nr2)) 133 4 := fun _ => step_field3 (by kernel_rfl) (Opd.dep 3 rfl rfl (by kernel_rfl)) rfl
theorem lk19a_5 {Q : Exit → Act → World → Prop} (M R : Fo) (kk : Nat) (j : Nat) (p1 : Pay) (l1 r1 : Fo) (p2 : Pay) (l2 r2 : Fo) (kp1 : Pay) (kl1 kr1 : Fo) (kp2 : Pay) (kl2 kr2 : Fo) (np1 : Pay) (nl1 nr1 : Fo) (np2 : Pay) (nl2 nr2 : Fo) (hRn : Tm.len R ≤ 50000) (hj : j + 1 < Tm.len R) (d1 : Tm.dropF R ((j + 1) - 1) = .node p1 l1 r1) (d2 : Tm.dropF R (j + 1) = .node p2 l2 r2) (e1 : Tm.dropF l1 0 = .node kp1 kl1 kr1) (e2 : Tm.dropF l2 0 = .node kp2 kl2 kr2) : RStep (strip lk19Ops) Q (fun i => ((lk19aEs M R (j + 1) j p1 l1 r1 p2 l2 r2 kp1 kl1 kr1 kp2 kl2 kr2 np1 nl1 nr1 np2 nl2 nr2)[i]?).getD .any) (fun i => (lk19aDs[i]?).getD (1000 + i)) (look (lk19aEnv M R (j + 1) j p1 l1 r1 p2 l2 r2 kp1 kl1 kr1 kp2 kl2 kr2 np1 nl1 nr1 np2 nl2 nr2)) 133 5 := fun _ => step_load_row (by kernel_rfl) (Opd.dep 4 rfl rfl (by kernel_rfl)) rfl
theorem lk19a_6 {Q : Exit → Act → World → Prop} (M R : Fo) (kk : Nat) (j : Nat) (p1 : Pay) (l1 r1 : Fo) (p2 : Pay) (l2 r2 : Fo) (kp1 : Pay) (kl1 kr1 : Fo) (kp2 : Pay) (kl2 kr2 : Fo) (np1 : Pay) (nl1 nr1 : Fo) (np2 : Pay) (nl2 nr2 : Fo) (hRn : Tm.len R ≤ 50000) (hj : j + 1 < Tm.len R) (d1 : Tm.dropF R ((j + 1) - 1) = .node p1 l1 r1) (d2 : Tm.dropF R (j + 1) = .node p2 l2 r2) (e1 : Tm.dropF l1 0 = .node kp1 kl1 kr1) (e2 : Tm.dropF l2 0 = .node kp2 kl2 kr2) : RStep (strip lk19Ops) Q (fun i => ((lk19aEs M R (j + 1) j p1 l1 r1 p2 l2 r2 kp1 kl1 kr1 kp2 kl2 kr2 np1 nl1 nr1 np2 nl2 nr2)[i]?).getD .any) (fun i => (lk19aDs[i]?).getD (1000 + i)) (look (lk19aEnv M R (j + 1) j p1 l1 r1 p2 l2 r2 kp1 kl1 kr1 kp2 kl2 kr2 np1 nl1 nr1 np2 nl2 nr2)) 133 6 := fun _ => step_row_at (k := 0) (r := kr1) (by kernel_rfl) (Opd.dep 5 rfl rfl (by kernel_rfl)) (Opd.const _) e1 rfl
theorem lk19a_7 {Q : Exit → Act → World → Prop} (M R : Fo) (kk : Nat) (j : Nat) (p1 : Pay) (l1 r1 : Fo) (p2 : Pay) (l2 r2 : Fo) (kp1 : Pay) (kl1 kr1 : Fo) (kp2 : Pay) (kl2 kr2 : Fo) (np1 : Pay) (nl1 nr1 : Fo) (np2 : Pay) (nl2 nr2 : Fo) (hRn : Tm.len R ≤ 50000) (hj : j + 1 < Tm.len R) (d1 : Tm.dropF R ((j + 1) - 1) = .node p1 l1 r1) (d2 : Tm.dropF R (j + 1) = .node p2 l2 r2) (e1 : Tm.dropF l1 0 = .node kp1 kl1 kr1) (e2 : Tm.dropF l2 0 = .node kp2 kl2 kr2) : RStep (strip lk19Ops) Q (fun i => ((lk19aEs M R (j + 1) j p1 l1 r1 p2 l2 r2 kp1 kl1 kr1 kp2 kl2 kr2 np1 nl1 nr1 np2 nl2 nr2)[i]?).getD .any) (fun i => (lk19aDs[i]?).getD (1000 + i)) (look (lk19aEnv M R (j + 1) j p1 l1 r1 p2 l2 r2 kp1 kl1 kr1 kp2 kl2 kr2 np1 nl1 nr1 np2 nl2 nr2)) 133 7 := fun _ => step_load_term (by kernel_rfl) (Opd.dep 6 rfl rfl (by kernel_rfl)) rfl
theorem lk19a_8 {Q : Exit → Act → World → Prop} (M R : Fo) (kk : Nat) (j : Nat) (p1 : Pay) (l1 r1 : Fo) (p2 : Pay) (l2 r2 : Fo) (kp1 : Pay) (kl1 kr1 : Fo) (kp2 : Pay) (kl2 kr2 : Fo) (np1 : Pay) (nl1 nr1 : Fo) (np2 : Pay) (nl2 nr2 : Fo) (hRn : Tm.len R ≤ 50000) (hj : j + 1 < Tm.len R) (d1 : Tm.dropF R ((j + 1) - 1) = .node p1 l1 r1) (d2 : Tm.dropF R (j + 1) = .node p2 l2 r2) (e1 : Tm.dropF l1 0 = .node kp1 kl1 kr1) (e2 : Tm.dropF l2 0 = .node kp2 kl2 kr2) : RStep (strip lk19Ops) Q (fun i => ((lk19aEs M R (j + 1) j p1 l1 r1 p2 l2 r2 kp1 kl1 kr1 kp2 kl2 kr2 np1 nl1 nr1 np2 nl2 nr2)[i]?).getD .any) (fun i => (lk19aDs[i]?).getD (1000 + i)) (look (lk19aEnv M R (j + 1) j p1 l1 r1 p2 l2 r2 kp1 kl1 kr1 kp2 kl2 kr2 np1 nl1 nr1 np2 nl2 nr2)) 133 8 := fun _ => step_move (by kernel_rfl) (Opd.of_base 7 rfl) rfl
theorem lk19a_9 {Q : Exit → Act → World → Prop} (M R : Fo) (kk : Nat) (j : Nat) (p1 : Pay) (l1 r1 : Fo) (p2 : Pay) (l2 r2 : Fo) (kp1 : Pay) (kl1 kr1 : Fo) (kp2 : Pay) (kl2 kr2 : Fo) (np1 : Pay) (nl1 nr1 : Fo) (np2 : Pay) (nl2 nr2 : Fo) (hRn : Tm.len R ≤ 50000) (hj : j + 1 < Tm.len R) (d1 : Tm.dropF R ((j + 1) - 1) = .node p1 l1 r1) (d2 : Tm.dropF R (j + 1) = .node p2 l2 r2) (e1 : Tm.dropF l1 0 = .node kp1 kl1 kr1) (e2 : Tm.dropF l2 0 = .node kp2 kl2 kr2) : RStep (strip lk19Ops) Q (fun i => ((lk19aEs M R (j + 1) j p1 l1 r1 p2 l2 r2 kp1 kl1 kr1 kp2 kl2 kr2 np1 nl1 nr1 np2 nl2 nr2)[i]?).getD .any) (fun i => (lk19aDs[i]?).getD (1000 + i)) (look (lk19aEnv M R (j + 1) j p1 l1 r1 p2 l2 r2 kp1 kl1 kr1 kp2 kl2 kr2 np1 nl1 nr1 np2 nl2 nr2)) 133 9 := fun _ => step_move (by kernel_rfl) (Opd.of_base 9 rfl) rfl
theorem lk19a_10 {Q : Exit → Act → World → Prop} (M R : Fo) (kk : Nat) (j : Nat) (p1 : Pay) (l1 r1 : Fo) (p2 : Pay) (l2 r2 : Fo) (kp1 : Pay) (kl1 kr1 : Fo) (kp2 : Pay) (kl2 kr2 : Fo) (np1 : Pay) (nl1 nr1 : Fo) (np2 : Pay) (nl2 nr2 : Fo) (hRn : Tm.len R ≤ 50000) (hj : j + 1 < Tm.len R) (d1 : Tm.dropF R ((j + 1) - 1) = .node p1 l1 r1) (d2 : Tm.dropF R (j + 1) = .node p2 l2 r2) (e1 : Tm.dropF l1 0 = .node kp1 kl1 kr1) (e2 : Tm.dropF l2 0 = .node kp2 kl2 kr2) : RStep (strip lk19Ops) Q (fun i => ((lk19aEs M R (j + 1) j p1 l1 r1 p2 l2 r2 kp1 kl1 kr1 kp2 kl2 kr2 np1 nl1 nr1 np2 nl2 nr2)[i]?).getD .any) (fun i => (lk19aDs[i]?).getD (1000 + i)) (look (lk19aEnv M R (j + 1) j p1 l1 r1 p2 l2 r2 kp1 kl1 kr1 kp2 kl2 kr2 np1 nl1 nr1 np2 nl2 nr2)) 133 10 := fun _ => step_row_at (k := (j + 1)) (r := r2) (by kernel_rfl) (Opd.dep 8 rfl rfl (by kernel_rfl)) (Opd.dep 9 rfl rfl (by kernel_rfl)) d2 rfl
theorem lk19a_11 {Q : Exit → Act → World → Prop} (M R : Fo) (kk : Nat) (j : Nat) (p1 : Pay) (l1 r1 : Fo) (p2 : Pay) (l2 r2 : Fo) (kp1 : Pay) (kl1 kr1 : Fo) (kp2 : Pay) (kl2 kr2 : Fo) (np1 : Pay) (nl1 nr1 : Fo) (np2 : Pay) (nl2 nr2 : Fo) (hRn : Tm.len R ≤ 50000) (hj : j + 1 < Tm.len R) (d1 : Tm.dropF R ((j + 1) - 1) = .node p1 l1 r1) (d2 : Tm.dropF R (j + 1) = .node p2 l2 r2) (e1 : Tm.dropF l1 0 = .node kp1 kl1 kr1) (e2 : Tm.dropF l2 0 = .node kp2 kl2 kr2) : RStep (strip lk19Ops) Q (fun i => ((lk19aEs M R (j + 1) j p1 l1 r1 p2 l2 r2 kp1 kl1 kr1 kp2 kl2 kr2 np1 nl1 nr1 np2 nl2 nr2)[i]?).getD .any) (fun i => (lk19aDs[i]?).getD (1000 + i)) (look (lk19aEnv M R (j + 1) j p1 l1 r1 p2 l2 r2 kp1 kl1 kr1 kp2 kl2 kr2 np1 nl1 nr1 np2 nl2 nr2)) 133 11 := fun _ => step_field3 (by kernel_rfl) (Opd.dep 10 rfl rfl (by kernel_rfl)) rfl
theorem lk19a_12 {Q : Exit → Act → World → Prop} (M R : Fo) (kk : Nat) (j : Nat) (p1 : Pay) (l1 r1 : Fo) (p2 : Pay) (l2 r2 : Fo) (kp1 : Pay) (kl1 kr1 : Fo) (kp2 : Pay) (kl2 kr2 : Fo) (np1 : Pay) (nl1 nr1 : Fo) (np2 : Pay) (nl2 nr2 : Fo) (hRn : Tm.len R ≤ 50000) (hj : j + 1 < Tm.len R) (d1 : Tm.dropF R ((j + 1) - 1) = .node p1 l1 r1) (d2 : Tm.dropF R (j + 1) = .node p2 l2 r2) (e1 : Tm.dropF l1 0 = .node kp1 kl1 kr1) (e2 : Tm.dropF l2 0 = .node kp2 kl2 kr2) : RStep (strip lk19Ops) Q (fun i => ((lk19aEs M R (j + 1) j p1 l1 r1 p2 l2 r2 kp1 kl1 kr1 kp2 kl2 kr2 np1 nl1 nr1 np2 nl2 nr2)[i]?).getD .any) (fun i => (lk19aDs[i]?).getD (1000 + i)) (look (lk19aEnv M R (j + 1) j p1 l1 r1 p2 l2 r2 kp1 kl1 kr1 kp2 kl2 kr2 np1 nl1 nr1 np2 nl2 nr2)) 133 12 := fun _ => step_load_row (by kernel_rfl) (Opd.dep 11 rfl rfl (by kernel_rfl)) rfl
theorem lk19a_13 {Q : Exit → Act → World → Prop} (M R : Fo) (kk : Nat) (j : Nat) (p1 : Pay) (l1 r1 : Fo) (p2 : Pay) (l2 r2 : Fo) (kp1 : Pay) (kl1 kr1 : Fo) (kp2 : Pay) (kl2 kr2 : Fo) (np1 : Pay) (nl1 nr1 : Fo) (np2 : Pay) (nl2 nr2 : Fo) (hRn : Tm.len R ≤ 50000) (hj : j + 1 < Tm.len R) (d1 : Tm.dropF R ((j + 1) - 1) = .node p1 l1 r1) (d2 : Tm.dropF R (j + 1) = .node p2 l2 r2) (e1 : Tm.dropF l1 0 = .node kp1 kl1 kr1) (e2 : Tm.dropF l2 0 = .node kp2 kl2 kr2) : RStep (strip lk19Ops) Q (fun i => ((lk19aEs M R (j + 1) j p1 l1 r1 p2 l2 r2 kp1 kl1 kr1 kp2 kl2 kr2 np1 nl1 nr1 np2 nl2 nr2)[i]?).getD .any) (fun i => (lk19aDs[i]?).getD (1000 + i)) (look (lk19aEnv M R (j + 1) j p1 l1 r1 p2 l2 r2 kp1 kl1 kr1 kp2 kl2 kr2 np1 nl1 nr1 np2 nl2 nr2)) 133 13 := fun _ => step_row_at (k := 0) (r := kr2) (by kernel_rfl) (Opd.dep 12 rfl rfl (by kernel_rfl)) (Opd.const _) e2 rfl
theorem lk19a_14 {Q : Exit → Act → World → Prop} (M R : Fo) (kk : Nat) (j : Nat) (p1 : Pay) (l1 r1 : Fo) (p2 : Pay) (l2 r2 : Fo) (kp1 : Pay) (kl1 kr1 : Fo) (kp2 : Pay) (kl2 kr2 : Fo) (np1 : Pay) (nl1 nr1 : Fo) (np2 : Pay) (nl2 nr2 : Fo) (hRn : Tm.len R ≤ 50000) (hj : j + 1 < Tm.len R) (d1 : Tm.dropF R ((j + 1) - 1) = .node p1 l1 r1) (d2 : Tm.dropF R (j + 1) = .node p2 l2 r2) (e1 : Tm.dropF l1 0 = .node kp1 kl1 kr1) (e2 : Tm.dropF l2 0 = .node kp2 kl2 kr2) : RStep (strip lk19Ops) Q (fun i => ((lk19aEs M R (j + 1) j p1 l1 r1 p2 l2 r2 kp1 kl1 kr1 kp2 kl2 kr2 np1 nl1 nr1 np2 nl2 nr2)[i]?).getD .any) (fun i => (lk19aDs[i]?).getD (1000 + i)) (look (lk19aEnv M R (j + 1) j p1 l1 r1 p2 l2 r2 kp1 kl1 kr1 kp2 kl2 kr2 np1 nl1 nr1 np2 nl2 nr2)) 133 14 := fun _ => step_load_term (by kernel_rfl) (Opd.dep 13 rfl rfl (by kernel_rfl)) rfl
theorem lk19a_15 {Q : Exit → Act → World → Prop} (M R : Fo) (kk : Nat) (j : Nat) (p1 : Pay) (l1 r1 : Fo) (p2 : Pay) (l2 r2 : Fo) (kp1 : Pay) (kl1 kr1 : Fo) (kp2 : Pay) (kl2 kr2 : Fo) (np1 : Pay) (nl1 nr1 : Fo) (np2 : Pay) (nl2 nr2 : Fo) (hRn : Tm.len R ≤ 50000) (hj : j + 1 < Tm.len R) (d1 : Tm.dropF R ((j + 1) - 1) = .node p1 l1 r1) (d2 : Tm.dropF R (j + 1) = .node p2 l2 r2) (e1 : Tm.dropF l1 0 = .node kp1 kl1 kr1) (e2 : Tm.dropF l2 0 = .node kp2 kl2 kr2) : RStep (strip lk19Ops) Q (fun i => ((lk19aEs M R (j + 1) j p1 l1 r1 p2 l2 r2 kp1 kl1 kr1 kp2 kl2 kr2 np1 nl1 nr1 np2 nl2 nr2)[i]?).getD .any) (fun i => (lk19aDs[i]?).getD (1000 + i)) (look (lk19aEnv M R (j + 1) j p1 l1 r1 p2 l2 r2 kp1 kl1 kr1 kp2 kl2 kr2 np1 nl1 nr1 np2 nl2 nr2)) 133 15 := fun _ => step_ocmp 999 (by kernel_rfl) (Opd.dep 7 rfl rfl (by kernel_rfl)) (Opd.dep 14 rfl rfl (by kernel_rfl)) (Opd.of_base 999 rfl) rfl
theorem lk19a_16 {Q : Exit → Act → World → Prop} (M R : Fo) (kk : Nat) (j : Nat) (p1 : Pay) (l1 r1 : Fo) (p2 : Pay) (l2 r2 : Fo) (kp1 : Pay) (kl1 kr1 : Fo) (kp2 : Pay) (kl2 kr2 : Fo) (np1 : Pay) (nl1 nr1 : Fo) (np2 : Pay) (nl2 nr2 : Fo) (hRn : Tm.len R ≤ 50000) (hj : j + 1 < Tm.len R) (d1 : Tm.dropF R ((j + 1) - 1) = .node p1 l1 r1) (d2 : Tm.dropF R (j + 1) = .node p2 l2 r2) (e1 : Tm.dropF l1 0 = .node kp1 kl1 kr1) (e2 : Tm.dropF l2 0 = .node kp2 kl2 kr2) : RStep (strip lk19Ops) Q (fun i => ((lk19aEs M R (j + 1) j p1 l1 r1 p2 l2 r2 kp1 kl1 kr1 kp2 kl2 kr2 np1 nl1 nr1 np2 nl2 nr2)[i]?).getD .any) (fun i => (lk19aDs[i]?).getD (1000 + i)) (look (lk19aEnv M R (j + 1) j p1 l1 r1 p2 l2 r2 kp1 kl1 kr1 kp2 kl2 kr2 np1 nl1 nr1 np2 nl2 nr2)) 133 16 := fun _ => step_assign (by kernel_rfl) (Opd.dep 15 rfl rfl (by kernel_rfl)) rfl
theorem lk19a_region {Q : Exit → Act → World → Prop} (M R : Fo) (kk : Nat) (j : Nat) (p1 : Pay) (l1 r1 : Fo) (p2 : Pay) (l2 r2 : Fo) (kp1 : Pay) (kl1 kr1 : Fo) (kp2 : Pay) (kl2 kr2 : Fo) (np1 : Pay) (nl1 nr1 : Fo) (np2 : Pay) (nl2 nr2 : Fo) (hRn : Tm.len R ≤ 50000) (hj : j + 1 < Tm.len R) (d1 : Tm.dropF R ((j + 1) - 1) = .node p1 l1 r1) (d2 : Tm.dropF R (j + 1) = .node p2 l2 r2) (e1 : Tm.dropF l1 0 = .node kp1 kl1 kr1) (e2 : Tm.dropF l2 0 = .node kp2 kl2 kr2) {w0 : World} {a : Act} {w : World} (h : Hold 133 [(9, .val (.int .i64 (((j + 1) : Nat) : Int))), (7, .row R), (3, .row M), (999, .tabs)] w0 a w)
    (hQ : ∀ a' w', Hold 133 [(9, .val (.int .i64 (((j + 1) : Nat) : Int))), (7, .row R), (3, .row M), (10, .val (.int .i64 (Tm.cmpV kp1 kl1 kp2 kl2))), (999, .tabs)] w0 a' w' → Q .normal a' w') : (Code.region 19 lk19Ops true).wp Tryd.prog Q a w := by
  have hall : ∀ i, i < 0 → RStep (strip lk19Ops) Q (fun i => ((lk19aEs M R (j + 1) j p1 l1 r1 p2 l2 r2 kp1 kl1 kr1 kp2 kl2 kr2 np1 nl1 nr1 np2 nl2 nr2)[i]?).getD .any) (fun i => (lk19aDs[i]?).getD (1000 + i)) (look (lk19aEnv M R (j + 1) j p1 l1 r1 p2 l2 r2 kp1 kl1 kr1 kp2 kl2 kr2 np1 nl1 nr1 np2 nl2 nr2)) 133 i := fun i hi => absurd hi (by omega)
  have hall := below_succ hall (lk19a_0 M R (j + 1) j p1 l1 r1 p2 l2 r2 kp1 kl1 kr1 kp2 kl2 kr2 np1 nl1 nr1 np2 nl2 nr2 hRn hj d1 d2 e1 e2)
  have hall := below_succ hall (lk19a_1 M R (j + 1) j p1 l1 r1 p2 l2 r2 kp1 kl1 kr1 kp2 kl2 kr2 np1 nl1 nr1 np2 nl2 nr2 hRn hj d1 d2 e1 e2)
  have hall := below_succ hall (lk19a_2 M R (j + 1) j p1 l1 r1 p2 l2 r2 kp1 kl1 kr1 kp2 kl2 kr2 np1 nl1 nr1 np2 nl2 nr2 hRn hj d1 d2 e1 e2)
  have hall := below_succ hall (lk19a_3 M R (j + 1) j p1 l1 r1 p2 l2 r2 kp1 kl1 kr1 kp2 kl2 kr2 np1 nl1 nr1 np2 nl2 nr2 hRn hj d1 d2 e1 e2)
  have hall := below_succ hall (lk19a_4 M R (j + 1) j p1 l1 r1 p2 l2 r2 kp1 kl1 kr1 kp2 kl2 kr2 np1 nl1 nr1 np2 nl2 nr2 hRn hj d1 d2 e1 e2)
  have hall := below_succ hall (lk19a_5 M R (j + 1) j p1 l1 r1 p2 l2 r2 kp1 kl1 kr1 kp2 kl2 kr2 np1 nl1 nr1 np2 nl2 nr2 hRn hj d1 d2 e1 e2)
  have hall := below_succ hall (lk19a_6 M R (j + 1) j p1 l1 r1 p2 l2 r2 kp1 kl1 kr1 kp2 kl2 kr2 np1 nl1 nr1 np2 nl2 nr2 hRn hj d1 d2 e1 e2)
  have hall := below_succ hall (lk19a_7 M R (j + 1) j p1 l1 r1 p2 l2 r2 kp1 kl1 kr1 kp2 kl2 kr2 np1 nl1 nr1 np2 nl2 nr2 hRn hj d1 d2 e1 e2)
  have hall := below_succ hall (lk19a_8 M R (j + 1) j p1 l1 r1 p2 l2 r2 kp1 kl1 kr1 kp2 kl2 kr2 np1 nl1 nr1 np2 nl2 nr2 hRn hj d1 d2 e1 e2)
  have hall := below_succ hall (lk19a_9 M R (j + 1) j p1 l1 r1 p2 l2 r2 kp1 kl1 kr1 kp2 kl2 kr2 np1 nl1 nr1 np2 nl2 nr2 hRn hj d1 d2 e1 e2)
  have hall := below_succ hall (lk19a_10 M R (j + 1) j p1 l1 r1 p2 l2 r2 kp1 kl1 kr1 kp2 kl2 kr2 np1 nl1 nr1 np2 nl2 nr2 hRn hj d1 d2 e1 e2)
  have hall := below_succ hall (lk19a_11 M R (j + 1) j p1 l1 r1 p2 l2 r2 kp1 kl1 kr1 kp2 kl2 kr2 np1 nl1 nr1 np2 nl2 nr2 hRn hj d1 d2 e1 e2)
  have hall := below_succ hall (lk19a_12 M R (j + 1) j p1 l1 r1 p2 l2 r2 kp1 kl1 kr1 kp2 kl2 kr2 np1 nl1 nr1 np2 nl2 nr2 hRn hj d1 d2 e1 e2)
  have hall := below_succ hall (lk19a_13 M R (j + 1) j p1 l1 r1 p2 l2 r2 kp1 kl1 kr1 kp2 kl2 kr2 np1 nl1 nr1 np2 nl2 nr2 hRn hj d1 d2 e1 e2)
  have hall := below_succ hall (lk19a_14 M R (j + 1) j p1 l1 r1 p2 l2 r2 kp1 kl1 kr1 kp2 kl2 kr2 np1 nl1 nr1 np2 nl2 nr2 hRn hj d1 d2 e1 e2)
  have hall := below_succ hall (lk19a_15 M R (j + 1) j p1 l1 r1 p2 l2 r2 kp1 kl1 kr1 kp2 kl2 kr2 np1 nl1 nr1 np2 nl2 nr2 hRn hj d1 d2 e1 e2)
  have hall := below_succ hall (lk19a_16 M R (j + 1) j p1 l1 r1 p2 l2 r2 kp1 kl1 kr1 kp2 kl2 kr2 np1 nl1 nr1 np2 nl2 nr2 hRn hj d1 d2 e1 e2)
  refine env_any4 (env := lk19aEnv M R (j + 1) j p1 l1 r1 p2 l2 r2 kp1 kl1 kr1 kp2 kl2 kr2 np1 nl1 nr1 np2 nl2 nr2) (N := 133) (w0 := w0) lk19aDs (lk19aEs M R (j + 1) j p1 l1 r1 p2 l2 r2 kp1 kl1 kr1 kp2 kl2 kr2 np1 nl1 nr1 np2 nl2 nr2) (by kernel_rfl) (by kernel_rfl) (of_decide_eq_true (by kernel_rfl)) (fun i_ hi_ => hall i_ (by rw [show (lk19aEs M R (j + 1) j p1 l1 r1 p2 l2 r2 kp1 kl1 kr1 kp2 kl2 kr2 np1 nl1 nr1 np2 nl2 nr2).length = 17 by kernel_rfl] at hi_; exact hi_)) h fun a' w' h => ?_
  exact hQ a' w' (h.keep [9, 7, 3, 10, 999])
def lk20aEs (M R : Fo) (kk : Nat) (j : Nat) (p1 : Pay) (l1 r1 : Fo) (p2 : Pay) (l2 r2 : Fo) (kp1 : Pay) (kl1 kr1 : Fo) (kp2 : Pay) (kl2 kr2 : Fo) (np1 : Pay) (nl1 nr1 : Fo) (np2 : Pay) (nl2 nr2 : Fo) (cv : Int) : List Kd := [
  .val (.int .i64 cv),
  .val (.bool false),
  .val (.bool false),
  .val (.int .i64 cv),
  .val (.bool false),
  .val (.bool false),
  .val undef,
  .val undef,
  .val undef,
  .val undef,
  .val undef,
  .val undef,
  .val undef,
  .val undef,
  .val undef,
  .val undef,
  .val undef,
  .val undef,
  .val undef,
  .val undef,
  .val undef,
  .val undef,
  .val undef,
  .val undef,
  .val (.bool false),
  .val (.bool false)]
def lk20aDs : List Nat := [106, 107, 108, 109, 110, 111, 112, 113, 114, 115, 116, 117, 118, 119, 120, 121, 122, 123, 124, 125, 126, 127, 128, 129, 130, 131]
def lk20aEnv (M R : Fo) (kk : Nat) (j : Nat) (p1 : Pay) (l1 r1 : Fo) (p2 : Pay) (l2 r2 : Fo) (kp1 : Pay) (kl1 kr1 : Fo) (kp2 : Pay) (kl2 kr2 : Fo) (np1 : Pay) (nl1 nr1 : Fo) (np2 : Pay) (nl2 nr2 : Fo) (cv : Int) : Env := [(9, .val (.int .i64 (((j + 1) : Nat) : Int))), (7, .row R), (3, .row M), (10, .val (.int .i64 cv)), (999, .tabs)]
theorem lk20a_0 {Q : Exit → Act → World → Prop} (M R : Fo) (kk : Nat) (j : Nat) (p1 : Pay) (l1 r1 : Fo) (p2 : Pay) (l2 r2 : Fo) (kp1 : Pay) (kl1 kr1 : Fo) (kp2 : Pay) (kl2 kr2 : Fo) (np1 : Pay) (nl1 nr1 : Fo) (np2 : Pay) (nl2 nr2 : Fo) (cv : Int) (hRn : Tm.len R ≤ 50000) (hj : j + 1 < Tm.len R) (d1 : Tm.dropF R ((j + 1) - 1) = .node p1 l1 r1) (d2 : Tm.dropF R (j + 1) = .node p2 l2 r2) (e1 : Tm.dropF l1 0 = .node kp1 kl1 kr1) (e2 : Tm.dropF l2 0 = .node kp2 kl2 kr2) (g1 : Tm.dropF l1 1 = .node np1 nl1 nr1) (g2 : Tm.dropF l2 1 = .node np2 nl2 nr2) (hc : cv < 0) : RStep (strip lk20Ops) Q (fun i => ((lk20aEs M R (j + 1) j p1 l1 r1 p2 l2 r2 kp1 kl1 kr1 kp2 kl2 kr2 np1 nl1 nr1 np2 nl2 nr2 cv)[i]?).getD .any) (fun i => (lk20aDs[i]?).getD (1000 + i)) (look (lk20aEnv M R (j + 1) j p1 l1 r1 p2 l2 r2 kp1 kl1 kr1 kp2 kl2 kr2 np1 nl1 nr1 np2 nl2 nr2 cv)) 133 0 := fun _ => step_move (by kernel_rfl) (Opd.of_base 10 rfl) rfl
theorem lk20a_1 {Q : Exit → Act → World → Prop} (M R : Fo) (kk : Nat) (j : Nat) (p1 : Pay) (l1 r1 : Fo) (p2 : Pay) (l2 r2 : Fo) (kp1 : Pay) (kl1 kr1 : Fo) (kp2 : Pay) (kl2 kr2 : Fo) (np1 : Pay) (nl1 nr1 : Fo) (np2 : Pay) (nl2 nr2 : Fo) (cv : Int) (hRn : Tm.len R ≤ 50000) (hj : j + 1 < Tm.len R) (d1 : Tm.dropF R ((j + 1) - 1) = .node p1 l1 r1) (d2 : Tm.dropF R (j + 1) = .node p2 l2 r2) (e1 : Tm.dropF l1 0 = .node kp1 kl1 kr1) (e2 : Tm.dropF l2 0 = .node kp2 kl2 kr2) (g1 : Tm.dropF l1 1 = .node np1 nl1 nr1) (g2 : Tm.dropF l2 1 = .node np2 nl2 nr2) (hc : cv < 0) : RStep (strip lk20Ops) Q (fun i => ((lk20aEs M R (j + 1) j p1 l1 r1 p2 l2 r2 kp1 kl1 kr1 kp2 kl2 kr2 np1 nl1 nr1 np2 nl2 nr2 cv)[i]?).getD .any) (fun i => (lk20aDs[i]?).getD (1000 + i)) (look (lk20aEnv M R (j + 1) j p1 l1 r1 p2 l2 r2 kp1 kl1 kr1 kp2 kl2 kr2 np1 nl1 nr1 np2 nl2 nr2 cv)) 133 1 := fun _ => step_gt_int (m := cv) (n := 0) (by kernel_rfl) (Opd.dep 0 rfl rfl (by kernel_rfl)) (Opd.const _) (decide_eq_false (by omega)) rfl
theorem lk20a_2 {Q : Exit → Act → World → Prop} (M R : Fo) (kk : Nat) (j : Nat) (p1 : Pay) (l1 r1 : Fo) (p2 : Pay) (l2 r2 : Fo) (kp1 : Pay) (kl1 kr1 : Fo) (kp2 : Pay) (kl2 kr2 : Fo) (np1 : Pay) (nl1 nr1 : Fo) (np2 : Pay) (nl2 nr2 : Fo) (cv : Int) (hRn : Tm.len R ≤ 50000) (hj : j + 1 < Tm.len R) (d1 : Tm.dropF R ((j + 1) - 1) = .node p1 l1 r1) (d2 : Tm.dropF R (j + 1) = .node p2 l2 r2) (e1 : Tm.dropF l1 0 = .node kp1 kl1 kr1) (e2 : Tm.dropF l2 0 = .node kp2 kl2 kr2) (g1 : Tm.dropF l1 1 = .node np1 nl1 nr1) (g2 : Tm.dropF l2 1 = .node np2 nl2 nr2) (hc : cv < 0) : RStep (strip lk20Ops) Q (fun i => ((lk20aEs M R (j + 1) j p1 l1 r1 p2 l2 r2 kp1 kl1 kr1 kp2 kl2 kr2 np1 nl1 nr1 np2 nl2 nr2 cv)[i]?).getD .any) (fun i => (lk20aDs[i]?).getD (1000 + i)) (look (lk20aEnv M R (j + 1) j p1 l1 r1 p2 l2 r2 kp1 kl1 kr1 kp2 kl2 kr2 np1 nl1 nr1 np2 nl2 nr2 cv)) 133 2 := fun _ => step_move (by kernel_rfl) (Opd.dep 1 rfl rfl (by kernel_rfl)) rfl
theorem lk20a_3 {Q : Exit → Act → World → Prop} (M R : Fo) (kk : Nat) (j : Nat) (p1 : Pay) (l1 r1 : Fo) (p2 : Pay) (l2 r2 : Fo) (kp1 : Pay) (kl1 kr1 : Fo) (kp2 : Pay) (kl2 kr2 : Fo) (np1 : Pay) (nl1 nr1 : Fo) (np2 : Pay) (nl2 nr2 : Fo) (cv : Int) (hRn : Tm.len R ≤ 50000) (hj : j + 1 < Tm.len R) (d1 : Tm.dropF R ((j + 1) - 1) = .node p1 l1 r1) (d2 : Tm.dropF R (j + 1) = .node p2 l2 r2) (e1 : Tm.dropF l1 0 = .node kp1 kl1 kr1) (e2 : Tm.dropF l2 0 = .node kp2 kl2 kr2) (g1 : Tm.dropF l1 1 = .node np1 nl1 nr1) (g2 : Tm.dropF l2 1 = .node np2 nl2 nr2) (hc : cv < 0) : RStep (strip lk20Ops) Q (fun i => ((lk20aEs M R (j + 1) j p1 l1 r1 p2 l2 r2 kp1 kl1 kr1 kp2 kl2 kr2 np1 nl1 nr1 np2 nl2 nr2 cv)[i]?).getD .any) (fun i => (lk20aDs[i]?).getD (1000 + i)) (look (lk20aEnv M R (j + 1) j p1 l1 r1 p2 l2 r2 kp1 kl1 kr1 kp2 kl2 kr2 np1 nl1 nr1 np2 nl2 nr2 cv)) 133 3 := fun _ => step_move (by kernel_rfl) (Opd.of_base 10 rfl) rfl
theorem lk20a_4 {Q : Exit → Act → World → Prop} (M R : Fo) (kk : Nat) (j : Nat) (p1 : Pay) (l1 r1 : Fo) (p2 : Pay) (l2 r2 : Fo) (kp1 : Pay) (kl1 kr1 : Fo) (kp2 : Pay) (kl2 kr2 : Fo) (np1 : Pay) (nl1 nr1 : Fo) (np2 : Pay) (nl2 nr2 : Fo) (cv : Int) (hRn : Tm.len R ≤ 50000) (hj : j + 1 < Tm.len R) (d1 : Tm.dropF R ((j + 1) - 1) = .node p1 l1 r1) (d2 : Tm.dropF R (j + 1) = .node p2 l2 r2) (e1 : Tm.dropF l1 0 = .node kp1 kl1 kr1) (e2 : Tm.dropF l2 0 = .node kp2 kl2 kr2) (g1 : Tm.dropF l1 1 = .node np1 nl1 nr1) (g2 : Tm.dropF l2 1 = .node np2 nl2 nr2) (hc : cv < 0) : RStep (strip lk20Ops) Q (fun i => ((lk20aEs M R (j + 1) j p1 l1 r1 p2 l2 r2 kp1 kl1 kr1 kp2 kl2 kr2 np1 nl1 nr1 np2 nl2 nr2 cv)[i]?).getD .any) (fun i => (lk20aDs[i]?).getD (1000 + i)) (look (lk20aEnv M R (j + 1) j p1 l1 r1 p2 l2 r2 kp1 kl1 kr1 kp2 kl2 kr2 np1 nl1 nr1 np2 nl2 nr2 cv)) 133 4 := fun _ => step_eqb_int (m := cv) (n := 0) (by kernel_rfl) (Opd.dep 3 rfl rfl (by kernel_rfl)) (Opd.const _) (by rw [beq_eq_false_iff_ne]; omega) rfl
theorem lk20a_5 {Q : Exit → Act → World → Prop} (M R : Fo) (kk : Nat) (j : Nat) (p1 : Pay) (l1 r1 : Fo) (p2 : Pay) (l2 r2 : Fo) (kp1 : Pay) (kl1 kr1 : Fo) (kp2 : Pay) (kl2 kr2 : Fo) (np1 : Pay) (nl1 nr1 : Fo) (np2 : Pay) (nl2 nr2 : Fo) (cv : Int) (hRn : Tm.len R ≤ 50000) (hj : j + 1 < Tm.len R) (d1 : Tm.dropF R ((j + 1) - 1) = .node p1 l1 r1) (d2 : Tm.dropF R (j + 1) = .node p2 l2 r2) (e1 : Tm.dropF l1 0 = .node kp1 kl1 kr1) (e2 : Tm.dropF l2 0 = .node kp2 kl2 kr2) (g1 : Tm.dropF l1 1 = .node np1 nl1 nr1) (g2 : Tm.dropF l2 1 = .node np2 nl2 nr2) (hc : cv < 0) : RStep (strip lk20Ops) Q (fun i => ((lk20aEs M R (j + 1) j p1 l1 r1 p2 l2 r2 kp1 kl1 kr1 kp2 kl2 kr2 np1 nl1 nr1 np2 nl2 nr2 cv)[i]?).getD .any) (fun i => (lk20aDs[i]?).getD (1000 + i)) (look (lk20aEnv M R (j + 1) j p1 l1 r1 p2 l2 r2 kp1 kl1 kr1 kp2 kl2 kr2 np1 nl1 nr1 np2 nl2 nr2 cv)) 133 5 := fun _ => step_move (by kernel_rfl) (Opd.dep 4 rfl rfl (by kernel_rfl)) rfl
theorem lk20a_6 {Q : Exit → Act → World → Prop} (M R : Fo) (kk : Nat) (j : Nat) (p1 : Pay) (l1 r1 : Fo) (p2 : Pay) (l2 r2 : Fo) (kp1 : Pay) (kl1 kr1 : Fo) (kp2 : Pay) (kl2 kr2 : Fo) (np1 : Pay) (nl1 nr1 : Fo) (np2 : Pay) (nl2 nr2 : Fo) (cv : Int) (hRn : Tm.len R ≤ 50000) (hj : j + 1 < Tm.len R) (d1 : Tm.dropF R ((j + 1) - 1) = .node p1 l1 r1) (d2 : Tm.dropF R (j + 1) = .node p2 l2 r2) (e1 : Tm.dropF l1 0 = .node kp1 kl1 kr1) (e2 : Tm.dropF l2 0 = .node kp2 kl2 kr2) (g1 : Tm.dropF l1 1 = .node np1 nl1 nr1) (g2 : Tm.dropF l2 1 = .node np2 nl2 nr2) (hc : cv < 0) : RStep (strip lk20Ops) Q (fun i => ((lk20aEs M R (j + 1) j p1 l1 r1 p2 l2 r2 kp1 kl1 kr1 kp2 kl2 kr2 np1 nl1 nr1 np2 nl2 nr2 cv)[i]?).getD .any) (fun i => (lk20aDs[i]?).getD (1000 + i)) (look (lk20aEnv M R (j + 1) j p1 l1 r1 p2 l2 r2 kp1 kl1 kr1 kp2 kl2 kr2 np1 nl1 nr1 np2 nl2 nr2 cv)) 133 6 := rstep_skip (by kernel_rfl)
theorem lk20a_7 {Q : Exit → Act → World → Prop} (M R : Fo) (kk : Nat) (j : Nat) (p1 : Pay) (l1 r1 : Fo) (p2 : Pay) (l2 r2 : Fo) (kp1 : Pay) (kl1 kr1 : Fo) (kp2 : Pay) (kl2 kr2 : Fo) (np1 : Pay) (nl1 nr1 : Fo) (np2 : Pay) (nl2 nr2 : Fo) (cv : Int) (hRn : Tm.len R ≤ 50000) (hj : j + 1 < Tm.len R) (d1 : Tm.dropF R ((j + 1) - 1) = .node p1 l1 r1) (d2 : Tm.dropF R (j + 1) = .node p2 l2 r2) (e1 : Tm.dropF l1 0 = .node kp1 kl1 kr1) (e2 : Tm.dropF l2 0 = .node kp2 kl2 kr2) (g1 : Tm.dropF l1 1 = .node np1 nl1 nr1) (g2 : Tm.dropF l2 1 = .node np2 nl2 nr2) (hc : cv < 0) : RStep (strip lk20Ops) Q (fun i => ((lk20aEs M R (j + 1) j p1 l1 r1 p2 l2 r2 kp1 kl1 kr1 kp2 kl2 kr2 np1 nl1 nr1 np2 nl2 nr2 cv)[i]?).getD .any) (fun i => (lk20aDs[i]?).getD (1000 + i)) (look (lk20aEnv M R (j + 1) j p1 l1 r1 p2 l2 r2 kp1 kl1 kr1 kp2 kl2 kr2 np1 nl1 nr1 np2 nl2 nr2 cv)) 133 7 := rstep_skip (by kernel_rfl)
theorem lk20a_8 {Q : Exit → Act → World → Prop} (M R : Fo) (kk : Nat) (j : Nat) (p1 : Pay) (l1 r1 : Fo) (p2 : Pay) (l2 r2 : Fo) (kp1 : Pay) (kl1 kr1 : Fo) (kp2 : Pay) (kl2 kr2 : Fo) (np1 : Pay) (nl1 nr1 : Fo) (np2 : Pay) (nl2 nr2 : Fo) (cv : Int) (hRn : Tm.len R ≤ 50000) (hj : j + 1 < Tm.len R) (d1 : Tm.dropF R ((j + 1) - 1) = .node p1 l1 r1) (d2 : Tm.dropF R (j + 1) = .node p2 l2 r2) (e1 : Tm.dropF l1 0 = .node kp1 kl1 kr1) (e2 : Tm.dropF l2 0 = .node kp2 kl2 kr2) (g1 : Tm.dropF l1 1 = .node np1 nl1 nr1) (g2 : Tm.dropF l2 1 = .node np2 nl2 nr2) (hc : cv < 0) : RStep (strip lk20Ops) Q (fun i => ((lk20aEs M R (j + 1) j p1 l1 r1 p2 l2 r2 kp1 kl1 kr1 kp2 kl2 kr2 np1 nl1 nr1 np2 nl2 nr2 cv)[i]?).getD .any) (fun i => (lk20aDs[i]?).getD (1000 + i)) (look (lk20aEnv M R (j + 1) j p1 l1 r1 p2 l2 r2 kp1 kl1 kr1 kp2 kl2 kr2 np1 nl1 nr1 np2 nl2 nr2 cv)) 133 8 := rstep_skip (by kernel_rfl)
theorem lk20a_9 {Q : Exit → Act → World → Prop} (M R : Fo) (kk : Nat) (j : Nat) (p1 : Pay) (l1 r1 : Fo) (p2 : Pay) (l2 r2 : Fo) (kp1 : Pay) (kl1 kr1 : Fo) (kp2 : Pay) (kl2 kr2 : Fo) (np1 : Pay) (nl1 nr1 : Fo) (np2 : Pay) (nl2 nr2 : Fo) (cv : Int) (hRn : Tm.len R ≤ 50000) (hj : j + 1 < Tm.len R) (d1 : Tm.dropF R ((j + 1) - 1) = .node p1 l1 r1) (d2 : Tm.dropF R (j + 1) = .node p2 l2 r2) (e1 : Tm.dropF l1 0 = .node kp1 kl1 kr1) (e2 : Tm.dropF l2 0 = .node kp2 kl2 kr2) (g1 : Tm.dropF l1 1 = .node np1 nl1 nr1) (g2 : Tm.dropF l2 1 = .node np2 nl2 nr2) (hc : cv < 0) : RStep (strip lk20Ops) Q (fun i => ((lk20aEs M R (j + 1) j p1 l1 r1 p2 l2 r2 kp1 kl1 kr1 kp2 kl2 kr2 np1 nl1 nr1 np2 nl2 nr2 cv)[i]?).getD .any) (fun i => (lk20aDs[i]?).getD (1000 + i)) (look (lk20aEnv M R (j + 1) j p1 l1 r1 p2 l2 r2 kp1 kl1 kr1 kp2 kl2 kr2 np1 nl1 nr1 np2 nl2 nr2 cv)) 133 9 := rstep_skip (by kernel_rfl)
theorem lk20a_10 {Q : Exit → Act → World → Prop} (M R : Fo) (kk : Nat) (j : Nat) (p1 : Pay) (l1 r1 : Fo) (p2 : Pay) (l2 r2 : Fo) (kp1 : Pay) (kl1 kr1 : Fo) (kp2 : Pay) (kl2 kr2 : Fo) (np1 : Pay) (nl1 nr1 : Fo) (np2 : Pay) (nl2 nr2 : Fo) (cv : Int) (hRn : Tm.len R ≤ 50000) (hj : j + 1 < Tm.len R) (d1 : Tm.dropF R ((j + 1) - 1) = .node p1 l1 r1) (d2 : Tm.dropF R (j + 1) = .node p2 l2 r2) (e1 : Tm.dropF l1 0 = .node kp1 kl1 kr1) (e2 : Tm.dropF l2 0 = .node kp2 kl2 kr2) (g1 : Tm.dropF l1 1 = .node np1 nl1 nr1) (g2 : Tm.dropF l2 1 = .node np2 nl2 nr2) (hc : cv < 0) : RStep (strip lk20Ops) Q (fun i => ((lk20aEs M R (j + 1) j p1 l1 r1 p2 l2 r2 kp1 kl1 kr1 kp2 kl2 kr2 np1 nl1 nr1 np2 nl2 nr2 cv)[i]?).getD .any) (fun i => (lk20aDs[i]?).getD (1000 + i)) (look (lk20aEnv M R (j + 1) j p1 l1 r1 p2 l2 r2 kp1 kl1 kr1 kp2 kl2 kr2 np1 nl1 nr1 np2 nl2 nr2 cv)) 133 10 := rstep_skip (by kernel_rfl)
theorem lk20a_11 {Q : Exit → Act → World → Prop} (M R : Fo) (kk : Nat) (j : Nat) (p1 : Pay) (l1 r1 : Fo) (p2 : Pay) (l2 r2 : Fo) (kp1 : Pay) (kl1 kr1 : Fo) (kp2 : Pay) (kl2 kr2 : Fo) (np1 : Pay) (nl1 nr1 : Fo) (np2 : Pay) (nl2 nr2 : Fo) (cv : Int) (hRn : Tm.len R ≤ 50000) (hj : j + 1 < Tm.len R) (d1 : Tm.dropF R ((j + 1) - 1) = .node p1 l1 r1) (d2 : Tm.dropF R (j + 1) = .node p2 l2 r2) (e1 : Tm.dropF l1 0 = .node kp1 kl1 kr1) (e2 : Tm.dropF l2 0 = .node kp2 kl2 kr2) (g1 : Tm.dropF l1 1 = .node np1 nl1 nr1) (g2 : Tm.dropF l2 1 = .node np2 nl2 nr2) (hc : cv < 0) : RStep (strip lk20Ops) Q (fun i => ((lk20aEs M R (j + 1) j p1 l1 r1 p2 l2 r2 kp1 kl1 kr1 kp2 kl2 kr2 np1 nl1 nr1 np2 nl2 nr2 cv)[i]?).getD .any) (fun i => (lk20aDs[i]?).getD (1000 + i)) (look (lk20aEnv M R (j + 1) j p1 l1 r1 p2 l2 r2 kp1 kl1 kr1 kp2 kl2 kr2 np1 nl1 nr1 np2 nl2 nr2 cv)) 133 11 := rstep_skip (by kernel_rfl)
theorem lk20a_12 {Q : Exit → Act → World → Prop} (M R : Fo) (kk : Nat) (j : Nat) (p1 : Pay) (l1 r1 : Fo) (p2 : Pay) (l2 r2 : Fo) (kp1 : Pay) (kl1 kr1 : Fo) (kp2 : Pay) (kl2 kr2 : Fo) (np1 : Pay) (nl1 nr1 : Fo) (np2 : Pay) (nl2 nr2 : Fo) (cv : Int) (hRn : Tm.len R ≤ 50000) (hj : j + 1 < Tm.len R) (d1 : Tm.dropF R ((j + 1) - 1) = .node p1 l1 r1) (d2 : Tm.dropF R (j + 1) = .node p2 l2 r2) (e1 : Tm.dropF l1 0 = .node kp1 kl1 kr1) (e2 : Tm.dropF l2 0 = .node kp2 kl2 kr2) (g1 : Tm.dropF l1 1 = .node np1 nl1 nr1) (g2 : Tm.dropF l2 1 = .node np2 nl2 nr2) (hc : cv < 0) : RStep (strip lk20Ops) Q (fun i => ((lk20aEs M R (j + 1) j p1 l1 r1 p2 l2 r2 kp1 kl1 kr1 kp2 kl2 kr2 np1 nl1 nr1 np2 nl2 nr2 cv)[i]?).getD .any) (fun i => (lk20aDs[i]?).getD (1000 + i)) (look (lk20aEnv M R (j + 1) j p1 l1 r1 p2 l2 r2 kp1 kl1 kr1 kp2 kl2 kr2 np1 nl1 nr1 np2 nl2 nr2 cv)) 133 12 := rstep_skip (by kernel_rfl)
theorem lk20a_13 {Q : Exit → Act → World → Prop} (M R : Fo) (kk : Nat) (j : Nat) (p1 : Pay) (l1 r1 : Fo) (p2 : Pay) (l2 r2 : Fo) (kp1 : Pay) (kl1 kr1 : Fo) (kp2 : Pay) (kl2 kr2 : Fo) (np1 : Pay) (nl1 nr1 : Fo) (np2 : Pay) (nl2 nr2 : Fo) (cv : Int) (hRn : Tm.len R ≤ 50000) (hj : j + 1 < Tm.len R) (d1 : Tm.dropF R ((j + 1) - 1) = .node p1 l1 r1) (d2 : Tm.dropF R (j + 1) = .node p2 l2 r2) (e1 : Tm.dropF l1 0 = .node kp1 kl1 kr1) (e2 : Tm.dropF l2 0 = .node kp2 kl2 kr2) (g1 : Tm.dropF l1 1 = .node np1 nl1 nr1) (g2 : Tm.dropF l2 1 = .node np2 nl2 nr2) (hc : cv < 0) : RStep (strip lk20Ops) Q (fun i => ((lk20aEs M R (j + 1) j p1 l1 r1 p2 l2 r2 kp1 kl1 kr1 kp2 kl2 kr2 np1 nl1 nr1 np2 nl2 nr2 cv)[i]?).getD .any) (fun i => (lk20aDs[i]?).getD (1000 + i)) (look (lk20aEnv M R (j + 1) j p1 l1 r1 p2 l2 r2 kp1 kl1 kr1 kp2 kl2 kr2 np1 nl1 nr1 np2 nl2 nr2 cv)) 133 13 := rstep_skip (by kernel_rfl)
theorem lk20a_14 {Q : Exit → Act → World → Prop} (M R : Fo) (kk : Nat) (j : Nat) (p1 : Pay) (l1 r1 : Fo) (p2 : Pay) (l2 r2 : Fo) (kp1 : Pay) (kl1 kr1 : Fo) (kp2 : Pay) (kl2 kr2 : Fo) (np1 : Pay) (nl1 nr1 : Fo) (np2 : Pay) (nl2 nr2 : Fo) (cv : Int) (hRn : Tm.len R ≤ 50000) (hj : j + 1 < Tm.len R) (d1 : Tm.dropF R ((j + 1) - 1) = .node p1 l1 r1) (d2 : Tm.dropF R (j + 1) = .node p2 l2 r2) (e1 : Tm.dropF l1 0 = .node kp1 kl1 kr1) (e2 : Tm.dropF l2 0 = .node kp2 kl2 kr2) (g1 : Tm.dropF l1 1 = .node np1 nl1 nr1) (g2 : Tm.dropF l2 1 = .node np2 nl2 nr2) (hc : cv < 0) : RStep (strip lk20Ops) Q (fun i => ((lk20aEs M R (j + 1) j p1 l1 r1 p2 l2 r2 kp1 kl1 kr1 kp2 kl2 kr2 np1 nl1 nr1 np2 nl2 nr2 cv)[i]?).getD .any) (fun i => (lk20aDs[i]?).getD (1000 + i)) (look (lk20aEnv M R (j + 1) j p1 l1 r1 p2 l2 r2 kp1 kl1 kr1 kp2 kl2 kr2 np1 nl1 nr1 np2 nl2 nr2 cv)) 133 14 := rstep_skip (by kernel_rfl)
theorem lk20a_15 {Q : Exit → Act → World → Prop} (M R : Fo) (kk : Nat) (j : Nat) (p1 : Pay) (l1 r1 : Fo) (p2 : Pay) (l2 r2 : Fo) (kp1 : Pay) (kl1 kr1 : Fo) (kp2 : Pay) (kl2 kr2 : Fo) (np1 : Pay) (nl1 nr1 : Fo) (np2 : Pay) (nl2 nr2 : Fo) (cv : Int) (hRn : Tm.len R ≤ 50000) (hj : j + 1 < Tm.len R) (d1 : Tm.dropF R ((j + 1) - 1) = .node p1 l1 r1) (d2 : Tm.dropF R (j + 1) = .node p2 l2 r2) (e1 : Tm.dropF l1 0 = .node kp1 kl1 kr1) (e2 : Tm.dropF l2 0 = .node kp2 kl2 kr2) (g1 : Tm.dropF l1 1 = .node np1 nl1 nr1) (g2 : Tm.dropF l2 1 = .node np2 nl2 nr2) (hc : cv < 0) : RStep (strip lk20Ops) Q (fun i => ((lk20aEs M R (j + 1) j p1 l1 r1 p2 l2 r2 kp1 kl1 kr1 kp2 kl2 kr2 np1 nl1 nr1 np2 nl2 nr2 cv)[i]?).getD .any) (fun i => (lk20aDs[i]?).getD (1000 + i)) (look (lk20aEnv M R (j + 1) j p1 l1 r1 p2 l2 r2 kp1 kl1 kr1 kp2 kl2 kr2 np1 nl1 nr1 np2 nl2 nr2 cv)) 133 15 := rstep_skip (by kernel_rfl)
theorem lk20a_16 {Q : Exit → Act → World → Prop} (M R : Fo) (kk : Nat) (j : Nat) (p1 : Pay) (l1 r1 : Fo) (p2 : Pay) (l2 r2 : Fo) (kp1 : Pay) (kl1 kr1 : Fo) (kp2 : Pay) (kl2 kr2 : Fo) (np1 : Pay) (nl1 nr1 : Fo) (np2 : Pay) (nl2 nr2 : Fo) (cv : Int) (hRn : Tm.len R ≤ 50000) (hj : j + 1 < Tm.len R) (d1 : Tm.dropF R ((j + 1) - 1) = .node p1 l1 r1) (d2 : Tm.dropF R (j + 1) = .node p2 l2 r2) (e1 : Tm.dropF l1 0 = .node kp1 kl1 kr1) (e2 : Tm.dropF l2 0 = .node kp2 kl2 kr2) (g1 : Tm.dropF l1 1 = .node np1 nl1 nr1) (g2 : Tm.dropF l2 1 = .node np2 nl2 nr2) (hc : cv < 0) : RStep (strip lk20Ops) Q (fun i => ((lk20aEs M R (j + 1) j p1 l1 r1 p2 l2 r2 kp1 kl1 kr1 kp2 kl2 kr2 np1 nl1 nr1 np2 nl2 nr2 cv)[i]?).getD .any) (fun i => (lk20aDs[i]?).getD (1000 + i)) (look (lk20aEnv M R (j + 1) j p1 l1 r1 p2 l2 r2 kp1 kl1 kr1 kp2 kl2 kr2 np1 nl1 nr1 np2 nl2 nr2 cv)) 133 16 := rstep_skip (by kernel_rfl)
theorem lk20a_17 {Q : Exit → Act → World → Prop} (M R : Fo) (kk : Nat) (j : Nat) (p1 : Pay) (l1 r1 : Fo) (p2 : Pay) (l2 r2 : Fo) (kp1 : Pay) (kl1 kr1 : Fo) (kp2 : Pay) (kl2 kr2 : Fo) (np1 : Pay) (nl1 nr1 : Fo) (np2 : Pay) (nl2 nr2 : Fo) (cv : Int) (hRn : Tm.len R ≤ 50000) (hj : j + 1 < Tm.len R) (d1 : Tm.dropF R ((j + 1) - 1) = .node p1 l1 r1) (d2 : Tm.dropF R (j + 1) = .node p2 l2 r2) (e1 : Tm.dropF l1 0 = .node kp1 kl1 kr1) (e2 : Tm.dropF l2 0 = .node kp2 kl2 kr2) (g1 : Tm.dropF l1 1 = .node np1 nl1 nr1) (g2 : Tm.dropF l2 1 = .node np2 nl2 nr2) (hc : cv < 0) : RStep (strip lk20Ops) Q (fun i => ((lk20aEs M R (j + 1) j p1 l1 r1 p2 l2 r2 kp1 kl1 kr1 kp2 kl2 kr2 np1 nl1 nr1 np2 nl2 nr2 cv)[i]?).getD .any) (fun i => (lk20aDs[i]?).getD (1000 + i)) (look (lk20aEnv M R (j + 1) j p1 l1 r1 p2 l2 r2 kp1 kl1 kr1 kp2 kl2 kr2 np1 nl1 nr1 np2 nl2 nr2 cv)) 133 17 := rstep_skip (by kernel_rfl)
theorem lk20a_18 {Q : Exit → Act → World → Prop} (M R : Fo) (kk : Nat) (j : Nat) (p1 : Pay) (l1 r1 : Fo) (p2 : Pay) (l2 r2 : Fo) (kp1 : Pay) (kl1 kr1 : Fo) (kp2 : Pay) (kl2 kr2 : Fo) (np1 : Pay) (nl1 nr1 : Fo) (np2 : Pay) (nl2 nr2 : Fo) (cv : Int) (hRn : Tm.len R ≤ 50000) (hj : j + 1 < Tm.len R) (d1 : Tm.dropF R ((j + 1) - 1) = .node p1 l1 r1) (d2 : Tm.dropF R (j + 1) = .node p2 l2 r2) (e1 : Tm.dropF l1 0 = .node kp1 kl1 kr1) (e2 : Tm.dropF l2 0 = .node kp2 kl2 kr2) (g1 : Tm.dropF l1 1 = .node np1 nl1 nr1) (g2 : Tm.dropF l2 1 = .node np2 nl2 nr2) (hc : cv < 0) : RStep (strip lk20Ops) Q (fun i => ((lk20aEs M R (j + 1) j p1 l1 r1 p2 l2 r2 kp1 kl1 kr1 kp2 kl2 kr2 np1 nl1 nr1 np2 nl2 nr2 cv)[i]?).getD .any) (fun i => (lk20aDs[i]?).getD (1000 + i)) (look (lk20aEnv M R (j + 1) j p1 l1 r1 p2 l2 r2 kp1 kl1 kr1 kp2 kl2 kr2 np1 nl1 nr1 np2 nl2 nr2 cv)) 133 18 := rstep_skip (by kernel_rfl)
theorem lk20a_19 {Q : Exit → Act → World → Prop} (M R : Fo) (kk : Nat) (j : Nat) (p1 : Pay) (l1 r1 : Fo) (p2 : Pay) (l2 r2 : Fo) (kp1 : Pay) (kl1 kr1 : Fo) (kp2 : Pay) (kl2 kr2 : Fo) (np1 : Pay) (nl1 nr1 : Fo) (np2 : Pay) (nl2 nr2 : Fo) (cv : Int) (hRn : Tm.len R ≤ 50000) (hj : j + 1 < Tm.len R) (d1 : Tm.dropF R ((j + 1) - 1) = .node p1 l1 r1) (d2 : Tm.dropF R (j + 1) = .node p2 l2 r2) (e1 : Tm.dropF l1 0 = .node kp1 kl1 kr1) (e2 : Tm.dropF l2 0 = .node kp2 kl2 kr2) (g1 : Tm.dropF l1 1 = .node np1 nl1 nr1) (g2 : Tm.dropF l2 1 = .node np2 nl2 nr2) (hc : cv < 0) : RStep (strip lk20Ops) Q (fun i => ((lk20aEs M R (j + 1) j p1 l1 r1 p2 l2 r2 kp1 kl1 kr1 kp2 kl2 kr2 np1 nl1 nr1 np2 nl2 nr2 cv)[i]?).getD .any) (fun i => (lk20aDs[i]?).getD (1000 + i)) (look (lk20aEnv M R (j + 1) j p1 l1 r1 p2 l2 r2 kp1 kl1 kr1 kp2 kl2 kr2 np1 nl1 nr1 np2 nl2 nr2 cv)) 133 19 := rstep_skip (by kernel_rfl)
theorem lk20a_20 {Q : Exit → Act → World → Prop} (M R : Fo) (kk : Nat) (j : Nat) (p1 : Pay) (l1 r1 : Fo) (p2 : Pay) (l2 r2 : Fo) (kp1 : Pay) (kl1 kr1 : Fo) (kp2 : Pay) (kl2 kr2 : Fo) (np1 : Pay) (nl1 nr1 : Fo) (np2 : Pay) (nl2 nr2 : Fo) (cv : Int) (hRn : Tm.len R ≤ 50000) (hj : j + 1 < Tm.len R) (d1 : Tm.dropF R ((j + 1) - 1) = .node p1 l1 r1) (d2 : Tm.dropF R (j + 1) = .node p2 l2 r2) (e1 : Tm.dropF l1 0 = .node kp1 kl1 kr1) (e2 : Tm.dropF l2 0 = .node kp2 kl2 kr2) (g1 : Tm.dropF l1 1 = .node np1 nl1 nr1) (g2 : Tm.dropF l2 1 = .node np2 nl2 nr2) (hc : cv < 0) : RStep (strip lk20Ops) Q (fun i => ((lk20aEs M R (j + 1) j p1 l1 r1 p2 l2 r2 kp1 kl1 kr1 kp2 kl2 kr2 np1 nl1 nr1 np2 nl2 nr2 cv)[i]?).getD .any) (fun i => (lk20aDs[i]?).getD (1000 + i)) (look (lk20aEnv M R (j + 1) j p1 l1 r1 p2 l2 r2 kp1 kl1 kr1 kp2 kl2 kr2 np1 nl1 nr1 np2 nl2 nr2 cv)) 133 20 := rstep_skip (by kernel_rfl)
theorem lk20a_21 {Q : Exit → Act → World → Prop} (M R : Fo) (kk : Nat) (j : Nat) (p1 : Pay) (l1 r1 : Fo) (p2 : Pay) (l2 r2 : Fo) (kp1 : Pay) (kl1 kr1 : Fo) (kp2 : Pay) (kl2 kr2 : Fo) (np1 : Pay) (nl1 nr1 : Fo) (np2 : Pay) (nl2 nr2 : Fo) (cv : Int) (hRn : Tm.len R ≤ 50000) (hj : j + 1 < Tm.len R) (d1 : Tm.dropF R ((j + 1) - 1) = .node p1 l1 r1) (d2 : Tm.dropF R (j + 1) = .node p2 l2 r2) (e1 : Tm.dropF l1 0 = .node kp1 kl1 kr1) (e2 : Tm.dropF l2 0 = .node kp2 kl2 kr2) (g1 : Tm.dropF l1 1 = .node np1 nl1 nr1) (g2 : Tm.dropF l2 1 = .node np2 nl2 nr2) (hc : cv < 0) : RStep (strip lk20Ops) Q (fun i => ((lk20aEs M R (j + 1) j p1 l1 r1 p2 l2 r2 kp1 kl1 kr1 kp2 kl2 kr2 np1 nl1 nr1 np2 nl2 nr2 cv)[i]?).getD .any) (fun i => (lk20aDs[i]?).getD (1000 + i)) (look (lk20aEnv M R (j + 1) j p1 l1 r1 p2 l2 r2 kp1 kl1 kr1 kp2 kl2 kr2 np1 nl1 nr1 np2 nl2 nr2 cv)) 133 21 := rstep_skip (by kernel_rfl)
theorem lk20a_22 {Q : Exit → Act → World → Prop} (M R : Fo) (kk : Nat) (j : Nat) (p1 : Pay) (l1 r1 : Fo) (p2 : Pay) (l2 r2 : Fo) (kp1 : Pay) (kl1 kr1 : Fo) (kp2 : Pay) (kl2 kr2 : Fo) (np1 : Pay) (nl1 nr1 : Fo) (np2 : Pay) (nl2 nr2 : Fo) (cv : Int) (hRn : Tm.len R ≤ 50000) (hj : j + 1 < Tm.len R) (d1 : Tm.dropF R ((j + 1) - 1) = .node p1 l1 r1) (d2 : Tm.dropF R (j + 1) = .node p2 l2 r2) (e1 : Tm.dropF l1 0 = .node kp1 kl1 kr1) (e2 : Tm.dropF l2 0 = .node kp2 kl2 kr2) (g1 : Tm.dropF l1 1 = .node np1 nl1 nr1) (g2 : Tm.dropF l2 1 = .node np2 nl2 nr2) (hc : cv < 0) : RStep (strip lk20Ops) Q (fun i => ((lk20aEs M R (j + 1) j p1 l1 r1 p2 l2 r2 kp1 kl1 kr1 kp2 kl2 kr2 np1 nl1 nr1 np2 nl2 nr2 cv)[i]?).getD .any) (fun i => (lk20aDs[i]?).getD (1000 + i)) (look (lk20aEnv M R (j + 1) j p1 l1 r1 p2 l2 r2 kp1 kl1 kr1 kp2 kl2 kr2 np1 nl1 nr1 np2 nl2 nr2 cv)) 133 22 := rstep_skip (by kernel_rfl)
theorem lk20a_23 {Q : Exit → Act → World → Prop} (M R : Fo) (kk : Nat) (j : Nat) (p1 : Pay) (l1 r1 : Fo) (p2 : Pay) (l2 r2 : Fo) (kp1 : Pay) (kl1 kr1 : Fo) (kp2 : Pay) (kl2 kr2 : Fo) (np1 : Pay) (nl1 nr1 : Fo) (np2 : Pay) (nl2 nr2 : Fo) (cv : Int) (hRn : Tm.len R ≤ 50000) (hj : j + 1 < Tm.len R) (d1 : Tm.dropF R ((j + 1) - 1) = .node p1 l1 r1) (d2 : Tm.dropF R (j + 1) = .node p2 l2 r2) (e1 : Tm.dropF l1 0 = .node kp1 kl1 kr1) (e2 : Tm.dropF l2 0 = .node kp2 kl2 kr2) (g1 : Tm.dropF l1 1 = .node np1 nl1 nr1) (g2 : Tm.dropF l2 1 = .node np2 nl2 nr2) (hc : cv < 0) : RStep (strip lk20Ops) Q (fun i => ((lk20aEs M R (j + 1) j p1 l1 r1 p2 l2 r2 kp1 kl1 kr1 kp2 kl2 kr2 np1 nl1 nr1 np2 nl2 nr2 cv)[i]?).getD .any) (fun i => (lk20aDs[i]?).getD (1000 + i)) (look (lk20aEnv M R (j + 1) j p1 l1 r1 p2 l2 r2 kp1 kl1 kr1 kp2 kl2 kr2 np1 nl1 nr1 np2 nl2 nr2 cv)) 133 23 := rstep_skip (by kernel_rfl)
theorem lk20a_24 {Q : Exit → Act → World → Prop} (M R : Fo) (kk : Nat) (j : Nat) (p1 : Pay) (l1 r1 : Fo) (p2 : Pay) (l2 r2 : Fo) (kp1 : Pay) (kl1 kr1 : Fo) (kp2 : Pay) (kl2 kr2 : Fo) (np1 : Pay) (nl1 nr1 : Fo) (np2 : Pay) (nl2 nr2 : Fo) (cv : Int) (hRn : Tm.len R ≤ 50000) (hj : j + 1 < Tm.len R) (d1 : Tm.dropF R ((j + 1) - 1) = .node p1 l1 r1) (d2 : Tm.dropF R (j + 1) = .node p2 l2 r2) (e1 : Tm.dropF l1 0 = .node kp1 kl1 kr1) (e2 : Tm.dropF l2 0 = .node kp2 kl2 kr2) (g1 : Tm.dropF l1 1 = .node np1 nl1 nr1) (g2 : Tm.dropF l2 1 = .node np2 nl2 nr2) (hc : cv < 0) : RStep (strip lk20Ops) Q (fun i => ((lk20aEs M R (j + 1) j p1 l1 r1 p2 l2 r2 kp1 kl1 kr1 kp2 kl2 kr2 np1 nl1 nr1 np2 nl2 nr2 cv)[i]?).getD .any) (fun i => (lk20aDs[i]?).getD (1000 + i)) (look (lk20aEnv M R (j + 1) j p1 l1 r1 p2 l2 r2 kp1 kl1 kr1 kp2 kl2 kr2 np1 nl1 nr1 np2 nl2 nr2 cv)) 133 24 := fun _ => step_pick_no (x := .tmp 129) (by kernel_rfl) (Opd.dep 5 rfl rfl (by kernel_rfl)) (Opd.const _) rfl
theorem lk20a_25 {Q : Exit → Act → World → Prop} (M R : Fo) (kk : Nat) (j : Nat) (p1 : Pay) (l1 r1 : Fo) (p2 : Pay) (l2 r2 : Fo) (kp1 : Pay) (kl1 kr1 : Fo) (kp2 : Pay) (kl2 kr2 : Fo) (np1 : Pay) (nl1 nr1 : Fo) (np2 : Pay) (nl2 nr2 : Fo) (cv : Int) (hRn : Tm.len R ≤ 50000) (hj : j + 1 < Tm.len R) (d1 : Tm.dropF R ((j + 1) - 1) = .node p1 l1 r1) (d2 : Tm.dropF R (j + 1) = .node p2 l2 r2) (e1 : Tm.dropF l1 0 = .node kp1 kl1 kr1) (e2 : Tm.dropF l2 0 = .node kp2 kl2 kr2) (g1 : Tm.dropF l1 1 = .node np1 nl1 nr1) (g2 : Tm.dropF l2 1 = .node np2 nl2 nr2) (hc : cv < 0) : RStep (strip lk20Ops) Q (fun i => ((lk20aEs M R (j + 1) j p1 l1 r1 p2 l2 r2 kp1 kl1 kr1 kp2 kl2 kr2 np1 nl1 nr1 np2 nl2 nr2 cv)[i]?).getD .any) (fun i => (lk20aDs[i]?).getD (1000 + i)) (look (lk20aEnv M R (j + 1) j p1 l1 r1 p2 l2 r2 kp1 kl1 kr1 kp2 kl2 kr2 np1 nl1 nr1 np2 nl2 nr2 cv)) 133 25 := fun _ => step_pick_no (x := .const (.bool true)) (by kernel_rfl) (Opd.dep 2 rfl rfl (by kernel_rfl)) (Opd.dep 24 rfl rfl (by kernel_rfl)) rfl
theorem lk20a_region {Q : Exit → Act → World → Prop} (M R : Fo) (kk : Nat) (j : Nat) (p1 : Pay) (l1 r1 : Fo) (p2 : Pay) (l2 r2 : Fo) (kp1 : Pay) (kl1 kr1 : Fo) (kp2 : Pay) (kl2 kr2 : Fo) (np1 : Pay) (nl1 nr1 : Fo) (np2 : Pay) (nl2 nr2 : Fo) (cv : Int) (hRn : Tm.len R ≤ 50000) (hj : j + 1 < Tm.len R) (d1 : Tm.dropF R ((j + 1) - 1) = .node p1 l1 r1) (d2 : Tm.dropF R (j + 1) = .node p2 l2 r2) (e1 : Tm.dropF l1 0 = .node kp1 kl1 kr1) (e2 : Tm.dropF l2 0 = .node kp2 kl2 kr2) (g1 : Tm.dropF l1 1 = .node np1 nl1 nr1) (g2 : Tm.dropF l2 1 = .node np2 nl2 nr2) (hc : cv < 0) {w0 : World} {a : Act} {w : World} (h : Hold 133 [(9, .val (.int .i64 (((j + 1) : Nat) : Int))), (7, .row R), (3, .row M), (10, .val (.int .i64 cv)), (999, .tabs)] w0 a w)
    (hQ : ∀ a' w', Hold 133 [(9, .val (.int .i64 (((j + 1) : Nat) : Int))), (7, .row R), (3, .row M), (131, .val (.bool false)), (999, .tabs)] w0 a' w' → Q .normal a' w') : (Code.region 20 lk20Ops true).wp Tryd.prog Q a w := by
  have hall : ∀ i, i < 0 → RStep (strip lk20Ops) Q (fun i => ((lk20aEs M R (j + 1) j p1 l1 r1 p2 l2 r2 kp1 kl1 kr1 kp2 kl2 kr2 np1 nl1 nr1 np2 nl2 nr2 cv)[i]?).getD .any) (fun i => (lk20aDs[i]?).getD (1000 + i)) (look (lk20aEnv M R (j + 1) j p1 l1 r1 p2 l2 r2 kp1 kl1 kr1 kp2 kl2 kr2 np1 nl1 nr1 np2 nl2 nr2 cv)) 133 i := fun i hi => absurd hi (by omega)
  have hall := below_succ hall (lk20a_0 M R (j + 1) j p1 l1 r1 p2 l2 r2 kp1 kl1 kr1 kp2 kl2 kr2 np1 nl1 nr1 np2 nl2 nr2 cv hRn hj d1 d2 e1 e2 g1 g2 hc)
  have hall := below_succ hall (lk20a_1 M R (j + 1) j p1 l1 r1 p2 l2 r2 kp1 kl1 kr1 kp2 kl2 kr2 np1 nl1 nr1 np2 nl2 nr2 cv hRn hj d1 d2 e1 e2 g1 g2 hc)
  have hall := below_succ hall (lk20a_2 M R (j + 1) j p1 l1 r1 p2 l2 r2 kp1 kl1 kr1 kp2 kl2 kr2 np1 nl1 nr1 np2 nl2 nr2 cv hRn hj d1 d2 e1 e2 g1 g2 hc)
  have hall := below_succ hall (lk20a_3 M R (j + 1) j p1 l1 r1 p2 l2 r2 kp1 kl1 kr1 kp2 kl2 kr2 np1 nl1 nr1 np2 nl2 nr2 cv hRn hj d1 d2 e1 e2 g1 g2 hc)
  have hall := below_succ hall (lk20a_4 M R (j + 1) j p1 l1 r1 p2 l2 r2 kp1 kl1 kr1 kp2 kl2 kr2 np1 nl1 nr1 np2 nl2 nr2 cv hRn hj d1 d2 e1 e2 g1 g2 hc)
  have hall := below_succ hall (lk20a_5 M R (j + 1) j p1 l1 r1 p2 l2 r2 kp1 kl1 kr1 kp2 kl2 kr2 np1 nl1 nr1 np2 nl2 nr2 cv hRn hj d1 d2 e1 e2 g1 g2 hc)
  have hall := below_succ hall (lk20a_6 M R (j + 1) j p1 l1 r1 p2 l2 r2 kp1 kl1 kr1 kp2 kl2 kr2 np1 nl1 nr1 np2 nl2 nr2 cv hRn hj d1 d2 e1 e2 g1 g2 hc)
  have hall := below_succ hall (lk20a_7 M R (j + 1) j p1 l1 r1 p2 l2 r2 kp1 kl1 kr1 kp2 kl2 kr2 np1 nl1 nr1 np2 nl2 nr2 cv hRn hj d1 d2 e1 e2 g1 g2 hc)
  have hall := below_succ hall (lk20a_8 M R (j + 1) j p1 l1 r1 p2 l2 r2 kp1 kl1 kr1 kp2 kl2 kr2 np1 nl1 nr1 np2 nl2 nr2 cv hRn hj d1 d2 e1 e2 g1 g2 hc)
  have hall := below_succ hall (lk20a_9 M R (j + 1) j p1 l1 r1 p2 l2 r2 kp1 kl1 kr1 kp2 kl2 kr2 np1 nl1 nr1 np2 nl2 nr2 cv hRn hj d1 d2 e1 e2 g1 g2 hc)
  have hall := below_succ hall (lk20a_10 M R (j + 1) j p1 l1 r1 p2 l2 r2 kp1 kl1 kr1 kp2 kl2 kr2 np1 nl1 nr1 np2 nl2 nr2 cv hRn hj d1 d2 e1 e2 g1 g2 hc)
  have hall := below_succ hall (lk20a_11 M R (j + 1) j p1 l1 r1 p2 l2 r2 kp1 kl1 kr1 kp2 kl2 kr2 np1 nl1 nr1 np2 nl2 nr2 cv hRn hj d1 d2 e1 e2 g1 g2 hc)
  have hall := below_succ hall (lk20a_12 M R (j + 1) j p1 l1 r1 p2 l2 r2 kp1 kl1 kr1 kp2 kl2 kr2 np1 nl1 nr1 np2 nl2 nr2 cv hRn hj d1 d2 e1 e2 g1 g2 hc)
  have hall := below_succ hall (lk20a_13 M R (j + 1) j p1 l1 r1 p2 l2 r2 kp1 kl1 kr1 kp2 kl2 kr2 np1 nl1 nr1 np2 nl2 nr2 cv hRn hj d1 d2 e1 e2 g1 g2 hc)
  have hall := below_succ hall (lk20a_14 M R (j + 1) j p1 l1 r1 p2 l2 r2 kp1 kl1 kr1 kp2 kl2 kr2 np1 nl1 nr1 np2 nl2 nr2 cv hRn hj d1 d2 e1 e2 g1 g2 hc)
  have hall := below_succ hall (lk20a_15 M R (j + 1) j p1 l1 r1 p2 l2 r2 kp1 kl1 kr1 kp2 kl2 kr2 np1 nl1 nr1 np2 nl2 nr2 cv hRn hj d1 d2 e1 e2 g1 g2 hc)
  have hall := below_succ hall (lk20a_16 M R (j + 1) j p1 l1 r1 p2 l2 r2 kp1 kl1 kr1 kp2 kl2 kr2 np1 nl1 nr1 np2 nl2 nr2 cv hRn hj d1 d2 e1 e2 g1 g2 hc)
  have hall := below_succ hall (lk20a_17 M R (j + 1) j p1 l1 r1 p2 l2 r2 kp1 kl1 kr1 kp2 kl2 kr2 np1 nl1 nr1 np2 nl2 nr2 cv hRn hj d1 d2 e1 e2 g1 g2 hc)
  have hall := below_succ hall (lk20a_18 M R (j + 1) j p1 l1 r1 p2 l2 r2 kp1 kl1 kr1 kp2 kl2 kr2 np1 nl1 nr1 np2 nl2 nr2 cv hRn hj d1 d2 e1 e2 g1 g2 hc)
  have hall := below_succ hall (lk20a_19 M R (j + 1) j p1 l1 r1 p2 l2 r2 kp1 kl1 kr1 kp2 kl2 kr2 np1 nl1 nr1 np2 nl2 nr2 cv hRn hj d1 d2 e1 e2 g1 g2 hc)
  have hall := below_succ hall (lk20a_20 M R (j + 1) j p1 l1 r1 p2 l2 r2 kp1 kl1 kr1 kp2 kl2 kr2 np1 nl1 nr1 np2 nl2 nr2 cv hRn hj d1 d2 e1 e2 g1 g2 hc)
  have hall := below_succ hall (lk20a_21 M R (j + 1) j p1 l1 r1 p2 l2 r2 kp1 kl1 kr1 kp2 kl2 kr2 np1 nl1 nr1 np2 nl2 nr2 cv hRn hj d1 d2 e1 e2 g1 g2 hc)
  have hall := below_succ hall (lk20a_22 M R (j + 1) j p1 l1 r1 p2 l2 r2 kp1 kl1 kr1 kp2 kl2 kr2 np1 nl1 nr1 np2 nl2 nr2 cv hRn hj d1 d2 e1 e2 g1 g2 hc)
  have hall := below_succ hall (lk20a_23 M R (j + 1) j p1 l1 r1 p2 l2 r2 kp1 kl1 kr1 kp2 kl2 kr2 np1 nl1 nr1 np2 nl2 nr2 cv hRn hj d1 d2 e1 e2 g1 g2 hc)
  have hall := below_succ hall (lk20a_24 M R (j + 1) j p1 l1 r1 p2 l2 r2 kp1 kl1 kr1 kp2 kl2 kr2 np1 nl1 nr1 np2 nl2 nr2 cv hRn hj d1 d2 e1 e2 g1 g2 hc)
  have hall := below_succ hall (lk20a_25 M R (j + 1) j p1 l1 r1 p2 l2 r2 kp1 kl1 kr1 kp2 kl2 kr2 np1 nl1 nr1 np2 nl2 nr2 cv hRn hj d1 d2 e1 e2 g1 g2 hc)
  refine env_any4 (env := lk20aEnv M R (j + 1) j p1 l1 r1 p2 l2 r2 kp1 kl1 kr1 kp2 kl2 kr2 np1 nl1 nr1 np2 nl2 nr2 cv) (N := 133) (w0 := w0) lk20aDs (lk20aEs M R (j + 1) j p1 l1 r1 p2 l2 r2 kp1 kl1 kr1 kp2 kl2 kr2 np1 nl1 nr1 np2 nl2 nr2 cv) (by kernel_rfl) (by kernel_rfl) (of_decide_eq_true (by kernel_rfl)) (fun i_ hi_ => hall i_ (by rw [show (lk20aEs M R (j + 1) j p1 l1 r1 p2 l2 r2 kp1 kl1 kr1 kp2 kl2 kr2 np1 nl1 nr1 np2 nl2 nr2 cv).length = 26 by kernel_rfl] at hi_; exact hi_)) h fun a' w' h => ?_
  exact hQ a' w' (h.keep [9, 7, 3, 131, 999])
theorem lk15b_region {Q : Exit → Act → World → Prop} (M R : Fo) (kk : Nat) (j : Nat) (p1 : Pay) (l1 r1 : Fo) (p2 : Pay) (l2 r2 : Fo) (kp1 : Pay) (kl1 kr1 : Fo) (kp2 : Pay) (kl2 kr2 : Fo) (np1 : Pay) (nl1 nr1 : Fo) (np2 : Pay) (nl2 nr2 : Fo) (cv : Int) (hRn : Tm.len R ≤ 50000) (hj : j + 1 < Tm.len R) {w0 : World} {a : Act} {w : World} (h : Hold 133 [(9, .val (.int .i64 (((j + 1) : Nat) : Int))), (7, .row R), (3, .row M), (999, .tabs)] w0 a w)
    (hQ : ∀ a' w', Hold 133 [(9, .val (.int .i64 ((((j + 1)) + 1 : Nat) : Int))), (7, .row R), (3, .row M), (999, .tabs)] w0 a' w' → Q .normal a' w') : (Code.region 15 lk15Ops false).wp Tryd.prog Q a w := by
  refine region_seq (w0 := w) 3 (by kernel_rfl) ?_
  rw [show List.range 3 = [0, 1, 2] from rfl]
  refine env_one (i := 0) (d := 61) (k := .val (.int .i64 (((j + 1) : Nat) : Int))) (step_move (by kernel_rfl) (Opd.of_base 9 rfl) rfl) (by kernel_rfl) (by decide) h ?_
  clear h
  intro a w h
  refine env_one (i := 1) (d := 62) (k := .val (.int .i64 ((((j + 1)) + 1 : Nat) : Int))) (step_add (m := (((j + 1) : Nat) : Int)) (n := 1) (s := ((((j + 1)) + 1 : Nat) : Int)) (by kernel_rfl) (Opd.of_base 61 rfl) (Opd.const _) (by rw [IntKind.wrap_i64]; omega) rfl) (by kernel_rfl) (by decide) h ?_
  clear h
  intro a w h
  refine env_one (i := 2) (d := 9) (k := .val (.int .i64 ((((j + 1)) + 1 : Nat) : Int))) (step_assign (by kernel_rfl) (Opd.of_base 62 rfl) rfl) (by kernel_rfl) (by decide) h ?_
  clear h
  intro a w h
  exact hQ a w (h.keep [9, 7, 3, 999])
def lk20bEs (M R : Fo) (kk : Nat) (j : Nat) (p1 : Pay) (l1 r1 : Fo) (p2 : Pay) (l2 r2 : Fo) (kp1 : Pay) (kl1 kr1 : Fo) (kp2 : Pay) (kl2 kr2 : Fo) (np1 : Pay) (nl1 nr1 : Fo) (np2 : Pay) (nl2 nr2 : Fo) (cv : Int) : List Kd := [
  .val (.int .i64 cv),
  .val (.bool false),
  .val (.bool false),
  .val (.int .i64 cv),
  .val (.bool true),
  .val (.bool true),
  .row R,
  .val (.int .i64 (((j + 1) : Nat) : Int)),
  .val (.int .i64 ((((j + 1)) - 1 : Nat) : Int)),
  .ptrT p1 l1,
  .ptrR l1,
  .row l1,
  .ptrT np1 nl1,
  .ptrI (np1.2.1),
  .val (.int .i64 (np1.2.1)),
  .row R,
  .val (.int .i64 (((j + 1) : Nat) : Int)),
  .ptrT p2 l2,
  .ptrR l2,
  .row l2,
  .ptrT np2 nl2,
  .ptrI (np2.2.1),
  .val (.int .i64 (np2.2.1)),
  .val (.bool false),
  .val (.bool false),
  .val (.bool false)]
def lk20bDs : List Nat := [106, 107, 108, 109, 110, 111, 112, 113, 114, 115, 116, 117, 118, 119, 120, 121, 122, 123, 124, 125, 126, 127, 128, 129, 130, 131]
def lk20bEnv (M R : Fo) (kk : Nat) (j : Nat) (p1 : Pay) (l1 r1 : Fo) (p2 : Pay) (l2 r2 : Fo) (kp1 : Pay) (kl1 kr1 : Fo) (kp2 : Pay) (kl2 kr2 : Fo) (np1 : Pay) (nl1 nr1 : Fo) (np2 : Pay) (nl2 nr2 : Fo) (cv : Int) : Env := [(9, .val (.int .i64 (((j + 1) : Nat) : Int))), (7, .row R), (3, .row M), (10, .val (.int .i64 cv)), (999, .tabs)]
theorem lk20b_0 {Q : Exit → Act → World → Prop} (M R : Fo) (kk : Nat) (j : Nat) (p1 : Pay) (l1 r1 : Fo) (p2 : Pay) (l2 r2 : Fo) (kp1 : Pay) (kl1 kr1 : Fo) (kp2 : Pay) (kl2 kr2 : Fo) (np1 : Pay) (nl1 nr1 : Fo) (np2 : Pay) (nl2 nr2 : Fo) (cv : Int) (hRn : Tm.len R ≤ 50000) (hj : j + 1 < Tm.len R) (d1 : Tm.dropF R ((j + 1) - 1) = .node p1 l1 r1) (d2 : Tm.dropF R (j + 1) = .node p2 l2 r2) (e1 : Tm.dropF l1 0 = .node kp1 kl1 kr1) (e2 : Tm.dropF l2 0 = .node kp2 kl2 kr2) (g1 : Tm.dropF l1 1 = .node np1 nl1 nr1) (g2 : Tm.dropF l2 1 = .node np2 nl2 nr2) (hc : cv = 0) (hnum : np1.2.1 < np2.2.1) : RStep (strip lk20Ops) Q (fun i => ((lk20bEs M R (j + 1) j p1 l1 r1 p2 l2 r2 kp1 kl1 kr1 kp2 kl2 kr2 np1 nl1 nr1 np2 nl2 nr2 cv)[i]?).getD .any) (fun i => (lk20bDs[i]?).getD (1000 + i)) (look (lk20bEnv M R (j + 1) j p1 l1 r1 p2 l2 r2 kp1 kl1 kr1 kp2 kl2 kr2 np1 nl1 nr1 np2 nl2 nr2 cv)) 133 0 := fun _ => step_move (by kernel_rfl) (Opd.of_base 10 rfl) rfl
theorem lk20b_1 {Q : Exit → Act → World → Prop} (M R : Fo) (kk : Nat) (j : Nat) (p1 : Pay) (l1 r1 : Fo) (p2 : Pay) (l2 r2 : Fo) (kp1 : Pay) (kl1 kr1 : Fo) (kp2 : Pay) (kl2 kr2 : Fo) (np1 : Pay) (nl1 nr1 : Fo) (np2 : Pay) (nl2 nr2 : Fo) (cv : Int) (hRn : Tm.len R ≤ 50000) (hj : j + 1 < Tm.len R) (d1 : Tm.dropF R ((j + 1) - 1) = .node p1 l1 r1) (d2 : Tm.dropF R (j + 1) = .node p2 l2 r2) (e1 : Tm.dropF l1 0 = .node kp1 kl1 kr1) (e2 : Tm.dropF l2 0 = .node kp2 kl2 kr2) (g1 : Tm.dropF l1 1 = .node np1 nl1 nr1) (g2 : Tm.dropF l2 1 = .node np2 nl2 nr2) (hc : cv = 0) (hnum : np1.2.1 < np2.2.1) : RStep (strip lk20Ops) Q (fun i => ((lk20bEs M R (j + 1) j p1 l1 r1 p2 l2 r2 kp1 kl1 kr1 kp2 kl2 kr2 np1 nl1 nr1 np2 nl2 nr2 cv)[i]?).getD .any) (fun i => (lk20bDs[i]?).getD (1000 + i)) (look (lk20bEnv M R (j + 1) j p1 l1 r1 p2 l2 r2 kp1 kl1 kr1 kp2 kl2 kr2 np1 nl1 nr1 np2 nl2 nr2 cv)) 133 1 := fun _ => step_gt_int (m := cv) (n := 0) (by kernel_rfl) (Opd.dep 0 rfl rfl (by kernel_rfl)) (Opd.const _) (decide_eq_false (by omega)) rfl
theorem lk20b_2 {Q : Exit → Act → World → Prop} (M R : Fo) (kk : Nat) (j : Nat) (p1 : Pay) (l1 r1 : Fo) (p2 : Pay) (l2 r2 : Fo) (kp1 : Pay) (kl1 kr1 : Fo) (kp2 : Pay) (kl2 kr2 : Fo) (np1 : Pay) (nl1 nr1 : Fo) (np2 : Pay) (nl2 nr2 : Fo) (cv : Int) (hRn : Tm.len R ≤ 50000) (hj : j + 1 < Tm.len R) (d1 : Tm.dropF R ((j + 1) - 1) = .node p1 l1 r1) (d2 : Tm.dropF R (j + 1) = .node p2 l2 r2) (e1 : Tm.dropF l1 0 = .node kp1 kl1 kr1) (e2 : Tm.dropF l2 0 = .node kp2 kl2 kr2) (g1 : Tm.dropF l1 1 = .node np1 nl1 nr1) (g2 : Tm.dropF l2 1 = .node np2 nl2 nr2) (hc : cv = 0) (hnum : np1.2.1 < np2.2.1) : RStep (strip lk20Ops) Q (fun i => ((lk20bEs M R (j + 1) j p1 l1 r1 p2 l2 r2 kp1 kl1 kr1 kp2 kl2 kr2 np1 nl1 nr1 np2 nl2 nr2 cv)[i]?).getD .any) (fun i => (lk20bDs[i]?).getD (1000 + i)) (look (lk20bEnv M R (j + 1) j p1 l1 r1 p2 l2 r2 kp1 kl1 kr1 kp2 kl2 kr2 np1 nl1 nr1 np2 nl2 nr2 cv)) 133 2 := fun _ => step_move (by kernel_rfl) (Opd.dep 1 rfl rfl (by kernel_rfl)) rfl
theorem lk20b_3 {Q : Exit → Act → World → Prop} (M R : Fo) (kk : Nat) (j : Nat) (p1 : Pay) (l1 r1 : Fo) (p2 : Pay) (l2 r2 : Fo) (kp1 : Pay) (kl1 kr1 : Fo) (kp2 : Pay) (kl2 kr2 : Fo) (np1 : Pay) (nl1 nr1 : Fo) (np2 : Pay) (nl2 nr2 : Fo) (cv : Int) (hRn : Tm.len R ≤ 50000) (hj : j + 1 < Tm.len R) (d1 : Tm.dropF R ((j + 1) - 1) = .node p1 l1 r1) (d2 : Tm.dropF R (j + 1) = .node p2 l2 r2) (e1 : Tm.dropF l1 0 = .node kp1 kl1 kr1) (e2 : Tm.dropF l2 0 = .node kp2 kl2 kr2) (g1 : Tm.dropF l1 1 = .node np1 nl1 nr1) (g2 : Tm.dropF l2 1 = .node np2 nl2 nr2) (hc : cv = 0) (hnum : np1.2.1 < np2.2.1) : RStep (strip lk20Ops) Q (fun i => ((lk20bEs M R (j + 1) j p1 l1 r1 p2 l2 r2 kp1 kl1 kr1 kp2 kl2 kr2 np1 nl1 nr1 np2 nl2 nr2 cv)[i]?).getD .any) (fun i => (lk20bDs[i]?).getD (1000 + i)) (look (lk20bEnv M R (j + 1) j p1 l1 r1 p2 l2 r2 kp1 kl1 kr1 kp2 kl2 kr2 np1 nl1 nr1 np2 nl2 nr2 cv)) 133 3 := fun _ => step_move (by kernel_rfl) (Opd.of_base 10 rfl) rfl
theorem lk20b_4 {Q : Exit → Act → World → Prop} (M R : Fo) (kk : Nat) (j : Nat) (p1 : Pay) (l1 r1 : Fo) (p2 : Pay) (l2 r2 : Fo) (kp1 : Pay) (kl1 kr1 : Fo) (kp2 : Pay) (kl2 kr2 : Fo) (np1 : Pay) (nl1 nr1 : Fo) (np2 : Pay) (nl2 nr2 : Fo) (cv : Int) (hRn : Tm.len R ≤ 50000) (hj : j + 1 < Tm.len R) (d1 : Tm.dropF R ((j + 1) - 1) = .node p1 l1 r1) (d2 : Tm.dropF R (j + 1) = .node p2 l2 r2) (e1 : Tm.dropF l1 0 = .node kp1 kl1 kr1) (e2 : Tm.dropF l2 0 = .node kp2 kl2 kr2) (g1 : Tm.dropF l1 1 = .node np1 nl1 nr1) (g2 : Tm.dropF l2 1 = .node np2 nl2 nr2) (hc : cv = 0) (hnum : np1.2.1 < np2.2.1) : RStep (strip lk20Ops) Q (fun i => ((lk20bEs M R (j + 1) j p1 l1 r1 p2 l2 r2 kp1 kl1 kr1 kp2 kl2 kr2 np1 nl1 nr1 np2 nl2 nr2 cv)[i]?).getD .any) (fun i => (lk20bDs[i]?).getD (1000 + i)) (look (lk20bEnv M R (j + 1) j p1 l1 r1 p2 l2 r2 kp1 kl1 kr1 kp2 kl2 kr2 np1 nl1 nr1 np2 nl2 nr2 cv)) 133 4 := fun _ => step_eqb_int (m := cv) (n := 0) (by kernel_rfl) (Opd.dep 3 rfl rfl (by kernel_rfl)) (Opd.const _) (by rw [hc]; rfl) rfl
theorem lk20b_5 {Q : Exit → Act → World → Prop} (M R : Fo) (kk : Nat) (j : Nat) (p1 : Pay) (l1 r1 : Fo) (p2 : Pay) (l2 r2 : Fo) (kp1 : Pay) (kl1 kr1 : Fo) (kp2 : Pay) (kl2 kr2 : Fo) (np1 : Pay) (nl1 nr1 : Fo) (np2 : Pay) (nl2 nr2 : Fo) (cv : Int) (hRn : Tm.len R ≤ 50000) (hj : j + 1 < Tm.len R) (d1 : Tm.dropF R ((j + 1) - 1) = .node p1 l1 r1) (d2 : Tm.dropF R (j + 1) = .node p2 l2 r2) (e1 : Tm.dropF l1 0 = .node kp1 kl1 kr1) (e2 : Tm.dropF l2 0 = .node kp2 kl2 kr2) (g1 : Tm.dropF l1 1 = .node np1 nl1 nr1) (g2 : Tm.dropF l2 1 = .node np2 nl2 nr2) (hc : cv = 0) (hnum : np1.2.1 < np2.2.1) : RStep (strip lk20Ops) Q (fun i => ((lk20bEs M R (j + 1) j p1 l1 r1 p2 l2 r2 kp1 kl1 kr1 kp2 kl2 kr2 np1 nl1 nr1 np2 nl2 nr2 cv)[i]?).getD .any) (fun i => (lk20bDs[i]?).getD (1000 + i)) (look (lk20bEnv M R (j + 1) j p1 l1 r1 p2 l2 r2 kp1 kl1 kr1 kp2 kl2 kr2 np1 nl1 nr1 np2 nl2 nr2 cv)) 133 5 := fun _ => step_move (by kernel_rfl) (Opd.dep 4 rfl rfl (by kernel_rfl)) rfl
theorem lk20b_6 {Q : Exit → Act → World → Prop} (M R : Fo) (kk : Nat) (j : Nat) (p1 : Pay) (l1 r1 : Fo) (p2 : Pay) (l2 r2 : Fo) (kp1 : Pay) (kl1 kr1 : Fo) (kp2 : Pay) (kl2 kr2 : Fo) (np1 : Pay) (nl1 nr1 : Fo) (np2 : Pay) (nl2 nr2 : Fo) (cv : Int) (hRn : Tm.len R ≤ 50000) (hj : j + 1 < Tm.len R) (d1 : Tm.dropF R ((j + 1) - 1) = .node p1 l1 r1) (d2 : Tm.dropF R (j + 1) = .node p2 l2 r2) (e1 : Tm.dropF l1 0 = .node kp1 kl1 kr1) (e2 : Tm.dropF l2 0 = .node kp2 kl2 kr2) (g1 : Tm.dropF l1 1 = .node np1 nl1 nr1) (g2 : Tm.dropF l2 1 = .node np2 nl2 nr2) (hc : cv = 0) (hnum : np1.2.1 < np2.2.1) : RStep (strip lk20Ops) Q (fun i => ((lk20bEs M R (j + 1) j p1 l1 r1 p2 l2 r2 kp1 kl1 kr1 kp2 kl2 kr2 np1 nl1 nr1 np2 nl2 nr2 cv)[i]?).getD .any) (fun i => (lk20bDs[i]?).getD (1000 + i)) (look (lk20bEnv M R (j + 1) j p1 l1 r1 p2 l2 r2 kp1 kl1 kr1 kp2 kl2 kr2 np1 nl1 nr1 np2 nl2 nr2 cv)) 133 6 := fun _ => step_move (by kernel_rfl) (Opd.of_base 7 rfl) rfl
theorem lk20b_7 {Q : Exit → Act → World → Prop} (M R : Fo) (kk : Nat) (j : Nat) (p1 : Pay) (l1 r1 : Fo) (p2 : Pay) (l2 r2 : Fo) (kp1 : Pay) (kl1 kr1 : Fo) (kp2 : Pay) (kl2 kr2 : Fo) (np1 : Pay) (nl1 nr1 : Fo) (np2 : Pay) (nl2 nr2 : Fo) (cv : Int) (hRn : Tm.len R ≤ 50000) (hj : j + 1 < Tm.len R) (d1 : Tm.dropF R ((j + 1) - 1) = .node p1 l1 r1) (d2 : Tm.dropF R (j + 1) = .node p2 l2 r2) (e1 : Tm.dropF l1 0 = .node kp1 kl1 kr1) (e2 : Tm.dropF l2 0 = .node kp2 kl2 kr2) (g1 : Tm.dropF l1 1 = .node np1 nl1 nr1) (g2 : Tm.dropF l2 1 = .node np2 nl2 nr2) (hc : cv = 0) (hnum : np1.2.1 < np2.2.1) : RStep (strip lk20Ops) Q (fun i => ((lk20bEs M R (j + 1) j p1 l1 r1 p2 l2 r2 kp1 kl1 kr1 kp2 kl2 kr2 np1 nl1 nr1 np2 nl2 nr2 cv)[i]?).getD .any) (fun i => (lk20bDs[i]?).getD (1000 + i)) (look (lk20bEnv M R (j + 1) j p1 l1 r1 p2 l2 r2 kp1 kl1 kr1 kp2 kl2 kr2 np1 nl1 nr1 np2 nl2 nr2 cv)) 133 7 := fun _ => step_move (by kernel_rfl) (Opd.of_base 9 rfl) rfl
theorem lk20b_8 {Q : Exit → Act → World → Prop} (M R : Fo) (kk : Nat) (j : Nat) (p1 : Pay) (l1 r1 : Fo) (p2 : Pay) (l2 r2 : Fo) (kp1 : Pay) (kl1 kr1 : Fo) (kp2 : Pay) (kl2 kr2 : Fo) (np1 : Pay) (nl1 nr1 : Fo) (np2 : Pay) (nl2 nr2 : Fo) (cv : Int) (hRn : Tm.len R ≤ 50000) (hj : j + 1 < Tm.len R) (d1 : Tm.dropF R ((j + 1) - 1) = .node p1 l1 r1) (d2 : Tm.dropF R (j + 1) = .node p2 l2 r2) (e1 : Tm.dropF l1 0 = .node kp1 kl1 kr1) (e2 : Tm.dropF l2 0 = .node kp2 kl2 kr2) (g1 : Tm.dropF l1 1 = .node np1 nl1 nr1) (g2 : Tm.dropF l2 1 = .node np2 nl2 nr2) (hc : cv = 0) (hnum : np1.2.1 < np2.2.1) : RStep (strip lk20Ops) Q (fun i => ((lk20bEs M R (j + 1) j p1 l1 r1 p2 l2 r2 kp1 kl1 kr1 kp2 kl2 kr2 np1 nl1 nr1 np2 nl2 nr2 cv)[i]?).getD .any) (fun i => (lk20bDs[i]?).getD (1000 + i)) (look (lk20bEnv M R (j + 1) j p1 l1 r1 p2 l2 r2 kp1 kl1 kr1 kp2 kl2 kr2 np1 nl1 nr1 np2 nl2 nr2 cv)) 133 8 := fun _ => step_sub (m := (((j + 1) : Nat) : Int)) (n := 1) (s := ((((j + 1)) - 1 : Nat) : Int)) (by kernel_rfl) (Opd.dep 7 rfl rfl (by kernel_rfl)) (Opd.const _) (by rw [IntKind.wrap_i64]; omega) rfl
theorem lk20b_9 {Q : Exit → Act → World → Prop} (M R : Fo) (kk : Nat) (j : Nat) (p1 : Pay) (l1 r1 : Fo) (p2 : Pay) (l2 r2 : Fo) (kp1 : Pay) (kl1 kr1 : Fo) (kp2 : Pay) (kl2 kr2 : Fo) (np1 : Pay) (nl1 nr1 : Fo) (np2 : Pay) (nl2 nr2 : Fo) (cv : Int) (hRn : Tm.len R ≤ 50000) (hj : j + 1 < Tm.len R) (d1 : Tm.dropF R ((j + 1) - 1) = .node p1 l1 r1) (d2 : Tm.dropF R (j + 1) = .node p2 l2 r2) (e1 : Tm.dropF l1 0 = .node kp1 kl1 kr1) (e2 : Tm.dropF l2 0 = .node kp2 kl2 kr2) (g1 : Tm.dropF l1 1 = .node np1 nl1 nr1) (g2 : Tm.dropF l2 1 = .node np2 nl2 nr2) (hc : cv = 0) (hnum : np1.2.1 < np2.2.1) : RStep (strip lk20Ops) Q (fun i => ((lk20bEs M R (j + 1) j p1 l1 r1 p2 l2 r2 kp1 kl1 kr1 kp2 kl2 kr2 np1 nl1 nr1 np2 nl2 nr2 cv)[i]?).getD .any) (fun i => (lk20bDs[i]?).getD (1000 + i)) (look (lk20bEnv M R (j + 1) j p1 l1 r1 p2 l2 r2 kp1 kl1 kr1 kp2 kl2 kr2 np1 nl1 nr1 np2 nl2 nr2 cv)) 133 9 := fun _ => step_row_at (k := ((j + 1)) - 1) (r := r1) (by kernel_rfl) (Opd.dep 6 rfl rfl (by kernel_rfl)) (Opd.dep 8 rfl rfl (by kernel_rfl)) d1 rfl
theorem lk20b_10 {Q : Exit → Act → World → Prop} (M R : Fo) (kk : Nat) (j : Nat) (p1 : Pay) (l1 r1 : Fo) (p2 : Pay) (l2 r2 : Fo) (kp1 : Pay) (kl1 kr1 : Fo) (kp2 : Pay) (kl2 kr2 : Fo) (np1 : Pay) (nl1 nr1 : Fo) (np2 : Pay) (nl2 nr2 : Fo) (cv : Int) (hRn : Tm.len R ≤ 50000) (hj : j + 1 < Tm.len R) (d1 : Tm.dropF R ((j + 1) - 1) = .node p1 l1 r1) (d2 : Tm.dropF R (j + 1) = .node p2 l2 r2) (e1 : Tm.dropF l1 0 = .node kp1 kl1 kr1) (e2 : Tm.dropF l2 0 = .node kp2 kl2 kr2) (g1 : Tm.dropF l1 1 = .node np1 nl1 nr1) (g2 : Tm.dropF l2 1 = .node np2 nl2 nr2) (hc : cv = 0) (hnum : np1.2.1 < np2.2.1) : RStep (strip lk20Ops) Q (fun i => ((lk20bEs M R (j + 1) j p1 l1 r1 p2 l2 r2 kp1 kl1 kr1 kp2 kl2 kr2 np1 nl1 nr1 np2 nl2 nr2 cv)[i]?).getD .any) (fun i => (lk20bDs[i]?).getD (1000 + i)) (look (lk20bEnv M R (j + 1) j p1 l1 r1 p2 l2 r2 kp1 kl1 kr1 kp2 kl2 kr2 np1 nl1 nr1 np2 nl2 nr2 cv)) 133 10 := fun _ => step_field3 (by kernel_rfl) (Opd.dep 9 rfl rfl (by kernel_rfl)) rfl
theorem lk20b_11 {Q : Exit → Act → World → Prop} (M R : Fo) (kk : Nat) (j : Nat) (p1 : Pay) (l1 r1 : Fo) (p2 : Pay) (l2 r2 : Fo) (kp1 : Pay) (kl1 kr1 : Fo) (kp2 : Pay) (kl2 kr2 : Fo) (np1 : Pay) (nl1 nr1 : Fo) (np2 : Pay) (nl2 nr2 : Fo) (cv : Int) (hRn : Tm.len R ≤ 50000) (hj : j + 1 < Tm.len R) (d1 : Tm.dropF R ((j + 1) - 1) = .node p1 l1 r1) (d2 : Tm.dropF R (j + 1) = .node p2 l2 r2) (e1 : Tm.dropF l1 0 = .node kp1 kl1 kr1) (e2 : Tm.dropF l2 0 = .node kp2 kl2 kr2) (g1 : Tm.dropF l1 1 = .node np1 nl1 nr1) (g2 : Tm.dropF l2 1 = .node np2 nl2 nr2) (hc : cv = 0) (hnum : np1.2.1 < np2.2.1) : RStep (strip lk20Ops) Q (fun i => ((lk20bEs M R (j + 1) j p1 l1 r1 p2 l2 r2 kp1 kl1 kr1 kp2 kl2 kr2 np1 nl1 nr1 np2 nl2 nr2 cv)[i]?).getD .any) (fun i => (lk20bDs[i]?).getD (1000 + i)) (look (lk20bEnv M R (j + 1) j p1 l1 r1 p2 l2 r2 kp1 kl1 kr1 kp2 kl2 kr2 np1 nl1 nr1 np2 nl2 nr2 cv)) 133 11 := fun _ => step_load_row (by kernel_rfl) (Opd.dep 10 rfl rfl (by kernel_rfl)) rfl
theorem lk20b_12 {Q : Exit → Act → World → Prop} (M R : Fo) (kk : Nat) (j : Nat) (p1 : Pay) (l1 r1 : Fo) (p2 : Pay) (l2 r2 : Fo) (kp1 : Pay) (kl1 kr1 : Fo) (kp2 : Pay) (kl2 kr2 : Fo) (np1 : Pay) (nl1 nr1 : Fo) (np2 : Pay) (nl2 nr2 : Fo) (cv : Int) (hRn : Tm.len R ≤ 50000) (hj : j + 1 < Tm.len R) (d1 : Tm.dropF R ((j + 1) - 1) = .node p1 l1 r1) (d2 : Tm.dropF R (j + 1) = .node p2 l2 r2) (e1 : Tm.dropF l1 0 = .node kp1 kl1 kr1) (e2 : Tm.dropF l2 0 = .node kp2 kl2 kr2) (g1 : Tm.dropF l1 1 = .node np1 nl1 nr1) (g2 : Tm.dropF l2 1 = .node np2 nl2 nr2) (hc : cv = 0) (hnum : np1.2.1 < np2.2.1) : RStep (strip lk20Ops) Q (fun i => ((lk20bEs M R (j + 1) j p1 l1 r1 p2 l2 r2 kp1 kl1 kr1 kp2 kl2 kr2 np1 nl1 nr1 np2 nl2 nr2 cv)[i]?).getD .any) (fun i => (lk20bDs[i]?).getD (1000 + i)) (look (lk20bEnv M R (j + 1) j p1 l1 r1 p2 l2 r2 kp1 kl1 kr1 kp2 kl2 kr2 np1 nl1 nr1 np2 nl2 nr2 cv)) 133 12 := fun _ => step_row_at (k := 1) (r := nr1) (by kernel_rfl) (Opd.dep 11 rfl rfl (by kernel_rfl)) (Opd.const _) g1 rfl
theorem lk20b_13 {Q : Exit → Act → World → Prop} (M R : Fo) (kk : Nat) (j : Nat) (p1 : Pay) (l1 r1 : Fo) (p2 : Pay) (l2 r2 : Fo) (kp1 : Pay) (kl1 kr1 : Fo) (kp2 : Pay) (kl2 kr2 : Fo) (np1 : Pay) (nl1 nr1 : Fo) (np2 : Pay) (nl2 nr2 : Fo) (cv : Int) (hRn : Tm.len R ≤ 50000) (hj : j + 1 < Tm.len R) (d1 : Tm.dropF R ((j + 1) - 1) = .node p1 l1 r1) (d2 : Tm.dropF R (j + 1) = .node p2 l2 r2) (e1 : Tm.dropF l1 0 = .node kp1 kl1 kr1) (e2 : Tm.dropF l2 0 = .node kp2 kl2 kr2) (g1 : Tm.dropF l1 1 = .node np1 nl1 nr1) (g2 : Tm.dropF l2 1 = .node np2 nl2 nr2) (hc : cv = 0) (hnum : np1.2.1 < np2.2.1) : RStep (strip lk20Ops) Q (fun i => ((lk20bEs M R (j + 1) j p1 l1 r1 p2 l2 r2 kp1 kl1 kr1 kp2 kl2 kr2 np1 nl1 nr1 np2 nl2 nr2 cv)[i]?).getD .any) (fun i => (lk20bDs[i]?).getD (1000 + i)) (look (lk20bEnv M R (j + 1) j p1 l1 r1 p2 l2 r2 kp1 kl1 kr1 kp2 kl2 kr2 np1 nl1 nr1 np2 nl2 nr2 cv)) 133 13 := fun _ => step_field1 (by kernel_rfl) (Opd.dep 12 rfl rfl (by kernel_rfl)) rfl
theorem lk20b_14 {Q : Exit → Act → World → Prop} (M R : Fo) (kk : Nat) (j : Nat) (p1 : Pay) (l1 r1 : Fo) (p2 : Pay) (l2 r2 : Fo) (kp1 : Pay) (kl1 kr1 : Fo) (kp2 : Pay) (kl2 kr2 : Fo) (np1 : Pay) (nl1 nr1 : Fo) (np2 : Pay) (nl2 nr2 : Fo) (cv : Int) (hRn : Tm.len R ≤ 50000) (hj : j + 1 < Tm.len R) (d1 : Tm.dropF R ((j + 1) - 1) = .node p1 l1 r1) (d2 : Tm.dropF R (j + 1) = .node p2 l2 r2) (e1 : Tm.dropF l1 0 = .node kp1 kl1 kr1) (e2 : Tm.dropF l2 0 = .node kp2 kl2 kr2) (g1 : Tm.dropF l1 1 = .node np1 nl1 nr1) (g2 : Tm.dropF l2 1 = .node np2 nl2 nr2) (hc : cv = 0) (hnum : np1.2.1 < np2.2.1) : RStep (strip lk20Ops) Q (fun i => ((lk20bEs M R (j + 1) j p1 l1 r1 p2 l2 r2 kp1 kl1 kr1 kp2 kl2 kr2 np1 nl1 nr1 np2 nl2 nr2 cv)[i]?).getD .any) (fun i => (lk20bDs[i]?).getD (1000 + i)) (look (lk20bEnv M R (j + 1) j p1 l1 r1 p2 l2 r2 kp1 kl1 kr1 kp2 kl2 kr2 np1 nl1 nr1 np2 nl2 nr2 cv)) 133 14 := fun _ => step_load_int (by kernel_rfl) (Opd.dep 13 rfl rfl (by kernel_rfl)) rfl
theorem lk20b_15 {Q : Exit → Act → World → Prop} (M R : Fo) (kk : Nat) (j : Nat) (p1 : Pay) (l1 r1 : Fo) (p2 : Pay) (l2 r2 : Fo) (kp1 : Pay) (kl1 kr1 : Fo) (kp2 : Pay) (kl2 kr2 : Fo) (np1 : Pay) (nl1 nr1 : Fo) (np2 : Pay) (nl2 nr2 : Fo) (cv : Int) (hRn : Tm.len R ≤ 50000) (hj : j + 1 < Tm.len R) (d1 : Tm.dropF R ((j + 1) - 1) = .node p1 l1 r1) (d2 : Tm.dropF R (j + 1) = .node p2 l2 r2) (e1 : Tm.dropF l1 0 = .node kp1 kl1 kr1) (e2 : Tm.dropF l2 0 = .node kp2 kl2 kr2) (g1 : Tm.dropF l1 1 = .node np1 nl1 nr1) (g2 : Tm.dropF l2 1 = .node np2 nl2 nr2) (hc : cv = 0) (hnum : np1.2.1 < np2.2.1) : RStep (strip lk20Ops) Q (fun i => ((lk20bEs M R (j + 1) j p1 l1 r1 p2 l2 r2 kp1 kl1 kr1 kp2 kl2 kr2 np1 nl1 nr1 np2 nl2 nr2 cv)[i]?).getD .any) (fun i => (lk20bDs[i]?).getD (1000 + i)) (look (lk20bEnv M R (j + 1) j p1 l1 r1 p2 l2 r2 kp1 kl1 kr1 kp2 kl2 kr2 np1 nl1 nr1 np2 nl2 nr2 cv)) 133 15 := fun _ => step_move (by kernel_rfl) (Opd.of_base 7 rfl) rfl
theorem lk20b_16 {Q : Exit → Act → World → Prop} (M R : Fo) (kk : Nat) (j : Nat) (p1 : Pay) (l1 r1 : Fo) (p2 : Pay) (l2 r2 : Fo) (kp1 : Pay) (kl1 kr1 : Fo) (kp2 : Pay) (kl2 kr2 : Fo) (np1 : Pay) (nl1 nr1 : Fo) (np2 : Pay) (nl2 nr2 : Fo) (cv : Int) (hRn : Tm.len R ≤ 50000) (hj : j + 1 < Tm.len R) (d1 : Tm.dropF R ((j + 1) - 1) = .node p1 l1 r1) (d2 : Tm.dropF R (j + 1) = .node p2 l2 r2) (e1 : Tm.dropF l1 0 = .node kp1 kl1 kr1) (e2 : Tm.dropF l2 0 = .node kp2 kl2 kr2) (g1 : Tm.dropF l1 1 = .node np1 nl1 nr1) (g2 : Tm.dropF l2 1 = .node np2 nl2 nr2) (hc : cv = 0) (hnum : np1.2.1 < np2.2.1) : RStep (strip lk20Ops) Q (fun i => ((lk20bEs M R (j + 1) j p1 l1 r1 p2 l2 r2 kp1 kl1 kr1 kp2 kl2 kr2 np1 nl1 nr1 np2 nl2 nr2 cv)[i]?).getD .any) (fun i => (lk20bDs[i]?).getD (1000 + i)) (look (lk20bEnv M R (j + 1) j p1 l1 r1 p2 l2 r2 kp1 kl1 kr1 kp2 kl2 kr2 np1 nl1 nr1 np2 nl2 nr2 cv)) 133 16 := fun _ => step_move (by kernel_rfl) (Opd.of_base 9 rfl) rfl
theorem lk20b_17 {Q : Exit → Act → World → Prop} (M R : Fo) (kk : Nat) (j : Nat) (p1 : Pay) (l1 r1 : Fo) (p2 : Pay) (l2 r2 : Fo) (kp1 : Pay) (kl1 kr1 : Fo) (kp2 : Pay) (kl2 kr2 : Fo) (np1 : Pay) (nl1 nr1 : Fo) (np2 : Pay) (nl2 nr2 : Fo) (cv : Int) (hRn : Tm.len R ≤ 50000) (hj : j + 1 < Tm.len R) (d1 : Tm.dropF R ((j + 1) - 1) = .node p1 l1 r1) (d2 : Tm.dropF R (j + 1) = .node p2 l2 r2) (e1 : Tm.dropF l1 0 = .node kp1 kl1 kr1) (e2 : Tm.dropF l2 0 = .node kp2 kl2 kr2) (g1 : Tm.dropF l1 1 = .node np1 nl1 nr1) (g2 : Tm.dropF l2 1 = .node np2 nl2 nr2) (hc : cv = 0) (hnum : np1.2.1 < np2.2.1) : RStep (strip lk20Ops) Q (fun i => ((lk20bEs M R (j + 1) j p1 l1 r1 p2 l2 r2 kp1 kl1 kr1 kp2 kl2 kr2 np1 nl1 nr1 np2 nl2 nr2 cv)[i]?).getD .any) (fun i => (lk20bDs[i]?).getD (1000 + i)) (look (lk20bEnv M R (j + 1) j p1 l1 r1 p2 l2 r2 kp1 kl1 kr1 kp2 kl2 kr2 np1 nl1 nr1 np2 nl2 nr2 cv)) 133 17 := fun _ => step_row_at (k := (j + 1)) (r := r2) (by kernel_rfl) (Opd.dep 15 rfl rfl (by kernel_rfl)) (Opd.dep 16 rfl rfl (by kernel_rfl)) d2 rfl
theorem lk20b_18 {Q : Exit → Act → World → Prop} (M R : Fo) (kk : Nat) (j : Nat) (p1 : Pay) (l1 r1 : Fo) (p2 : Pay) (l2 r2 : Fo) (kp1 : Pay) (kl1 kr1 : Fo) (kp2 : Pay) (kl2 kr2 : Fo) (np1 : Pay) (nl1 nr1 : Fo) (np2 : Pay) (nl2 nr2 : Fo) (cv : Int) (hRn : Tm.len R ≤ 50000) (hj : j + 1 < Tm.len R) (d1 : Tm.dropF R ((j + 1) - 1) = .node p1 l1 r1) (d2 : Tm.dropF R (j + 1) = .node p2 l2 r2) (e1 : Tm.dropF l1 0 = .node kp1 kl1 kr1) (e2 : Tm.dropF l2 0 = .node kp2 kl2 kr2) (g1 : Tm.dropF l1 1 = .node np1 nl1 nr1) (g2 : Tm.dropF l2 1 = .node np2 nl2 nr2) (hc : cv = 0) (hnum : np1.2.1 < np2.2.1) : RStep (strip lk20Ops) Q (fun i => ((lk20bEs M R (j + 1) j p1 l1 r1 p2 l2 r2 kp1 kl1 kr1 kp2 kl2 kr2 np1 nl1 nr1 np2 nl2 nr2 cv)[i]?).getD .any) (fun i => (lk20bDs[i]?).getD (1000 + i)) (look (lk20bEnv M R (j + 1) j p1 l1 r1 p2 l2 r2 kp1 kl1 kr1 kp2 kl2 kr2 np1 nl1 nr1 np2 nl2 nr2 cv)) 133 18 := fun _ => step_field3 (by kernel_rfl) (Opd.dep 17 rfl rfl (by kernel_rfl)) rfl
theorem lk20b_19 {Q : Exit → Act → World → Prop} (M R : Fo) (kk : Nat) (j : Nat) (p1 : Pay) (l1 r1 : Fo) (p2 : Pay) (l2 r2 : Fo) (kp1 : Pay) (kl1 kr1 : Fo) (kp2 : Pay) (kl2 kr2 : Fo) (np1 : Pay) (nl1 nr1 : Fo) (np2 : Pay) (nl2 nr2 : Fo) (cv : Int) (hRn : Tm.len R ≤ 50000) (hj : j + 1 < Tm.len R) (d1 : Tm.dropF R ((j + 1) - 1) = .node p1 l1 r1) (d2 : Tm.dropF R (j + 1) = .node p2 l2 r2) (e1 : Tm.dropF l1 0 = .node kp1 kl1 kr1) (e2 : Tm.dropF l2 0 = .node kp2 kl2 kr2) (g1 : Tm.dropF l1 1 = .node np1 nl1 nr1) (g2 : Tm.dropF l2 1 = .node np2 nl2 nr2) (hc : cv = 0) (hnum : np1.2.1 < np2.2.1) : RStep (strip lk20Ops) Q (fun i => ((lk20bEs M R (j + 1) j p1 l1 r1 p2 l2 r2 kp1 kl1 kr1 kp2 kl2 kr2 np1 nl1 nr1 np2 nl2 nr2 cv)[i]?).getD .any) (fun i => (lk20bDs[i]?).getD (1000 + i)) (look (lk20bEnv M R (j + 1) j p1 l1 r1 p2 l2 r2 kp1 kl1 kr1 kp2 kl2 kr2 np1 nl1 nr1 np2 nl2 nr2 cv)) 133 19 := fun _ => step_load_row (by kernel_rfl) (Opd.dep 18 rfl rfl (by kernel_rfl)) rfl
theorem lk20b_20 {Q : Exit → Act → World → Prop} (M R : Fo) (kk : Nat) (j : Nat) (p1 : Pay) (l1 r1 : Fo) (p2 : Pay) (l2 r2 : Fo) (kp1 : Pay) (kl1 kr1 : Fo) (kp2 : Pay) (kl2 kr2 : Fo) (np1 : Pay) (nl1 nr1 : Fo) (np2 : Pay) (nl2 nr2 : Fo) (cv : Int) (hRn : Tm.len R ≤ 50000) (hj : j + 1 < Tm.len R) (d1 : Tm.dropF R ((j + 1) - 1) = .node p1 l1 r1) (d2 : Tm.dropF R (j + 1) = .node p2 l2 r2) (e1 : Tm.dropF l1 0 = .node kp1 kl1 kr1) (e2 : Tm.dropF l2 0 = .node kp2 kl2 kr2) (g1 : Tm.dropF l1 1 = .node np1 nl1 nr1) (g2 : Tm.dropF l2 1 = .node np2 nl2 nr2) (hc : cv = 0) (hnum : np1.2.1 < np2.2.1) : RStep (strip lk20Ops) Q (fun i => ((lk20bEs M R (j + 1) j p1 l1 r1 p2 l2 r2 kp1 kl1 kr1 kp2 kl2 kr2 np1 nl1 nr1 np2 nl2 nr2 cv)[i]?).getD .any) (fun i => (lk20bDs[i]?).getD (1000 + i)) (look (lk20bEnv M R (j + 1) j p1 l1 r1 p2 l2 r2 kp1 kl1 kr1 kp2 kl2 kr2 np1 nl1 nr1 np2 nl2 nr2 cv)) 133 20 := fun _ => step_row_at (k := 1) (r := nr2) (by kernel_rfl) (Opd.dep 19 rfl rfl (by kernel_rfl)) (Opd.const _) g2 rfl
theorem lk20b_21 {Q : Exit → Act → World → Prop} (M R : Fo) (kk : Nat) (j : Nat) (p1 : Pay) (l1 r1 : Fo) (p2 : Pay) (l2 r2 : Fo) (kp1 : Pay) (kl1 kr1 : Fo) (kp2 : Pay) (kl2 kr2 : Fo) (np1 : Pay) (nl1 nr1 : Fo) (np2 : Pay) (nl2 nr2 : Fo) (cv : Int) (hRn : Tm.len R ≤ 50000) (hj : j + 1 < Tm.len R) (d1 : Tm.dropF R ((j + 1) - 1) = .node p1 l1 r1) (d2 : Tm.dropF R (j + 1) = .node p2 l2 r2) (e1 : Tm.dropF l1 0 = .node kp1 kl1 kr1) (e2 : Tm.dropF l2 0 = .node kp2 kl2 kr2) (g1 : Tm.dropF l1 1 = .node np1 nl1 nr1) (g2 : Tm.dropF l2 1 = .node np2 nl2 nr2) (hc : cv = 0) (hnum : np1.2.1 < np2.2.1) : RStep (strip lk20Ops) Q (fun i => ((lk20bEs M R (j + 1) j p1 l1 r1 p2 l2 r2 kp1 kl1 kr1 kp2 kl2 kr2 np1 nl1 nr1 np2 nl2 nr2 cv)[i]?).getD .any) (fun i => (lk20bDs[i]?).getD (1000 + i)) (look (lk20bEnv M R (j + 1) j p1 l1 r1 p2 l2 r2 kp1 kl1 kr1 kp2 kl2 kr2 np1 nl1 nr1 np2 nl2 nr2 cv)) 133 21 := fun _ => step_field1 (by kernel_rfl) (Opd.dep 20 rfl rfl (by kernel_rfl)) rfl
theorem lk20b_22 {Q : Exit → Act → World → Prop} (M R : Fo) (kk : Nat) (j : Nat) (p1 : Pay) (l1 r1 : Fo) (p2 : Pay) (l2 r2 : Fo) (kp1 : Pay) (kl1 kr1 : Fo) (kp2 : Pay) (kl2 kr2 : Fo) (np1 : Pay) (nl1 nr1 : Fo) (np2 : Pay) (nl2 nr2 : Fo) (cv : Int) (hRn : Tm.len R ≤ 50000) (hj : j + 1 < Tm.len R) (d1 : Tm.dropF R ((j + 1) - 1) = .node p1 l1 r1) (d2 : Tm.dropF R (j + 1) = .node p2 l2 r2) (e1 : Tm.dropF l1 0 = .node kp1 kl1 kr1) (e2 : Tm.dropF l2 0 = .node kp2 kl2 kr2) (g1 : Tm.dropF l1 1 = .node np1 nl1 nr1) (g2 : Tm.dropF l2 1 = .node np2 nl2 nr2) (hc : cv = 0) (hnum : np1.2.1 < np2.2.1) : RStep (strip lk20Ops) Q (fun i => ((lk20bEs M R (j + 1) j p1 l1 r1 p2 l2 r2 kp1 kl1 kr1 kp2 kl2 kr2 np1 nl1 nr1 np2 nl2 nr2 cv)[i]?).getD .any) (fun i => (lk20bDs[i]?).getD (1000 + i)) (look (lk20bEnv M R (j + 1) j p1 l1 r1 p2 l2 r2 kp1 kl1 kr1 kp2 kl2 kr2 np1 nl1 nr1 np2 nl2 nr2 cv)) 133 22 := fun _ => step_load_int (by kernel_rfl) (Opd.dep 21 rfl rfl (by kernel_rfl)) rfl
theorem lk20b_23 {Q : Exit → Act → World → Prop} (M R : Fo) (kk : Nat) (j : Nat) (p1 : Pay) (l1 r1 : Fo) (p2 : Pay) (l2 r2 : Fo) (kp1 : Pay) (kl1 kr1 : Fo) (kp2 : Pay) (kl2 kr2 : Fo) (np1 : Pay) (nl1 nr1 : Fo) (np2 : Pay) (nl2 nr2 : Fo) (cv : Int) (hRn : Tm.len R ≤ 50000) (hj : j + 1 < Tm.len R) (d1 : Tm.dropF R ((j + 1) - 1) = .node p1 l1 r1) (d2 : Tm.dropF R (j + 1) = .node p2 l2 r2) (e1 : Tm.dropF l1 0 = .node kp1 kl1 kr1) (e2 : Tm.dropF l2 0 = .node kp2 kl2 kr2) (g1 : Tm.dropF l1 1 = .node np1 nl1 nr1) (g2 : Tm.dropF l2 1 = .node np2 nl2 nr2) (hc : cv = 0) (hnum : np1.2.1 < np2.2.1) : RStep (strip lk20Ops) Q (fun i => ((lk20bEs M R (j + 1) j p1 l1 r1 p2 l2 r2 kp1 kl1 kr1 kp2 kl2 kr2 np1 nl1 nr1 np2 nl2 nr2 cv)[i]?).getD .any) (fun i => (lk20bDs[i]?).getD (1000 + i)) (look (lk20bEnv M R (j + 1) j p1 l1 r1 p2 l2 r2 kp1 kl1 kr1 kp2 kl2 kr2 np1 nl1 nr1 np2 nl2 nr2 cv)) 133 23 := fun _ => step_ge_int64 (m := (np1.2.1)) (n := (np2.2.1)) (by kernel_rfl) (Opd.dep 14 rfl rfl (by kernel_rfl)) (Opd.dep 22 rfl rfl (by kernel_rfl)) (decide_eq_false (by omega)) rfl
theorem lk20b_24 {Q : Exit → Act → World → Prop} (M R : Fo) (kk : Nat) (j : Nat) (p1 : Pay) (l1 r1 : Fo) (p2 : Pay) (l2 r2 : Fo) (kp1 : Pay) (kl1 kr1 : Fo) (kp2 : Pay) (kl2 kr2 : Fo) (np1 : Pay) (nl1 nr1 : Fo) (np2 : Pay) (nl2 nr2 : Fo) (cv : Int) (hRn : Tm.len R ≤ 50000) (hj : j + 1 < Tm.len R) (d1 : Tm.dropF R ((j + 1) - 1) = .node p1 l1 r1) (d2 : Tm.dropF R (j + 1) = .node p2 l2 r2) (e1 : Tm.dropF l1 0 = .node kp1 kl1 kr1) (e2 : Tm.dropF l2 0 = .node kp2 kl2 kr2) (g1 : Tm.dropF l1 1 = .node np1 nl1 nr1) (g2 : Tm.dropF l2 1 = .node np2 nl2 nr2) (hc : cv = 0) (hnum : np1.2.1 < np2.2.1) : RStep (strip lk20Ops) Q (fun i => ((lk20bEs M R (j + 1) j p1 l1 r1 p2 l2 r2 kp1 kl1 kr1 kp2 kl2 kr2 np1 nl1 nr1 np2 nl2 nr2 cv)[i]?).getD .any) (fun i => (lk20bDs[i]?).getD (1000 + i)) (look (lk20bEnv M R (j + 1) j p1 l1 r1 p2 l2 r2 kp1 kl1 kr1 kp2 kl2 kr2 np1 nl1 nr1 np2 nl2 nr2 cv)) 133 24 := fun _ => step_pick_yes (y := .const (.bool false)) (by kernel_rfl) (Opd.dep 5 rfl rfl (by kernel_rfl)) (Opd.dep 23 rfl rfl (by kernel_rfl)) rfl
theorem lk20b_25 {Q : Exit → Act → World → Prop} (M R : Fo) (kk : Nat) (j : Nat) (p1 : Pay) (l1 r1 : Fo) (p2 : Pay) (l2 r2 : Fo) (kp1 : Pay) (kl1 kr1 : Fo) (kp2 : Pay) (kl2 kr2 : Fo) (np1 : Pay) (nl1 nr1 : Fo) (np2 : Pay) (nl2 nr2 : Fo) (cv : Int) (hRn : Tm.len R ≤ 50000) (hj : j + 1 < Tm.len R) (d1 : Tm.dropF R ((j + 1) - 1) = .node p1 l1 r1) (d2 : Tm.dropF R (j + 1) = .node p2 l2 r2) (e1 : Tm.dropF l1 0 = .node kp1 kl1 kr1) (e2 : Tm.dropF l2 0 = .node kp2 kl2 kr2) (g1 : Tm.dropF l1 1 = .node np1 nl1 nr1) (g2 : Tm.dropF l2 1 = .node np2 nl2 nr2) (hc : cv = 0) (hnum : np1.2.1 < np2.2.1) : RStep (strip lk20Ops) Q (fun i => ((lk20bEs M R (j + 1) j p1 l1 r1 p2 l2 r2 kp1 kl1 kr1 kp2 kl2 kr2 np1 nl1 nr1 np2 nl2 nr2 cv)[i]?).getD .any) (fun i => (lk20bDs[i]?).getD (1000 + i)) (look (lk20bEnv M R (j + 1) j p1 l1 r1 p2 l2 r2 kp1 kl1 kr1 kp2 kl2 kr2 np1 nl1 nr1 np2 nl2 nr2 cv)) 133 25 := fun _ => step_pick_no (x := .const (.bool true)) (by kernel_rfl) (Opd.dep 2 rfl rfl (by kernel_rfl)) (Opd.dep 24 rfl rfl (by kernel_rfl)) rfl
theorem lk20b_region {Q : Exit → Act → World → Prop} (M R : Fo) (kk : Nat) (j : Nat) (p1 : Pay) (l1 r1 : Fo) (p2 : Pay) (l2 r2 : Fo) (kp1 : Pay) (kl1 kr1 : Fo) (kp2 : Pay) (kl2 kr2 : Fo) (np1 : Pay) (nl1 nr1 : Fo) (np2 : Pay) (nl2 nr2 : Fo) (cv : Int) (hRn : Tm.len R ≤ 50000) (hj : j + 1 < Tm.len R) (d1 : Tm.dropF R ((j + 1) - 1) = .node p1 l1 r1) (d2 : Tm.dropF R (j + 1) = .node p2 l2 r2) (e1 : Tm.dropF l1 0 = .node kp1 kl1 kr1) (e2 : Tm.dropF l2 0 = .node kp2 kl2 kr2) (g1 : Tm.dropF l1 1 = .node np1 nl1 nr1) (g2 : Tm.dropF l2 1 = .node np2 nl2 nr2) (hc : cv = 0) (hnum : np1.2.1 < np2.2.1) {w0 : World} {a : Act} {w : World} (h : Hold 133 [(9, .val (.int .i64 (((j + 1) : Nat) : Int))), (7, .row R), (3, .row M), (10, .val (.int .i64 cv)), (999, .tabs)] w0 a w)
    (hQ : ∀ a' w', Hold 133 [(9, .val (.int .i64 (((j + 1) : Nat) : Int))), (7, .row R), (3, .row M), (131, .val (.bool false)), (999, .tabs)] w0 a' w' → Q .normal a' w') : (Code.region 20 lk20Ops true).wp Tryd.prog Q a w := by
  have hall : ∀ i, i < 0 → RStep (strip lk20Ops) Q (fun i => ((lk20bEs M R (j + 1) j p1 l1 r1 p2 l2 r2 kp1 kl1 kr1 kp2 kl2 kr2 np1 nl1 nr1 np2 nl2 nr2 cv)[i]?).getD .any) (fun i => (lk20bDs[i]?).getD (1000 + i)) (look (lk20bEnv M R (j + 1) j p1 l1 r1 p2 l2 r2 kp1 kl1 kr1 kp2 kl2 kr2 np1 nl1 nr1 np2 nl2 nr2 cv)) 133 i := fun i hi => absurd hi (by omega)
  have hall := below_succ hall (lk20b_0 M R (j + 1) j p1 l1 r1 p2 l2 r2 kp1 kl1 kr1 kp2 kl2 kr2 np1 nl1 nr1 np2 nl2 nr2 cv hRn hj d1 d2 e1 e2 g1 g2 hc hnum)
  have hall := below_succ hall (lk20b_1 M R (j + 1) j p1 l1 r1 p2 l2 r2 kp1 kl1 kr1 kp2 kl2 kr2 np1 nl1 nr1 np2 nl2 nr2 cv hRn hj d1 d2 e1 e2 g1 g2 hc hnum)
  have hall := below_succ hall (lk20b_2 M R (j + 1) j p1 l1 r1 p2 l2 r2 kp1 kl1 kr1 kp2 kl2 kr2 np1 nl1 nr1 np2 nl2 nr2 cv hRn hj d1 d2 e1 e2 g1 g2 hc hnum)
  have hall := below_succ hall (lk20b_3 M R (j + 1) j p1 l1 r1 p2 l2 r2 kp1 kl1 kr1 kp2 kl2 kr2 np1 nl1 nr1 np2 nl2 nr2 cv hRn hj d1 d2 e1 e2 g1 g2 hc hnum)
  have hall := below_succ hall (lk20b_4 M R (j + 1) j p1 l1 r1 p2 l2 r2 kp1 kl1 kr1 kp2 kl2 kr2 np1 nl1 nr1 np2 nl2 nr2 cv hRn hj d1 d2 e1 e2 g1 g2 hc hnum)
  have hall := below_succ hall (lk20b_5 M R (j + 1) j p1 l1 r1 p2 l2 r2 kp1 kl1 kr1 kp2 kl2 kr2 np1 nl1 nr1 np2 nl2 nr2 cv hRn hj d1 d2 e1 e2 g1 g2 hc hnum)
  have hall := below_succ hall (lk20b_6 M R (j + 1) j p1 l1 r1 p2 l2 r2 kp1 kl1 kr1 kp2 kl2 kr2 np1 nl1 nr1 np2 nl2 nr2 cv hRn hj d1 d2 e1 e2 g1 g2 hc hnum)
  have hall := below_succ hall (lk20b_7 M R (j + 1) j p1 l1 r1 p2 l2 r2 kp1 kl1 kr1 kp2 kl2 kr2 np1 nl1 nr1 np2 nl2 nr2 cv hRn hj d1 d2 e1 e2 g1 g2 hc hnum)
  have hall := below_succ hall (lk20b_8 M R (j + 1) j p1 l1 r1 p2 l2 r2 kp1 kl1 kr1 kp2 kl2 kr2 np1 nl1 nr1 np2 nl2 nr2 cv hRn hj d1 d2 e1 e2 g1 g2 hc hnum)
  have hall := below_succ hall (lk20b_9 M R (j + 1) j p1 l1 r1 p2 l2 r2 kp1 kl1 kr1 kp2 kl2 kr2 np1 nl1 nr1 np2 nl2 nr2 cv hRn hj d1 d2 e1 e2 g1 g2 hc hnum)
  have hall := below_succ hall (lk20b_10 M R (j + 1) j p1 l1 r1 p2 l2 r2 kp1 kl1 kr1 kp2 kl2 kr2 np1 nl1 nr1 np2 nl2 nr2 cv hRn hj d1 d2 e1 e2 g1 g2 hc hnum)
  have hall := below_succ hall (lk20b_11 M R (j + 1) j p1 l1 r1 p2 l2 r2 kp1 kl1 kr1 kp2 kl2 kr2 np1 nl1 nr1 np2 nl2 nr2 cv hRn hj d1 d2 e1 e2 g1 g2 hc hnum)
  have hall := below_succ hall (lk20b_12 M R (j + 1) j p1 l1 r1 p2 l2 r2 kp1 kl1 kr1 kp2 kl2 kr2 np1 nl1 nr1 np2 nl2 nr2 cv hRn hj d1 d2 e1 e2 g1 g2 hc hnum)
  have hall := below_succ hall (lk20b_13 M R (j + 1) j p1 l1 r1 p2 l2 r2 kp1 kl1 kr1 kp2 kl2 kr2 np1 nl1 nr1 np2 nl2 nr2 cv hRn hj d1 d2 e1 e2 g1 g2 hc hnum)
  have hall := below_succ hall (lk20b_14 M R (j + 1) j p1 l1 r1 p2 l2 r2 kp1 kl1 kr1 kp2 kl2 kr2 np1 nl1 nr1 np2 nl2 nr2 cv hRn hj d1 d2 e1 e2 g1 g2 hc hnum)
  have hall := below_succ hall (lk20b_15 M R (j + 1) j p1 l1 r1 p2 l2 r2 kp1 kl1 kr1 kp2 kl2 kr2 np1 nl1 nr1 np2 nl2 nr2 cv hRn hj d1 d2 e1 e2 g1 g2 hc hnum)
  have hall := below_succ hall (lk20b_16 M R (j + 1) j p1 l1 r1 p2 l2 r2 kp1 kl1 kr1 kp2 kl2 kr2 np1 nl1 nr1 np2 nl2 nr2 cv hRn hj d1 d2 e1 e2 g1 g2 hc hnum)
  have hall := below_succ hall (lk20b_17 M R (j + 1) j p1 l1 r1 p2 l2 r2 kp1 kl1 kr1 kp2 kl2 kr2 np1 nl1 nr1 np2 nl2 nr2 cv hRn hj d1 d2 e1 e2 g1 g2 hc hnum)
  have hall := below_succ hall (lk20b_18 M R (j + 1) j p1 l1 r1 p2 l2 r2 kp1 kl1 kr1 kp2 kl2 kr2 np1 nl1 nr1 np2 nl2 nr2 cv hRn hj d1 d2 e1 e2 g1 g2 hc hnum)
  have hall := below_succ hall (lk20b_19 M R (j + 1) j p1 l1 r1 p2 l2 r2 kp1 kl1 kr1 kp2 kl2 kr2 np1 nl1 nr1 np2 nl2 nr2 cv hRn hj d1 d2 e1 e2 g1 g2 hc hnum)
  have hall := below_succ hall (lk20b_20 M R (j + 1) j p1 l1 r1 p2 l2 r2 kp1 kl1 kr1 kp2 kl2 kr2 np1 nl1 nr1 np2 nl2 nr2 cv hRn hj d1 d2 e1 e2 g1 g2 hc hnum)
  have hall := below_succ hall (lk20b_21 M R (j + 1) j p1 l1 r1 p2 l2 r2 kp1 kl1 kr1 kp2 kl2 kr2 np1 nl1 nr1 np2 nl2 nr2 cv hRn hj d1 d2 e1 e2 g1 g2 hc hnum)
  have hall := below_succ hall (lk20b_22 M R (j + 1) j p1 l1 r1 p2 l2 r2 kp1 kl1 kr1 kp2 kl2 kr2 np1 nl1 nr1 np2 nl2 nr2 cv hRn hj d1 d2 e1 e2 g1 g2 hc hnum)
  have hall := below_succ hall (lk20b_23 M R (j + 1) j p1 l1 r1 p2 l2 r2 kp1 kl1 kr1 kp2 kl2 kr2 np1 nl1 nr1 np2 nl2 nr2 cv hRn hj d1 d2 e1 e2 g1 g2 hc hnum)
  have hall := below_succ hall (lk20b_24 M R (j + 1) j p1 l1 r1 p2 l2 r2 kp1 kl1 kr1 kp2 kl2 kr2 np1 nl1 nr1 np2 nl2 nr2 cv hRn hj d1 d2 e1 e2 g1 g2 hc hnum)
  have hall := below_succ hall (lk20b_25 M R (j + 1) j p1 l1 r1 p2 l2 r2 kp1 kl1 kr1 kp2 kl2 kr2 np1 nl1 nr1 np2 nl2 nr2 cv hRn hj d1 d2 e1 e2 g1 g2 hc hnum)
  refine env_any4 (env := lk20bEnv M R (j + 1) j p1 l1 r1 p2 l2 r2 kp1 kl1 kr1 kp2 kl2 kr2 np1 nl1 nr1 np2 nl2 nr2 cv) (N := 133) (w0 := w0) lk20bDs (lk20bEs M R (j + 1) j p1 l1 r1 p2 l2 r2 kp1 kl1 kr1 kp2 kl2 kr2 np1 nl1 nr1 np2 nl2 nr2 cv) (by kernel_rfl) (by kernel_rfl) (of_decide_eq_true (by kernel_rfl)) (fun i_ hi_ => hall i_ (by rw [show (lk20bEs M R (j + 1) j p1 l1 r1 p2 l2 r2 kp1 kl1 kr1 kp2 kl2 kr2 np1 nl1 nr1 np2 nl2 nr2 cv).length = 26 by kernel_rfl] at hi_; exact hi_)) h fun a' w' h => ?_
  exact hQ a' w' (h.keep [9, 7, 3, 131, 999])
theorem lk14b_region {Q : Exit → Act → World → Prop} (M R : Fo)  {w0 : World} {a : Act} {w : World} (h : Hold 133 [(9, .val (.int .i64 (((Tm.len R) : Nat) : Int))), (7, .row R), (3, .row M), (999, .tabs)] w0 a w)
    (hQ : ∀ a' w', Hold 133 [(9, .val (.int .i64 (((Tm.len R) : Nat) : Int))), (7, .row R), (3, .row M), (60, .val (.bool false)), (999, .tabs)] w0 a' w' → Q .normal a' w') : (Code.region 14 lk14Ops false).wp Tryd.prog Q a w := by
  refine region_seq (w0 := w) 4 (by kernel_rfl) ?_
  rw [show List.range 4 = [0, 1, 2, 3] from rfl]
  refine env_one (i := 0) (d := 57) (k := .val (.int .i64 (((Tm.len R) : Nat) : Int))) (step_move (by kernel_rfl) (Opd.of_base 9 rfl) rfl) (by kernel_rfl) (by decide) h ?_
  clear h
  intro a w h
  refine env_one (i := 1) (d := 58) (k := .row R) (step_move (by kernel_rfl) (Opd.of_base 7 rfl) rfl) (by kernel_rfl) (by decide) h ?_
  clear h
  intro a w h
  refine env_one (i := 2) (d := 59) (k := .val (.int .i64 ((Tm.len R : Nat) : Int))) (step_len_row (by kernel_rfl) (Opd.of_base 58 rfl) rfl) (by kernel_rfl) (by decide) h ?_
  clear h
  intro a w h
  refine env_one (i := 3) (d := 60) (k := .val (.bool false)) (step_lt_int (m := (((Tm.len R) : Nat) : Int)) (n := ((Tm.len R : Nat) : Int)) (by kernel_rfl) (Opd.of_base 57 rfl) (Opd.of_base 59 rfl) (decide_eq_false (by omega)) rfl) (by kernel_rfl) (by decide) h ?_
  clear h
  intro a w h
  exact hQ a w (h.keep [9, 7, 3, 60, 999])
theorem lk22a_region {Q : Exit → Act → World → Prop} (M R : Fo)  {w0 : World} {a : Act} {w : World} (h : Hold 133 [(999, .tabs)] w0 a w)
    (hQ : ∀ a' w', Hold 133 [(2, .val (.bool true)), (999, .tabs)] w0 a' w' → Q .normal a' w') : (Code.region 22 lk22Ops false).wp Tryd.prog Q a w := by
  refine region_seq (w0 := w) 2 (by kernel_rfl) ?_
  rw [show List.range 2 = [0, 1] from rfl]
  refine env_one (i := 0) (d := 132) (k := .val (.bool true)) (step_awake 999 (by kernel_rfl) (Opd.of_base 999 rfl) rfl) (by kernel_rfl) (by decide) h ?_
  clear h
  intro a w h
  refine env_one (i := 1) (d := 2) (k := .val (.bool true)) (step_assign (by kernel_rfl) (Opd.of_base 132 rfl) rfl) (by kernel_rfl) (by decide) h ?_
  clear h
  intro a w h
  exact hQ a w (h.keep [2, 999])
theorem law_keyed (F : Fo) (A : Option Addr) (c : Nat) (w : World) (hA : ArgsB w w.heap.size A (Tm.len F) F) (hT : Tabs w) :
    Calls Tryd.prog 9 #[.slice A (Tm.len F) c] w fun e w' => e = .returned (.bool true) ∧ Below w.heap.size w w' := by
  refine calls_of_wp Tryd.func9 lk_body ?_
  obtain ⟨v0, hv0⟩ : ∃ v : Value, v = .slice A (Tm.len F) c := ⟨_, rfl⟩
  rw [← hv0]
  have hk0 : (Kd.row F).R v0 w := ⟨A, c, hv0, hA⟩
  have hsN : (#[v0] ++ Array.replicate (Tryd.f9.ntmps - #[v0].size) undef : Array Value).size = 133 := by kernel_rfl
  have gs0 : (#[v0] ++ Array.replicate (Tryd.f9.ntmps - #[v0].size) undef : Array Value).getD 0 undef = v0 := by kernel_rfl
  generalize (#[v0] ++ Array.replicate (Tryd.f9.ntmps - #[v0].size) undef : Array Value) = tm at hsN gs0 ⊢
  refine wp_seq ?_
  refine lk0a_region F  (w0 := w) ⟨hsN, rfl, Below.refl _ _, (slots_cons 0 (by rw [gs0]; exact hk0) (slots_cons 999 (k0 := .tabs) hT slots_nil))⟩ ?_
  intro a w1 h
  show Code.wp _ _ _ a w1
  refine wp_seq ?_
  refine lk1a_region F  h ?_
  intro a w1 h
  obtain ⟨K, hK⟩ : ∃ K : Fo, K = Tm.takeF F 40 := ⟨_, rfl⟩
  rw [← hK] at h
  have hK40 : Tm.len K ≤ 40 := by rw [hK]; exact few_len F
  have hKn : Tm.len K ≤ 50000 := by omega
  show Code.wp _ _ _ a w1
  refine wp_seq ?_
  have hb0 := h.world
  obtain ⟨wz, rfl⟩ : ∃ wz : World, wz = w1 := ⟨_, rfl⟩
  have h := (h.since rfl).keep [0, 998, 999]
  refine lk2a_region K wz  h ?_
  intro a w1 h
  have h : Hold 133 [(0, .sat (oldP (.row K) wz)), (998, .sat (oldP .tabs wz)), (999, .tabs), (3, .sat (apP wz.heap.size (keyF K 0)))] wz a w1 := ⟨h.size, h.defers, h.world, slots_cons 0 (h.get 0 rfl) (slots_cons 998 (h.get 998 rfl) (slots_cons 999 (h.get 999 rfl) (slots_cons 3 ⟨none, 0, by rw [keyF_len K 0 (Nat.zero_le _)]; exact h.get 3 rfl, by rw [keyF_len K 0 (Nat.zero_le _), keyF_zero]; exact OwnR.start h.world.size⟩ slots_nil)))⟩
  show Code.wp _ _ _ a w1
  refine wp_seq ?_
  refine wp_seq ?_
  refine lk3a_region K wz  h ?_
  intro a w1 h
  show Code.wp _ _ _ a w1
  refine wp_block ?_
  have h := h.keep [4, 0, 3, 998, 999]
  refine wp_for (n := (Tm.len K)) (fun kk a w1 => Hold 133 [(4, .val (.int .i64 ((kk : Nat) : Int))), (0, .sat (oldP (.row K) wz)), (3, .sat (apP wz.heap.size (keyF K kk))), (998, .sat (oldP .tabs wz)), (999, .tabs)] wz a w1) h ?_ ?_
  · intro kk a w1 hi h
    refine wp_seq ?_
    refine wp_seq ?_
    refine lk4a_region K wz kk hi h ?_
    intro a w1 h
    show Code.wp _ _ _ a w1
    refine env_cond (b := true) rfl h ?_
    refine wp_skip ?_
    have h := h.keep [4, 0, 3, 998, 999]
    show Code.wp _ _ _ a w1
    refine wp_seq ?_
    refine wp_block ?_
    obtain ⟨p1, l1, r1, d1⟩ := Tm.drop_at (F := K) (k := kk) hi
    refine lk6x_region K wz kk p1 l1 r1 d1 (by omega) (h.keep [3, 0, 4, 998]) ?_
    intro a w1 h
    show Code.wp _ _ _ a w1
    refine lk5a_region K wz kk hKn hi h ?_
    intro a w1 h
    exact h.keep [4, 0, 3, 998, 999]
  · intro a w1 h
    refine wp_seq ?_
    refine wp_seq ?_
    refine lk4b_region K wz  h ?_
    intro a w1 h
    show Code.wp _ _ _ a w1
    refine env_cond (b := false) rfl h ?_
    refine wp_exit ?_
    have h := h.keep [3, 998, 999]
    show Code.wp _ _ _ a w1
    refine wp_seq ?_
    refine wp_seq ?_
    obtain ⟨M, hM⟩ : ∃ M : Fo, M = keyF K (Tm.len K) := ⟨_, rfl⟩
    rw [← hM] at h
    have hMl : Tm.len M = Tm.len K := by rw [hM]; exact keyF_len K _ (Nat.le_refl _)
    have hMn : Tm.len M ≤ 50000 := by omega
    have h : Hold 133 [(3, .row M), (999, .tabs)] wz a w1 := ⟨h.size, h.defers, h.world, slots_cons 3 (apP.to (h.get 3 rfl) (by omega)) (slots_cons 999 (h.get 999 rfl) slots_nil)⟩
    cases hv : Tm.allV M
    · refine lk7a_region K M wz hMn hv h ?_
      intro a w1 h
      show Code.wp _ _ _ a w1
      refine env_cond (b := true) rfl h ?_
      have h := h.keep [3, 999]
      show Code.wp _ _ _ a w1
      refine wp_seq ?_
      refine lk8a_region K M wz hMn h ?_
      intro a w1 h
      have hq : (keysR M).2 = 1 := by unfold keysR; rw [hv]; rfl
      rw [hq] at h
      show Code.wp _ _ _ a w1
      refine wp_seq ?_
      refine lk9a_region K M wz  h ?_
      intro a w1 h
      show Code.wp _ _ _ a w1
      refine wp_ret ?_
      (try simp only [then_ret, block_ret])
      refine law_out rfl (h.get 2 rfl) h.defers ⟨rfl, hb0.trans (h.world.mono hb0.size)⟩
    · refine lk7b_region K M wz hMn hv h ?_
      intro a w1 h
      show Code.wp _ _ _ a w1
      refine env_cond (b := false) rfl h ?_
      refine wp_skip ?_
      have h := h.keep [3, 999]
      show Code.wp _ _ _ a w1
      refine wp_seq ?_
      obtain ⟨R, hR, hR0, hRl, hRv, hRe, hRc, hMc, hRs⟩ := keyed_facts (K := K) (by rw [← hM]; exact hv)
      rw [← hM] at hR hR0 hRl hMc
      have hRn : Tm.len R ≤ 50000 := by omega
      refine lk10a_region K M wz hMn h ?_
      intro a w1 h
      rw [← hR, hR0] at h
      show Code.wp _ _ _ a w1
      refine wp_seq ?_
      refine wp_seq ?_
      refine lk11a_region M R hRl h ?_
      intro a w1 h
      show Code.wp _ _ _ a w1
      refine env_cond (b := false) rfl h ?_
      refine wp_skip ?_
      have h := h.keep [3, 7, 999]
      show Code.wp _ _ _ a w1
      refine wp_seq ?_
      refine wp_seq ?_
      refine lk13a_region M R  h ?_
      intro a w1 h
      show Code.wp _ _ _ a w1
      refine wp_block ?_
      have h := h.keep [9, 7, 3, 999]
      refine wp_for (n := (Tm.len R)) (fun kk a w1 => Hold 133 [(9, .val (.int .i64 ((kk : Nat) : Int))), (7, .row R), (3, .row M), (999, .tabs)] wz a w1) h ?_ ?_
      · intro kk a w1 hi h
        refine wp_seq ?_
        refine wp_seq ?_
        refine lk14a_region M R kk hi h ?_
        intro a w1 h
        show Code.wp _ _ _ a w1
        refine env_cond (b := true) rfl h ?_
        refine wp_skip ?_
        have h := h.keep [9, 7, 3, 999]
        show Code.wp _ _ _ a w1
        refine wp_seq ?_
        refine wp_block ?_
        refine wp_seq ?_
        refine wp_seq ?_
        obtain ⟨p1, l1, r1, d1⟩ := Tm.drop_at (F := R) (k := kk) hi
        have hl2 := keyed_len (hRe kk p1 l1 r1 d1)
        have hc1 := hRc p1 l1 (List.mem_of_getElem? (Tm.toL_at d1))
        have hc2 := hMc p1 l1 (List.mem_of_getElem? (Tm.toL_at d1))
        refine lk16a_region M R kk p1 l1 r1 hMn hRn d1 hl2 hc1 hc2 h ?_
        intro a w1 h
        show Code.wp _ _ _ a w1
        refine env_cond (b := false) rfl h ?_
        refine wp_skip ?_
        have h := h.keep [9, 7, 3, 999]
        show Code.wp _ _ _ a w1
        refine wp_seq ?_
        refine wp_seq ?_
        rcases Nat.eq_zero_or_pos kk with h0 | h0
        · refine lk18a_region M R kk h0 h ?_
          intro a w1 h
          show Code.wp _ _ _ a w1
          refine env_cond (b := true) rfl h ?_
          refine wp_exit ?_
          have h := h.keep [9, 7, 3, 999]
          show Code.wp _ _ _ a w1
          refine lk15a_region M R kk hRn hi h ?_
          intro a w1 h
          exact h.keep [9, 7, 3, 999]
        · obtain ⟨j, rfl⟩ : ∃ j, kk = j + 1 := ⟨kk - 1, by omega⟩
          have hj := hi
          refine lk18b_region M R (j + 1) j  h ?_
          intro a w1 h
          show Code.wp _ _ _ a w1
          refine env_cond (b := false) rfl h ?_
          refine wp_skip ?_
          have h := h.keep [9, 7, 3, 999]
          show Code.wp _ _ _ a w1
          refine wp_seq ?_
          obtain ⟨p1, l1, r1, d1⟩ := Tm.drop_at (F := R) (k := (j + 1) - 1) (by omega)
          obtain ⟨p2, l2, r2, d2⟩ := Tm.drop_at (F := R) (k := j + 1) hj
          obtain ⟨kp1, kl1, kr1, e1, kp2, kl2, kr2, e2, np1, nl1, nr1, g1, np2, nl2, nr2, g2, hcc⟩ := hRs j p1 l1 r1 p2 l2 r2 d1 d2
          refine lk19a_region M R (j + 1) j p1 l1 r1 p2 l2 r2 kp1 kl1 kr1 kp2 kl2 kr2 np1 nl1 nr1 np2 nl2 nr2 hRn hj d1 d2 e1 e2 h ?_
          intro a w1 h
          obtain ⟨cv, hcv⟩ : ∃ x, x = Tm.cmpV kp1 kl1 kp2 kl2 := ⟨_, rfl⟩
          rw [← hcv] at h hcc
          show Code.wp _ _ _ a w1
          refine wp_seq ?_
          rcases hcc with hc | ⟨hc, hnum⟩
          · refine lk20a_region M R (j + 1) j p1 l1 r1 p2 l2 r2 kp1 kl1 kr1 kp2 kl2 kr2 np1 nl1 nr1 np2 nl2 nr2 cv hRn hj d1 d2 e1 e2 g1 g2 hc h ?_
            intro a w1 h
            show Code.wp _ _ _ a w1
            refine env_cond (b := false) rfl h ?_
            refine wp_skip ?_
            have h := h.keep [9, 7, 3, 999]
            show Code.wp _ _ _ a w1
            refine lk15b_region M R (j + 1) j p1 l1 r1 p2 l2 r2 kp1 kl1 kr1 kp2 kl2 kr2 np1 nl1 nr1 np2 nl2 nr2 cv hRn hj h ?_
            intro a w1 h
            exact h.keep [9, 7, 3, 999]
          · refine lk20b_region M R (j + 1) j p1 l1 r1 p2 l2 r2 kp1 kl1 kr1 kp2 kl2 kr2 np1 nl1 nr1 np2 nl2 nr2 cv hRn hj d1 d2 e1 e2 g1 g2 hc hnum h ?_
            intro a w1 h
            show Code.wp _ _ _ a w1
            refine env_cond (b := false) rfl h ?_
            refine wp_skip ?_
            have h := h.keep [9, 7, 3, 999]
            show Code.wp _ _ _ a w1
            refine lk15b_region M R (j + 1) j p1 l1 r1 p2 l2 r2 kp1 kl1 kr1 kp2 kl2 kr2 np1 nl1 nr1 np2 nl2 nr2 cv hRn hj h ?_
            intro a w1 h
            exact h.keep [9, 7, 3, 999]
      · intro a w1 h
        refine wp_seq ?_
        refine wp_seq ?_
        refine lk14b_region M R  h ?_
        intro a w1 h
        show Code.wp _ _ _ a w1
        refine env_cond (b := false) rfl h ?_
        refine wp_exit ?_
        have h := h.keep [999]
        show Code.wp _ _ _ a w1
        refine wp_seq ?_
        refine lk22a_region M R  h ?_
        intro a w1 h
        show Code.wp _ _ _ a w1
        refine wp_ret ?_
        (try simp only [then_ret, block_ret])
        refine law_out rfl (h.get 2 rfl) h.defers ⟨rfl, hb0.trans (h.world.mono hb0.size)⟩
end Go.Proofs.YtcjakmafojbhlaaDoor
