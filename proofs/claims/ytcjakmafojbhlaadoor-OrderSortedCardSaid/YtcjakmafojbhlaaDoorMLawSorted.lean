/-
  The statement OrderSorted, as its function.
-/
import Derived.Test.YtcjakmafojbhlaaDoorMLawRanked
import Derived.Test.YtcjakmafojbhlaaDoorPartI
namespace Go.Proofs.YtcjakmafojbhlaaDoor
set_option linter.unusedVariables false
set_option linter.unusedSimpArgs false
open Go.RowKit
theorem allV_perm {L T : Fo} (hv : Tm.allV L = true) (h : (Tm.toL T).Perm (Tm.toL L)) : Tm.allV T = true := Tm.allV_iff.2 fun x hx => Tm.allV_iff.1 hv x (h.mem_iff.1 hx)
theorem sorted_facts {L T : Fo} (hv : Tm.allV L = true) (hT : (Tm.toL T).Perm (Tm.toL L)) : ∃ S G : Fo, S = (sortR L).1 ∧ G = (stableR L).1 ∧ (sortR L).2 = 0 ∧ (stableR L).2 = 0 ∧ sortR T = sortR L ∧ stableR T = stableR L ∧ (sortR G).1 = S ∧ (sortR G).2 = 0 ∧
    Tm.allV S = true ∧ (Tm.toL S).Pairwise (fun s t => Tm.cmpP s t < 0) ∧ Tm.allV G = true ∧ (Tm.toL G).Pairwise (fun s t => Tm.cmpP s t ≤ 0) ∧ Tm.len G = Tm.len L ∧ (∀ p l, Tm.countF G p l = Tm.countF L p l) ∧ (∀ p l, (p, l) ∈ Tm.toL L → Tm.countF S p l = 1) ∧
    (∀ p l, (p, l) ∈ Tm.toL S → (((Tm.countF L p l : Nat) : Int) == 0) = false) := by
  obtain ⟨hSv, hS2⟩ := sortR_valid hv
  have hG : (stableR L).1 = Tm.ofL (Tm.sortL false (Tm.toL L)) := by unfold stableR; rw [if_pos hv]
  have hGt : Tm.toL (stableR L).1 = Tm.sortL false (Tm.toL L) := by rw [hG, Tm.toL_ofL]
  have hS : (sortR L).1 = Tm.ofL (Tm.uniq (Tm.sortL false (Tm.toL L))) := by unfold sortR; rw [if_pos hv]
  have hSt : Tm.toL (sortR L).1 = Tm.uniq (Tm.sortL false (Tm.toL L)) := by rw [hS, Tm.toL_ofL]
  have hGp : (Tm.toL (stableR L).1).Perm (Tm.toL L) := by rw [hGt]; exact Tm.sortL_perm false _
  have hGv := allV_perm hv hGp
  have hTv := allV_perm hv hT
  refine ⟨_, _, rfl, rfl, by unfold sortR; rw [if_pos hv], by unfold stableR; rw [if_pos hv], ?_, ?_, ?_, ?_, hSv, hS2, hGv, by rw [hGt]; exact Tm.sortL_le _, ?_, fun p l => Tm.countF_perm hGp p l, fun p l hm => Tm.countF_one hSv hS2 ?_, fun p l hm => ?_⟩
  · unfold sortR; rw [if_pos hTv, if_pos hv, Tm.sortL_of_perm hT]
  · unfold stableR; rw [if_pos hTv, if_pos hv, Tm.sortL_of_perm hT]
  · rw [hS]; unfold sortR; rw [if_pos hGv, hGt, Tm.sortL_again]
  · unfold sortR; rw [if_pos hGv]
  · rw [← Tm.len_toL, ← Tm.len_toL]; exact hGp.length_eq
  · rw [hSt]; exact Tm.mem_uniq.2 (Tm.sortL_mem.2 hm)
  · rw [hSt] at hm
    have := Tm.countF_pos hv (Tm.sortL_mem.1 (Tm.uniq_mem hm))
    rw [beq_eq_false_iff_ne]
    omega
theorem consec {G : Fo} {R : Int → Prop} (hv : Tm.allV G = true) (hs : (Tm.toL G).Pairwise (fun s t => R (Tm.cmpP s t))) {j : Nat} {p1 p2 : Pay} {l1 r1 l2 r2 : Fo} (d1 : Tm.dropF G ((j + 1) - 1) = .node p1 l1 r1) (d2 : Tm.dropF G (j + 1) = .node p2 l2 r2) : R (Tm.cmpV p1 l1 p2 l2) := by
  have x1 := Tm.toL_at d1
  have x2 := Tm.toL_at d2
  rw [Nat.add_sub_cancel] at x1
  obtain ⟨h1, e1⟩ := List.getElem?_eq_some_iff.1 x1
  obtain ⟨h2, e2⟩ := List.getElem?_eq_some_iff.1 x2
  have := List.pairwise_iff_getElem.1 hs j (j + 1) h1 h2 (by omega)
  rw [e1, e2] at this
  rw [Tm.cmpV_of (Tm.allV_iff.1 hv _ (List.mem_of_getElem? x1)) (Tm.allV_iff.1 hv _ (List.mem_of_getElem? x2))]
  exact this
theorem le_at {G : Fo} (hv : Tm.allV G = true) (hs : (Tm.toL G).Pairwise (fun s t => Tm.cmpP s t ≤ 0)) {j : Nat} {p1 p2 : Pay} {l1 r1 l2 r2 : Fo} (d1 : Tm.dropF G ((j + 1) - 1) = .node p1 l1 r1) (d2 : Tm.dropF G (j + 1) = .node p2 l2 r2) : Tm.cmpV p1 l1 p2 l2 ≤ 0 := consec (R := fun x => x ≤ 0) hv hs d1 d2
theorem lt_at {G : Fo} (hv : Tm.allV G = true) (hs : (Tm.toL G).Pairwise (fun s t => Tm.cmpP s t < 0)) {j : Nat} {p1 p2 : Pay} {l1 r1 l2 r2 : Fo} (d1 : Tm.dropF G ((j + 1) - 1) = .node p1 l1 r1) (d2 : Tm.dropF G (j + 1) = .node p2 l2 r2) : Tm.cmpV p1 l1 p2 l2 < 0 := consec (R := fun x => x < 0) hv hs d1 d2
theorem rank_here {S : Fo} (hv : Tm.allV S = true) (hs : (Tm.toL S).Pairwise (fun s t => Tm.cmpP s t < 0)) {k : Nat} (hk : k < Tm.len S) {p : Pay} {l r : Fo} (d : Tm.dropF S k = .node p l r) : rankI S p l = ((k : Nat) : Int) ∧ rankB S p l = true := by
  have x := Tm.toL_at d
  have ht := Tm.allV_iff.1 hv _ (List.mem_of_getElem? x)
  have hq := rank_yes (F := S) (p := p) (l := l) (by rw [ht, hv, Tm.incB_of_pairwise hs]; rfl)
  have hr := Tm.rankOf_at hs (k := k) (by rw [Tm.len_toL]; exact hk)
  rw [toL_get d] at hr
  rw [hq.1, hq.2, hr.1, hr.2]
  exact ⟨rfl, rfl⟩
noncomputable def ls0Ops : Array Oper := ((Tryd.f8.body).bind (findReg 0)).getD #[]
noncomputable def ls1Ops : Array Oper := ((Tryd.f8.body).bind (findReg 1)).getD #[]
noncomputable def ls2Ops : Array Oper := ((Tryd.f8.body).bind (findReg 2)).getD #[]
noncomputable def ls3Ops : Array Oper := ((Tryd.f8.body).bind (findReg 3)).getD #[]
noncomputable def ls4Ops : Array Oper := ((Tryd.f8.body).bind (findReg 4)).getD #[]
noncomputable def ls5Ops : Array Oper := ((Tryd.f8.body).bind (findReg 5)).getD #[]
noncomputable def ls6Ops : Array Oper := ((Tryd.f8.body).bind (findReg 6)).getD #[]
noncomputable def ls7Ops : Array Oper := ((Tryd.f8.body).bind (findReg 7)).getD #[]
noncomputable def ls8Ops : Array Oper := ((Tryd.f8.body).bind (findReg 8)).getD #[]
noncomputable def ls9Ops : Array Oper := ((Tryd.f8.body).bind (findReg 9)).getD #[]
noncomputable def ls10Ops : Array Oper := ((Tryd.f8.body).bind (findReg 10)).getD #[]
noncomputable def ls11Ops : Array Oper := ((Tryd.f8.body).bind (findReg 11)).getD #[]
noncomputable def ls12Ops : Array Oper := ((Tryd.f8.body).bind (findReg 12)).getD #[]
noncomputable def ls13Ops : Array Oper := ((Tryd.f8.body).bind (findReg 13)).getD #[]
noncomputable def ls14Ops : Array Oper := ((Tryd.f8.body).bind (findReg 14)).getD #[]
noncomputable def ls15Ops : Array Oper := ((Tryd.f8.body).bind (findReg 15)).getD #[]
noncomputable def ls16Ops : Array Oper := ((Tryd.f8.body).bind (findReg 16)).getD #[]
noncomputable def ls17Ops : Array Oper := ((Tryd.f8.body).bind (findReg 17)).getD #[]
noncomputable def ls18Ops : Array Oper := ((Tryd.f8.body).bind (findReg 18)).getD #[]
noncomputable def ls19Ops : Array Oper := ((Tryd.f8.body).bind (findReg 19)).getD #[]
noncomputable def ls20Ops : Array Oper := ((Tryd.f8.body).bind (findReg 20)).getD #[]
noncomputable def ls21Ops : Array Oper := ((Tryd.f8.body).bind (findReg 21)).getD #[]
noncomputable def ls22Ops : Array Oper := ((Tryd.f8.body).bind (findReg 22)).getD #[]
noncomputable def ls23Ops : Array Oper := ((Tryd.f8.body).bind (findReg 23)).getD #[]
noncomputable def ls24Ops : Array Oper := ((Tryd.f8.body).bind (findReg 24)).getD #[]
noncomputable def ls25Ops : Array Oper := ((Tryd.f8.body).bind (findReg 25)).getD #[]
noncomputable def ls26Ops : Array Oper := ((Tryd.f8.body).bind (findReg 26)).getD #[]
noncomputable def ls27Ops : Array Oper := ((Tryd.f8.body).bind (findReg 27)).getD #[]
noncomputable def ls28Ops : Array Oper := ((Tryd.f8.body).bind (findReg 28)).getD #[]
noncomputable def ls29Ops : Array Oper := ((Tryd.f8.body).bind (findReg 29)).getD #[]
noncomputable def ls30Ops : Array Oper := ((Tryd.f8.body).bind (findReg 30)).getD #[]
noncomputable def ls31Ops : Array Oper := ((Tryd.f8.body).bind (findReg 31)).getD #[]
noncomputable def ls32Ops : Array Oper := ((Tryd.f8.body).bind (findReg 32)).getD #[]
noncomputable def ls33Ops : Array Oper := ((Tryd.f8.body).bind (findReg 33)).getD #[]
noncomputable def ls34Ops : Array Oper := ((Tryd.f8.body).bind (findReg 34)).getD #[]
noncomputable def ls35Ops : Array Oper := ((Tryd.f8.body).bind (findReg 35)).getD #[]
noncomputable def ls36Ops : Array Oper := ((Tryd.f8.body).bind (findReg 36)).getD #[]
noncomputable def ls37Ops : Array Oper := ((Tryd.f8.body).bind (findReg 37)).getD #[]
theorem ls_body : Tryd.f8.body = some (.seq (.region 0 ls0Ops false) (.seq (.region 1 ls1Ops false) (.seq (.seq (.region 2 ls2Ops false) (.cond (.tmp 28) (.seq (.region 3 ls3Ops false) .ret) .skip)) (.seq (.region 4 ls4Ops false) (.seq (.seq (.region 5 ls5Ops false) (.block 0 (.loop (.seq (.seq (.region 6 ls6Ops false) (.cond (.tmp 44) .skip (.exit 0))) (.seq (.block 1 (.seq (.region 8 ls8Ops true) (.region 9 ls9Ops true))) (.region 7 ls7Ops false)))))) (.seq (.region 10 ls10Ops false) (.seq (.region 11 ls11Ops false) (.seq (.region 12 ls12Ops false) (.seq (.region 13 ls13Ops false) (.seq (.region 14 ls14Ops false) (.seq (.seq (.region 15 ls15Ops false) (.cond (.tmp 122) (.seq (.region 16 ls16Ops false) .ret) .skip)) (.seq (.seq (.region 17 ls17Ops false) (.cond (.tmp 138) (.seq (.region 18 ls18Ops false) .ret) .skip)) (.seq (.seq (.region 19 ls19Ops false) (.block 2 (.loop (.seq (.seq (.region 20 ls20Ops false) (.cond (.tmp 142) .skip (.exit 2))) (.seq (.block 3 (.seq (.region 22 ls22Ops true) (.cond (.tmp 166) (.seq (.region 23 ls23Ops false) .ret) .skip))) (.region 21 ls21Ops false)))))) (.seq (.seq (.region 24 ls24Ops false) (.block 4 (.loop (.seq (.seq (.region 25 ls25Ops false) (.cond (.tmp 170) .skip (.exit 4))) (.seq (.block 5 (.seq (.region 27 ls27Ops true) (.cond (.tmp 187) (.seq (.region 28 ls28Ops false) .ret) .skip))) (.region 26 ls26Ops false)))))) (.seq (.seq (.region 29 ls29Ops false) (.block 6 (.loop (.seq (.seq (.region 30 ls30Ops false) (.cond (.tmp 191) .skip (.exit 6))) (.seq (.block 7 (.seq (.seq (.region 32 ls32Ops true) (.cond (.tmp 208) (.seq (.region 33 ls33Ops false) .ret) .skip)) (.seq (.region 34 ls34Ops false) (.seq (.region 35 ls35Ops false) (.cond (.tmp 233) (.seq (.region 36 ls36Ops false) .ret) .skip))))) (.region 31 ls31Ops false)))))) (.seq (.region 37 ls37Ops false) .ret)))))))))))))))) := by kernel_rfl
def ls9xEs (L : Fo) (Bs : List Nat) (wz : World) (kk : Nat) (T : Fo) (ii jj : Nat) (g c : Nat) (w1 : World) (A0 : Option Addr) (c0 : Nat) (A1 : Option Addr) (c1 : Nat) : List Kd := [
  .val (.slice (some ⟨g, 0, none⟩) (Tm.len T) c),
  .val (.int .i64 ((ii : Nat) : Int)),
  .val (.slice (some ⟨g, 0, none⟩) (Tm.len T) c),
  .val (.int .i64 ((jj : Nat) : Int)),
  .val (.slice (some ⟨g, 0, none⟩) (Tm.len T) c),
  .val (.int .i64 ((jj : Nat) : Int)),
  .val (.pointer (some ⟨g, jj * 4, none⟩)),
  .val (tv (tagged T)[jj]!.1.1 A1 (Tm.len (tagged T)[jj]!.1.2) c1),
  .val (.slice (some ⟨g, 0, none⟩) (Tm.len T) c),
  .val (.int .i64 ((ii : Nat) : Int)),
  .val (.pointer (some ⟨g, ii * 4, none⟩)),
  .val (tv (tagged T)[ii]!.1.1 A0 (Tm.len (tagged T)[ii]!.1.2) c0)]
def ls9xDs : List Nat := [59, 60, 61, 62, 63, 64, 65, 66, 67, 68, 69, 70]
def ls9xEnv (L : Fo) (Bs : List Nat) (wz : World) (kk : Nat) (T : Fo) (ii jj : Nat) (g c : Nat) (w1 : World) (A0 : Option Addr) (c0 : Nat) (A1 : Option Addr) (c1 : Nat) : Env := [(5, .val (.slice (some ⟨g, 0, none⟩) (Tm.len T) c)), (7, .val (.int .i64 ((ii : Nat) : Int))), (8, .val (.int .i64 ((jj : Nat) : Int))), (6, .val (.int .i64 ((kk : Nat) : Int))), (0, .sat (oldP (.row L) wz)), (1, .sat (oldP (.sat (u8P Bs)) wz)), (998, .sat (oldP .tabs wz)), (995, .sat (stP w1 g (tagged T))), (996, .sat (nodeP w1.heap.size g (ii * 4) (tagged T)[ii]!.1.1 (tagged T)[ii]!.1.2 A0 c0)), (997, .sat (nodeP w1.heap.size g (jj * 4) (tagged T)[jj]!.1.1 (tagged T)[jj]!.1.2 A1 c1))]
theorem ls9x_0 {Q : Exit → Act → World → Prop} (L : Fo) (Bs : List Nat) (wz : World) (kk : Nat) (T : Fo) (ii jj : Nat) (g c : Nat) (w1 : World) (A0 : Option Addr) (c0 : Nat) (A1 : Option Addr) (c1 : Nat) (hi : ii < Tm.len T) (hj : jj < Tm.len T) : RStep (strip ls9Ops) Q (fun i => ((ls9xEs L Bs wz kk T ii jj g c w1 A0 c0 A1 c1)[i]?).getD .any) (fun i => (ls9xDs[i]?).getD (1000 + i)) (look (ls9xEnv L Bs wz kk T ii jj g c w1 A0 c0 A1 c1)) 235 0 := fun _ => step_move (by kernel_rfl) (Opd.of_base 5 rfl) rfl
theorem ls9x_1 {Q : Exit → Act → World → Prop} (L : Fo) (Bs : List Nat) (wz : World) (kk : Nat) (T : Fo) (ii jj : Nat) (g c : Nat) (w1 : World) (A0 : Option Addr) (c0 : Nat) (A1 : Option Addr) (c1 : Nat) (hi : ii < Tm.len T) (hj : jj < Tm.len T) : RStep (strip ls9Ops) Q (fun i => ((ls9xEs L Bs wz kk T ii jj g c w1 A0 c0 A1 c1)[i]?).getD .any) (fun i => (ls9xDs[i]?).getD (1000 + i)) (look (ls9xEnv L Bs wz kk T ii jj g c w1 A0 c0 A1 c1)) 235 1 := fun _ => step_move (by kernel_rfl) (Opd.of_base 7 rfl) rfl
theorem ls9x_2 {Q : Exit → Act → World → Prop} (L : Fo) (Bs : List Nat) (wz : World) (kk : Nat) (T : Fo) (ii jj : Nat) (g c : Nat) (w1 : World) (A0 : Option Addr) (c0 : Nat) (A1 : Option Addr) (c1 : Nat) (hi : ii < Tm.len T) (hj : jj < Tm.len T) : RStep (strip ls9Ops) Q (fun i => ((ls9xEs L Bs wz kk T ii jj g c w1 A0 c0 A1 c1)[i]?).getD .any) (fun i => (ls9xDs[i]?).getD (1000 + i)) (look (ls9xEnv L Bs wz kk T ii jj g c w1 A0 c0 A1 c1)) 235 2 := fun _ => step_move (by kernel_rfl) (Opd.of_base 5 rfl) rfl
theorem ls9x_3 {Q : Exit → Act → World → Prop} (L : Fo) (Bs : List Nat) (wz : World) (kk : Nat) (T : Fo) (ii jj : Nat) (g c : Nat) (w1 : World) (A0 : Option Addr) (c0 : Nat) (A1 : Option Addr) (c1 : Nat) (hi : ii < Tm.len T) (hj : jj < Tm.len T) : RStep (strip ls9Ops) Q (fun i => ((ls9xEs L Bs wz kk T ii jj g c w1 A0 c0 A1 c1)[i]?).getD .any) (fun i => (ls9xDs[i]?).getD (1000 + i)) (look (ls9xEnv L Bs wz kk T ii jj g c w1 A0 c0 A1 c1)) 235 3 := fun _ => step_move (by kernel_rfl) (Opd.of_base 8 rfl) rfl
theorem ls9x_4 {Q : Exit → Act → World → Prop} (L : Fo) (Bs : List Nat) (wz : World) (kk : Nat) (T : Fo) (ii jj : Nat) (g c : Nat) (w1 : World) (A0 : Option Addr) (c0 : Nat) (A1 : Option Addr) (c1 : Nat) (hi : ii < Tm.len T) (hj : jj < Tm.len T) : RStep (strip ls9Ops) Q (fun i => ((ls9xEs L Bs wz kk T ii jj g c w1 A0 c0 A1 c1)[i]?).getD .any) (fun i => (ls9xDs[i]?).getD (1000 + i)) (look (ls9xEnv L Bs wz kk T ii jj g c w1 A0 c0 A1 c1)) 235 4 := fun _ => step_move (by kernel_rfl) (Opd.of_base 5 rfl) rfl
theorem ls9x_5 {Q : Exit → Act → World → Prop} (L : Fo) (Bs : List Nat) (wz : World) (kk : Nat) (T : Fo) (ii jj : Nat) (g c : Nat) (w1 : World) (A0 : Option Addr) (c0 : Nat) (A1 : Option Addr) (c1 : Nat) (hi : ii < Tm.len T) (hj : jj < Tm.len T) : RStep (strip ls9Ops) Q (fun i => ((ls9xEs L Bs wz kk T ii jj g c w1 A0 c0 A1 c1)[i]?).getD .any) (fun i => (ls9xDs[i]?).getD (1000 + i)) (look (ls9xEnv L Bs wz kk T ii jj g c w1 A0 c0 A1 c1)) 235 5 := fun _ => step_move (by kernel_rfl) (Opd.of_base 8 rfl) rfl
theorem ls9x_6 {Q : Exit → Act → World → Prop} (L : Fo) (Bs : List Nat) (wz : World) (kk : Nat) (T : Fo) (ii jj : Nat) (g c : Nat) (w1 : World) (A0 : Option Addr) (c0 : Nat) (A1 : Option Addr) (c1 : Nat) (hi : ii < Tm.len T) (hj : jj < Tm.len T) : RStep (strip ls9Ops) Q (fun i => ((ls9xEs L Bs wz kk T ii jj g c w1 A0 c0 A1 c1)[i]?).getD .any) (fun i => (ls9xDs[i]?).getD (1000 + i)) (look (ls9xEnv L Bs wz kk T ii jj g c w1 A0 c0 A1 c1)) 235 6 := fun _ => step_index_val (k := jj) (by omega) (by kernel_rfl) (Opd.dep 4 rfl rfl (by kernel_rfl)) (Opd.dep 5 rfl rfl (by kernel_rfl)) rfl
theorem ls9x_7 {Q : Exit → Act → World → Prop} (L : Fo) (Bs : List Nat) (wz : World) (kk : Nat) (T : Fo) (ii jj : Nat) (g c : Nat) (w1 : World) (A0 : Option Addr) (c0 : Nat) (A1 : Option Addr) (c1 : Nat) (hi : ii < Tm.len T) (hj : jj < Tm.len T) : RStep (strip ls9Ops) Q (fun i => ((ls9xEs L Bs wz kk T ii jj g c w1 A0 c0 A1 c1)[i]?).getD .any) (fun i => (ls9xDs[i]?).getD (1000 + i)) (look (ls9xEnv L Bs wz kk T ii jj g c w1 A0 c0 A1 c1)) 235 7 := fun _ => step_load_val 997 (by kernel_rfl) (Opd.dep 6 rfl rfl (by kernel_rfl)) (Opd.of_base 997 rfl) rfl
theorem ls9x_8 {Q : Exit → Act → World → Prop} (L : Fo) (Bs : List Nat) (wz : World) (kk : Nat) (T : Fo) (ii jj : Nat) (g c : Nat) (w1 : World) (A0 : Option Addr) (c0 : Nat) (A1 : Option Addr) (c1 : Nat) (hi : ii < Tm.len T) (hj : jj < Tm.len T) : RStep (strip ls9Ops) Q (fun i => ((ls9xEs L Bs wz kk T ii jj g c w1 A0 c0 A1 c1)[i]?).getD .any) (fun i => (ls9xDs[i]?).getD (1000 + i)) (look (ls9xEnv L Bs wz kk T ii jj g c w1 A0 c0 A1 c1)) 235 8 := fun _ => step_move (by kernel_rfl) (Opd.of_base 5 rfl) rfl
theorem ls9x_9 {Q : Exit → Act → World → Prop} (L : Fo) (Bs : List Nat) (wz : World) (kk : Nat) (T : Fo) (ii jj : Nat) (g c : Nat) (w1 : World) (A0 : Option Addr) (c0 : Nat) (A1 : Option Addr) (c1 : Nat) (hi : ii < Tm.len T) (hj : jj < Tm.len T) : RStep (strip ls9Ops) Q (fun i => ((ls9xEs L Bs wz kk T ii jj g c w1 A0 c0 A1 c1)[i]?).getD .any) (fun i => (ls9xDs[i]?).getD (1000 + i)) (look (ls9xEnv L Bs wz kk T ii jj g c w1 A0 c0 A1 c1)) 235 9 := fun _ => step_move (by kernel_rfl) (Opd.of_base 7 rfl) rfl
theorem ls9x_10 {Q : Exit → Act → World → Prop} (L : Fo) (Bs : List Nat) (wz : World) (kk : Nat) (T : Fo) (ii jj : Nat) (g c : Nat) (w1 : World) (A0 : Option Addr) (c0 : Nat) (A1 : Option Addr) (c1 : Nat) (hi : ii < Tm.len T) (hj : jj < Tm.len T) : RStep (strip ls9Ops) Q (fun i => ((ls9xEs L Bs wz kk T ii jj g c w1 A0 c0 A1 c1)[i]?).getD .any) (fun i => (ls9xDs[i]?).getD (1000 + i)) (look (ls9xEnv L Bs wz kk T ii jj g c w1 A0 c0 A1 c1)) 235 10 := fun _ => step_index_val (k := ii) (by omega) (by kernel_rfl) (Opd.dep 8 rfl rfl (by kernel_rfl)) (Opd.dep 9 rfl rfl (by kernel_rfl)) rfl
theorem ls9x_11 {Q : Exit → Act → World → Prop} (L : Fo) (Bs : List Nat) (wz : World) (kk : Nat) (T : Fo) (ii jj : Nat) (g c : Nat) (w1 : World) (A0 : Option Addr) (c0 : Nat) (A1 : Option Addr) (c1 : Nat) (hi : ii < Tm.len T) (hj : jj < Tm.len T) : RStep (strip ls9Ops) Q (fun i => ((ls9xEs L Bs wz kk T ii jj g c w1 A0 c0 A1 c1)[i]?).getD .any) (fun i => (ls9xDs[i]?).getD (1000 + i)) (look (ls9xEnv L Bs wz kk T ii jj g c w1 A0 c0 A1 c1)) 235 11 := fun _ => step_load_val 996 (by kernel_rfl) (Opd.dep 10 rfl rfl (by kernel_rfl)) (Opd.of_base 996 rfl) rfl
theorem ls9x_region {Q : Exit → Act → World → Prop} (L : Fo) (Bs : List Nat) (wz : World) (kk : Nat) (T : Fo) (ii jj : Nat) (wzb : Tm.len T ≤ 50000) (hi : ii < Tm.len T) (hj : jj < Tm.len T) {a : Act} {w : World} (h : Hold 235 [(5, .sat (ownP T wz)), (7, .val (.int .i64 ((ii : Nat) : Int))), (8, .val (.int .i64 ((jj : Nat) : Int))), (6, .val (.int .i64 ((kk : Nat) : Int))), (0, .sat (oldP (.row L) wz)), (1, .sat (oldP (.sat (u8P Bs)) wz)), (998, .sat (oldP .tabs wz))] wz a w) (hP : ∀ c (t : Option Tmp) v a w, Q (.panic c) (a.put t v) w → Q (.panic c) a w)
    (hQ : ∀ a' w', Hold 235 [(5, .sat (ownP (rowF (Go.Sort.swp (tagged T) ii jj)) wz)), (6, .val (.int .i64 ((kk : Nat) : Int))), (0, .sat (oldP (.row L) wz)), (1, .sat (oldP (.sat (u8P Bs)) wz)), (998, .sat (oldP .tabs wz)), (999, .tabs)] wz a' w' → Q .normal a' w') : (Code.region 9 ls9Ops true).wp Tryd.prog Q a w := by
  obtain ⟨A, c, e7, hA, hst⟩ := h.get 5 rfl
  obtain ⟨g, w1, rfl, hg, st⟩ := hst (by omega)
  have hsz : (tagged T).size = Tm.len T := tagged_size T
  obtain ⟨A0, c0, n0⟩ := st.row ii (by omega)
  obtain ⟨A1, c1, n1⟩ := st.row jj (by omega)
  have hgl : g < w.heap.size := Nat.lt_of_lt_of_le st.lt st.only.size
  have h2 : Hold 235 (ls9xEnv L Bs wz kk T ii jj g c w1 A0 c0 A1 c1) wz a w := ⟨h.size, h.defers, h.world, slots_cons 5 e7 (slots_cons 7 (h.get 7 rfl) (slots_cons 8 (h.get 8 rfl) (slots_cons 6 (h.get 6 rfl) (slots_cons 0 (h.get 0 rfl) (slots_cons 1 (h.get 1 rfl) (slots_cons 998 (h.get 998 rfl) (slots_cons 995 st (slots_cons 996 ⟨hgl, st.only.size, n0⟩ (slots_cons 997 ⟨hgl, st.only.size, n1⟩ slots_nil)))))))))⟩
  have hall : ∀ i, i < 0 → RStep (strip ls9Ops) Q (fun i => ((ls9xEs L Bs wz kk T ii jj g c w1 A0 c0 A1 c1)[i]?).getD .any) (fun i => (ls9xDs[i]?).getD (1000 + i)) (look (ls9xEnv L Bs wz kk T ii jj g c w1 A0 c0 A1 c1)) 235 i := fun i hi => absurd hi (by omega)
  have hall := below_succ hall (ls9x_0 L Bs wz kk T ii jj g c w1 A0 c0 A1 c1 hi hj)
  have hall := below_succ hall (ls9x_1 L Bs wz kk T ii jj g c w1 A0 c0 A1 c1 hi hj)
  have hall := below_succ hall (ls9x_2 L Bs wz kk T ii jj g c w1 A0 c0 A1 c1 hi hj)
  have hall := below_succ hall (ls9x_3 L Bs wz kk T ii jj g c w1 A0 c0 A1 c1 hi hj)
  have hall := below_succ hall (ls9x_4 L Bs wz kk T ii jj g c w1 A0 c0 A1 c1 hi hj)
  have hall := below_succ hall (ls9x_5 L Bs wz kk T ii jj g c w1 A0 c0 A1 c1 hi hj)
  have hall := below_succ hall (ls9x_6 L Bs wz kk T ii jj g c w1 A0 c0 A1 c1 hi hj)
  have hall := below_succ hall (ls9x_7 L Bs wz kk T ii jj g c w1 A0 c0 A1 c1 hi hj)
  have hall := below_succ hall (ls9x_8 L Bs wz kk T ii jj g c w1 A0 c0 A1 c1 hi hj)
  have hall := below_succ hall (ls9x_9 L Bs wz kk T ii jj g c w1 A0 c0 A1 c1 hi hj)
  have hall := below_succ hall (ls9x_10 L Bs wz kk T ii jj g c w1 A0 c0 A1 c1 hi hj)
  have hall := below_succ hall (ls9x_11 L Bs wz kk T ii jj g c w1 A0 c0 A1 c1 hi hj)
  refine env_then2 (m := 12) (n := 16) (i1 := 2) (d1 := 61) (t1 := 5) (i2 := 3) (d2 := 62) (t2 := 8) ls9xDs (ls9xEs L Bs wz kk T ii jj g c w1 A0 c0 A1 c1) rfl (by kernel_rfl) (by decide) (by decide) (by decide) (by decide) (by kernel_rfl) (of_decide_eq_true (by kernel_rfl)) (by kernel_rfl) (by kernel_rfl) (by kernel_rfl) rfl rfl rfl (by decide) rfl (by kernel_rfl) rfl rfl rfl (by decide) rfl (by decide) (by decide) (by kernel_rfl) (by kernel_rfl) (by kernel_rfl) (by kernel_rfl) (by kernel_rfl) (fun i_ hi_ => hall i_ hi_) h2 hP fun a' w' hq => ?_
  have st' : St w1 g (tagged T) w' := hq.get 995 rfl
  obtain ⟨_, _, n0'⟩ := hq.get 996 rfl
  obtain ⟨_, _, n1'⟩ := hq.get 997 rfl
  refine exch_ops (m := 12) (N := 235) (d1 := 71) (u1 := 66) (d2 := 72) (u2 := 70) (g := g) (n := Tm.len T) (cc := c) (i := ii) (j := jj) (d := tagged T) (A := A0) (B := A1) (c := c0) (e := c1) (x1 := .tmp 59) (y1 := .tmp 60) (x2 := .tmp 61) (y2 := .tmp 62) (by kernel_rfl) (by kernel_rfl) (by kernel_rfl) (by kernel_rfl) hq.size (by decide) (by decide) (by decide) (by decide) (by decide) (hq.get 59 rfl) (hq.get 60 rfl) (fun _ => (put_other (by decide)).trans (hq.get 61 rfl)) (fun _ => (put_other (by decide)).trans (hq.get 62 rfl)) (hq.get 66 rfl) (hq.get 70 rfl) st' hsz hi hj n0' n1' fun v v' w2 st2 ho => ?_
  have hb2 : Below wz.heap.size w' w2 := ho.below hq.world.size (fun k hk => by subst hk; exact hg)
  have hb3 : Below wz.heap.size wz w2 := hq.world.trans hb2
  have hget : ∀ x, x ≠ 71 → x ≠ 72 → ((a'.put (some 71) v).put (some 72) v').tmps.getD x undef = a'.tmps.getD x undef := fun x h1 h2 => (put_other h2).trans (put_other h1)
  refine hQ _ _ ⟨put_size.trans (put_size.trans hq.size), hq.defers, hb3, slots_cons 5 ?_ (slots_cons 6 (by rw [hget 6 (by decide) (by decide)]; exact hq.get 6 rfl) (slots_cons 0 (by rw [hget 0 (by decide) (by decide)]; exact ⟨(hq.get 0 rfl).1, hb3⟩) (slots_cons 1 (by rw [hget 1 (by decide) (by decide)]; exact ⟨(hq.get 1 rfl).1, hb3⟩) (slots_cons 998 (by rw [hget 998 (by decide) (by decide)]; exact ⟨(hq.get 998 rfl).1, hb3⟩) (slots_cons 999 (k0 := .tabs) (oldP.to (k := .tabs) (v := undef) ⟨(hq.get 998 rfl).1, hb3⟩) slots_nil)))))⟩
  rw [hget 5 (by decide) (by decide)]
  have hn2 : (Go.Sort.swp (tagged T) ii jj).size = Tm.len T := by rw [Go.Sort.size_swp]; exact hsz
  have hl2 : Tm.len (rowF (Go.Sort.swp (tagged T) ii jj)) = Tm.len T := by rw [rowF_len, hn2]
  refine ⟨some ⟨g, 0, none⟩, c, by rw [hl2]; exact hq.get 5 rfl, st2.argsIn (by omega), fun _ => ⟨g, w1, rfl, hg, st2.retag⟩⟩
theorem ls0a_region {Q : Exit → Act → World → Prop} (F : Fo) (Bs : List Nat)  {w0 : World} {a : Act} {w : World} (h : Hold 235 [(0, .row F), (1, .sat (u8P Bs)), (999, .tabs)] w0 a w)
    (hQ : ∀ a' w', Hold 235 [(0, .row F), (1, .sat (u8P Bs)), (4, .val (.bool false)), (999, .tabs)] w0 a' w' → Q .normal a' w') : (Code.region 0 ls0Ops false).wp Tryd.prog Q a w := by
  refine region_seq (w0 := w) 1 (by kernel_rfl) ?_
  rw [show List.range 1 = [0] from rfl]
  refine env_one (i := 0) (d := 4) (k := .val (.bool false)) (step_assign (by kernel_rfl) (Opd.const _) rfl) (by kernel_rfl) (by decide) h ?_
  clear h
  intro a w h
  exact hQ a w (h.keep [0, 1, 4, 999])
theorem ls1a_region {Q : Exit → Act → World → Prop} (F : Fo) (Bs : List Nat)  {w0 : World} {a : Act} {w : World} (h : Hold 235 [(0, .row F), (1, .sat (u8P Bs)), (4, .val (.bool false)), (999, .tabs)] w0 a w)
    (hQ : ∀ a' w', Hold 235 [(0, .row (Tm.takeF F 40)), (1, .sat (u8P Bs)), (4, .val (.bool false)), (999, .tabs)] w0 a' w' → Q .normal a' w') : (Code.region 1 ls1Ops false).wp Tryd.prog Q a w := by
  refine region_seq (w0 := w) 3 (by kernel_rfl) ?_
  rw [show List.range 3 = [0, 1, 2] from rfl]
  refine env_one (i := 0) (d := 24) (k := .row F) (step_move (by kernel_rfl) (Opd.of_base 0 rfl) rfl) (by kernel_rfl) (by decide) h ?_
  clear h
  intro a w h
  refine env_one (i := 1) (d := 25) (k := .row (Tm.takeF F 40)) (step_few (by kernel_rfl) (Opd.of_base 24 rfl) rfl) (by kernel_rfl) (by decide) h ?_
  clear h
  intro a w h
  refine env_one (i := 2) (d := 0) (k := .row (Tm.takeF F 40)) (step_assign (by kernel_rfl) (Opd.of_base 25 rfl) rfl) (by kernel_rfl) (by decide) h ?_
  clear h
  intro a w h
  exact hQ a w (h.keep [0, 1, 4, 999])
theorem ls2a_region {Q : Exit → Act → World → Prop} (L : Fo) (Bs : List Nat) (hLn : Tm.len L ≤ 50000) (hv : Tm.allV L = false) {w0 : World} {a : Act} {w : World} (h : Hold 235 [(0, .row L), (1, .sat (u8P Bs)), (4, .val (.bool false)), (999, .tabs)] w0 a w)
    (hQ : ∀ a' w', Hold 235 [(0, .row L), (1, .sat (u8P Bs)), (4, .val (.bool false)), (28, .val (.bool true)), (999, .tabs)] w0 a' w' → Q .normal a' w') : (Code.region 2 ls2Ops false).wp Tryd.prog Q a w := by
  refine region_seq (w0 := w) 3 (by kernel_rfl) ?_
  rw [show List.range 3 = [0, 1, 2] from rfl]
  refine env_one (i := 0) (d := 26) (k := .row L) (step_move (by kernel_rfl) (Opd.of_base 0 rfl) rfl) (by kernel_rfl) (by decide) h ?_
  clear h
  intro a w h
  refine env_one (i := 1) (d := 27) (k := .val (.bool false)) (step_lvalid hLn (by kernel_rfl) (Opd.of_base 26 rfl) hv rfl) (by kernel_rfl) (by decide) h ?_
  clear h
  intro a w h
  refine env_one (i := 2) (d := 28) (k := .val (.bool true)) (step_not (by kernel_rfl) (Opd.of_base 27 rfl) rfl) (by kernel_rfl) (by decide) h ?_
  clear h
  intro a w h
  exact hQ a w (h.keep [0, 1, 4, 28, 999])
theorem ls3a_region {Q : Exit → Act → World → Prop} (L : Fo) (Bs : List Nat)  {w0 : World} {a : Act} {w : World} (h : Hold 235 [(0, .row L), (1, .sat (u8P Bs)), (4, .val (.bool false)), (999, .tabs)] w0 a w)
    (hQ : ∀ a' w', Hold 235 [(0, .row L), (1, .sat (u8P Bs)), (4, .val (.bool true)), (999, .tabs)] w0 a' w' → Q .normal a' w') : (Code.region 3 ls3Ops false).wp Tryd.prog Q a w := by
  refine region_seq (w0 := w) 2 (by kernel_rfl) ?_
  rw [show List.range 2 = [0, 1] from rfl]
  refine env_one (i := 0) (d := 29) (k := .val (.bool true)) (step_awake 999 (by kernel_rfl) (Opd.of_base 999 rfl) rfl) (by kernel_rfl) (by decide) h ?_
  clear h
  intro a w h
  refine env_one (i := 1) (d := 4) (k := .val (.bool true)) (step_assign (by kernel_rfl) (Opd.of_base 29 rfl) rfl) (by kernel_rfl) (by decide) h ?_
  clear h
  intro a w h
  exact hQ a w (h.keep [0, 1, 4, 999])
theorem ls2b_region {Q : Exit → Act → World → Prop} (L : Fo) (Bs : List Nat) (hLn : Tm.len L ≤ 50000) (hv : Tm.allV L = true) {w0 : World} {a : Act} {w : World} (h : Hold 235 [(0, .row L), (1, .sat (u8P Bs)), (4, .val (.bool false)), (999, .tabs)] w0 a w)
    (hQ : ∀ a' w', Hold 235 [(0, .row L), (1, .sat (u8P Bs)), (4, .val (.bool false)), (28, .val (.bool false)), (999, .tabs)] w0 a' w' → Q .normal a' w') : (Code.region 2 ls2Ops false).wp Tryd.prog Q a w := by
  refine region_seq (w0 := w) 3 (by kernel_rfl) ?_
  rw [show List.range 3 = [0, 1, 2] from rfl]
  refine env_one (i := 0) (d := 26) (k := .row L) (step_move (by kernel_rfl) (Opd.of_base 0 rfl) rfl) (by kernel_rfl) (by decide) h ?_
  clear h
  intro a w h
  refine env_one (i := 1) (d := 27) (k := .val (.bool true)) (step_lvalid hLn (by kernel_rfl) (Opd.of_base 26 rfl) hv rfl) (by kernel_rfl) (by decide) h ?_
  clear h
  intro a w h
  refine env_one (i := 2) (d := 28) (k := .val (.bool false)) (step_not (by kernel_rfl) (Opd.of_base 27 rfl) rfl) (by kernel_rfl) (by decide) h ?_
  clear h
  intro a w h
  exact hQ a w (h.keep [0, 1, 4, 28, 999])
theorem ls4a_region {Q : Exit → Act → World → Prop} (L : Fo) (Bs : List Nat) (wz : World)  {w0 : World} {a : Act} {w : World} (h : Hold 235 [(0, .sat (oldP (.row L) wz)), (1, .sat (oldP (.sat (u8P Bs)) wz)), (998, .sat (oldP .tabs wz)), (999, .tabs)] w0 a w)
    (hQ : ∀ a' w', Hold 235 [(0, .sat (oldP (.row L) wz)), (1, .sat (oldP (.sat (u8P Bs)) wz)), (5, .sat (ownP (Tm.takeF L 40) wz)), (998, .sat (oldP .tabs wz)), (999, .tabs)] w0 a' w' → Q .normal a' w') : (Code.region 4 ls4Ops false).wp Tryd.prog Q a w := by
  refine region_seq (w0 := w) 3 (by kernel_rfl) ?_
  rw [show List.range 3 = [0, 1, 2] from rfl]
  refine env_one (i := 0) (d := 30) (k := .sat (oldP (.row L) wz)) (step_move (by kernel_rfl) (Opd.of_base 0 rfl) rfl) (by kernel_rfl) (by decide) h ?_
  clear h
  intro a w h
  refine env_one (i := 1) (d := 31) (k := .sat (ownP (Tm.takeF L 40) wz)) (step_fewP 998 (by kernel_rfl) (Opd.old (Opd.of_base 30 rfl)) (Opd.of_base 998 rfl) rfl) (by kernel_rfl) (by decide) h ?_
  clear h
  intro a w h
  refine env_one (i := 2) (d := 5) (k := .sat (ownP (Tm.takeF L 40) wz)) (step_assign (by kernel_rfl) (Opd.of_base 31 rfl) rfl) (by kernel_rfl) (by decide) h ?_
  clear h
  intro a w h
  exact hQ a w (h.keep [0, 1, 5, 998, 999])
theorem ls5a_region {Q : Exit → Act → World → Prop} (L : Fo) (Bs : List Nat) (wz : World)  {w0 : World} {a : Act} {w : World} (h : Hold 235 [(0, .sat (oldP (.row L) wz)), (1, .sat (oldP (.sat (u8P Bs)) wz)), (5, .sat (ownP L wz)), (998, .sat (oldP .tabs wz)), (999, .tabs)] w0 a w)
    (hQ : ∀ a' w', Hold 235 [(0, .sat (oldP (.row L) wz)), (1, .sat (oldP (.sat (u8P Bs)) wz)), (5, .sat (ownP L wz)), (6, .val (.int .i64 0)), (998, .sat (oldP .tabs wz)), (999, .tabs)] w0 a' w' → Q .normal a' w') : (Code.region 5 ls5Ops false).wp Tryd.prog Q a w := by
  refine region_seq (w0 := w) 1 (by kernel_rfl) ?_
  rw [show List.range 1 = [0] from rfl]
  refine env_one (i := 0) (d := 6) (k := .val (.int .i64 0)) (step_assign (by kernel_rfl) (Opd.const _) rfl) (by kernel_rfl) (by decide) h ?_
  clear h
  intro a w h
  exact hQ a w (h.keep [0, 1, 5, 6, 998, 999])
theorem ls6a_region {Q : Exit → Act → World → Prop} (L : Fo) (Bs : List Nat) (wz : World) (kk : Nat) (T : Fo) (hk1 : kk < Bs.length) (hk2 : kk < 60) (hk3 : 0 < Tm.len T) (hk4 : Tm.len T ≤ 40) {w0 : World} {a : Act} {w : World} (h : Hold 235 [(6, .val (.int .i64 ((kk : Nat) : Int))), (5, .sat (ownP T wz)), (0, .sat (oldP (.row L) wz)), (1, .sat (oldP (.sat (u8P Bs)) wz)), (998, .sat (oldP .tabs wz)), (999, .tabs)] w0 a w)
    (hQ : ∀ a' w', Hold 235 [(6, .val (.int .i64 ((kk : Nat) : Int))), (5, .sat (ownP T wz)), (0, .sat (oldP (.row L) wz)), (1, .sat (oldP (.sat (u8P Bs)) wz)), (44, .val (.bool true)), (998, .sat (oldP .tabs wz)), (999, .tabs)] w0 a' w' → Q .normal a' w') : (Code.region 6 ls6Ops false).wp Tryd.prog Q a w := by
  refine region_seq (w0 := w) 13 (by kernel_rfl) ?_
  rw [show List.range 13 = [0, 1, 2, 3, 4, 5, 6, 7, 8, 9, 10, 11, 12] from rfl]
  refine env_one (i := 0) (d := 32) (k := .val (.int .i64 ((kk : Nat) : Int))) (step_move (by kernel_rfl) (Opd.of_base 6 rfl) rfl) (by kernel_rfl) (by decide) h ?_
  clear h
  intro a w h
  refine env_one (i := 1) (d := 33) (k := .sat (oldP (.sat (u8P Bs)) wz)) (step_move (by kernel_rfl) (Opd.of_base 1 rfl) rfl) (by kernel_rfl) (by decide) h ?_
  clear h
  intro a w h
  refine env_one (i := 2) (d := 34) (k := .val (.int .i64 ((Bs.length : Nat) : Int))) (step_len_u8 (by kernel_rfl) (Opd.old (Opd.of_base 33 rfl)) rfl) (by kernel_rfl) (by decide) h ?_
  clear h
  intro a w h
  refine env_one (i := 3) (d := 35) (k := .val (.bool true)) (step_lt_int (m := ((kk : Nat) : Int)) (n := ((Bs.length : Nat) : Int)) (by kernel_rfl) (Opd.of_base 32 rfl) (Opd.of_base 34 rfl) (decide_eq_true (by omega)) rfl) (by kernel_rfl) (by decide) h ?_
  clear h
  intro a w h
  refine env_one (i := 4) (d := 36) (k := .val (.bool true)) (step_move (by kernel_rfl) (Opd.of_base 35 rfl) rfl) (by kernel_rfl) (by decide) h ?_
  clear h
  intro a w h
  refine env_guard (i := 5) (d := 37) (g := 4) (dg := 36) (b := true) (k := .val (.int .i64 ((kk : Nat) : Int))) (step_move (by kernel_rfl) (Opd.of_base 6 rfl) rfl) (by kernel_rfl) (by decide) (by kernel_rfl) (by decide) rfl h ?_
  clear h
  intro a w h
  refine env_guard (i := 6) (d := 38) (g := 4) (dg := 36) (b := true) (k := .val (.bool true)) (step_lt_int (m := ((kk : Nat) : Int)) (n := 60) (by kernel_rfl) (Opd.of_base 37 rfl) (Opd.const _) (decide_eq_true (by omega)) rfl) (by kernel_rfl) (by decide) (by kernel_rfl) (by decide) rfl h ?_
  clear h
  intro a w h
  refine env_one (i := 7) (d := 39) (k := .val (.bool true)) (step_pick_yes (y := .const (.bool false)) (by kernel_rfl) (Opd.of_base 36 rfl) (Opd.of_base 38 rfl) rfl) (by kernel_rfl) (by decide) h ?_
  clear h
  intro a w h
  refine env_one (i := 8) (d := 40) (k := .val (.bool true)) (step_move (by kernel_rfl) (Opd.of_base 39 rfl) rfl) (by kernel_rfl) (by decide) h ?_
  clear h
  intro a w h
  refine env_guard (i := 9) (d := 41) (g := 8) (dg := 40) (b := true) (k := .sat (ownP T wz)) (step_move (by kernel_rfl) (Opd.of_base 5 rfl) rfl) (by kernel_rfl) (by decide) (by kernel_rfl) (by decide) rfl h ?_
  clear h
  intro a w h
  refine env_guard (i := 10) (d := 42) (g := 8) (dg := 40) (b := true) (k := .val (.int .i64 ((Tm.len T : Nat) : Int))) (step_len_row (by kernel_rfl) (Opd.own (Opd.of_base 41 rfl)) rfl) (by kernel_rfl) (by decide) (by kernel_rfl) (by decide) rfl h ?_
  clear h
  intro a w h
  refine env_guard (i := 11) (d := 43) (g := 8) (dg := 40) (b := true) (k := .val (.bool true)) (step_gt_int (m := ((Tm.len T : Nat) : Int)) (n := 0) (by kernel_rfl) (Opd.of_base 42 rfl) (Opd.const _) (decide_eq_true (by omega)) rfl) (by kernel_rfl) (by decide) (by kernel_rfl) (by decide) rfl h ?_
  clear h
  intro a w h
  refine env_one (i := 12) (d := 44) (k := .val (.bool true)) (step_pick_yes (y := .const (.bool false)) (by kernel_rfl) (Opd.of_base 40 rfl) (Opd.of_base 43 rfl) rfl) (by kernel_rfl) (by decide) h ?_
  clear h
  intro a w h
  exact hQ a w (h.keep [6, 5, 0, 1, 44, 998, 999])
def ls8aEs (L : Fo) (Bs : List Nat) (wz : World) (kk : Nat) (T : Fo) (z : Nat) : List Kd := [
  .val (.int .i64 ((kk : Nat) : Int)),
  .sat (ownP T wz),
  .val (.int .i64 ((Tm.len T : Nat) : Int)),
  .val (.int .i64 ((kk % Tm.len T : Nat) : Int)),
  .sat (oldP (.sat (u8P Bs)) wz),
  .val (.int .i64 ((kk : Nat) : Int)),
  .sat (ptr8P z),
  .val (.int .u8 ((z : Nat) : Int)),
  .val (.int .i64 ((z : Nat) : Int)),
  .sat (ownP T wz),
  .val (.int .i64 ((Tm.len T : Nat) : Int)),
  .val (.int .i64 ((z % Tm.len T : Nat) : Int)),
  .val (.int .i64 ((kk % Tm.len T : Nat) : Int)),
  .val (.int .i64 ((z % Tm.len T : Nat) : Int))]
def ls8aDs : List Nat := [47, 48, 49, 50, 51, 52, 53, 54, 55, 56, 57, 58, 7, 8]
def ls8aEnv (L : Fo) (Bs : List Nat) (wz : World) (kk : Nat) (T : Fo) (z : Nat) : Env := [(6, .val (.int .i64 ((kk : Nat) : Int))), (5, .sat (ownP T wz)), (0, .sat (oldP (.row L) wz)), (1, .sat (oldP (.sat (u8P Bs)) wz)), (998, .sat (oldP .tabs wz)), (999, .tabs)]
theorem ls8a_0 {Q : Exit → Act → World → Prop} (L : Fo) (Bs : List Nat) (wz : World) (kk : Nat) (T : Fo) (z : Nat) (hz : Bs[kk]? = some z) (hz8 : z < 256) (hk1 : kk < Bs.length) (hk2 : kk < 60) (hk3 : 0 < Tm.len T) (hk4 : Tm.len T ≤ 40) : RStep (strip ls8Ops) Q (fun i => ((ls8aEs L Bs wz kk T z)[i]?).getD .any) (fun i => (ls8aDs[i]?).getD (1000 + i)) (look (ls8aEnv L Bs wz kk T z)) 235 0 := fun _ => step_move (by kernel_rfl) (Opd.of_base 6 rfl) rfl
theorem ls8a_1 {Q : Exit → Act → World → Prop} (L : Fo) (Bs : List Nat) (wz : World) (kk : Nat) (T : Fo) (z : Nat) (hz : Bs[kk]? = some z) (hz8 : z < 256) (hk1 : kk < Bs.length) (hk2 : kk < 60) (hk3 : 0 < Tm.len T) (hk4 : Tm.len T ≤ 40) : RStep (strip ls8Ops) Q (fun i => ((ls8aEs L Bs wz kk T z)[i]?).getD .any) (fun i => (ls8aDs[i]?).getD (1000 + i)) (look (ls8aEnv L Bs wz kk T z)) 235 1 := fun _ => step_move (by kernel_rfl) (Opd.of_base 5 rfl) rfl
theorem ls8a_2 {Q : Exit → Act → World → Prop} (L : Fo) (Bs : List Nat) (wz : World) (kk : Nat) (T : Fo) (z : Nat) (hz : Bs[kk]? = some z) (hz8 : z < 256) (hk1 : kk < Bs.length) (hk2 : kk < 60) (hk3 : 0 < Tm.len T) (hk4 : Tm.len T ≤ 40) : RStep (strip ls8Ops) Q (fun i => ((ls8aEs L Bs wz kk T z)[i]?).getD .any) (fun i => (ls8aDs[i]?).getD (1000 + i)) (look (ls8aEnv L Bs wz kk T z)) 235 2 := fun _ => step_len_row (by kernel_rfl) (Opd.own (Opd.dep 1 rfl rfl (by kernel_rfl))) rfl
theorem ls8a_3 {Q : Exit → Act → World → Prop} (L : Fo) (Bs : List Nat) (wz : World) (kk : Nat) (T : Fo) (z : Nat) (hz : Bs[kk]? = some z) (hz8 : z < 256) (hk1 : kk < Bs.length) (hk2 : kk < 60) (hk3 : 0 < Tm.len T) (hk4 : Tm.len T ≤ 40) : RStep (strip ls8Ops) Q (fun i => ((ls8aEs L Bs wz kk T z)[i]?).getD .any) (fun i => (ls8aDs[i]?).getD (1000 + i)) (look (ls8aEnv L Bs wz kk T z)) 235 3 := fun _ => step_rem (m := kk) (n := Tm.len T) (by omega) (by omega) (by omega) (by kernel_rfl) (Opd.dep 0 rfl rfl (by kernel_rfl)) (Opd.dep 2 rfl rfl (by kernel_rfl)) rfl
theorem ls8a_4 {Q : Exit → Act → World → Prop} (L : Fo) (Bs : List Nat) (wz : World) (kk : Nat) (T : Fo) (z : Nat) (hz : Bs[kk]? = some z) (hz8 : z < 256) (hk1 : kk < Bs.length) (hk2 : kk < 60) (hk3 : 0 < Tm.len T) (hk4 : Tm.len T ≤ 40) : RStep (strip ls8Ops) Q (fun i => ((ls8aEs L Bs wz kk T z)[i]?).getD .any) (fun i => (ls8aDs[i]?).getD (1000 + i)) (look (ls8aEnv L Bs wz kk T z)) 235 4 := fun _ => step_move (by kernel_rfl) (Opd.of_base 1 rfl) rfl
theorem ls8a_5 {Q : Exit → Act → World → Prop} (L : Fo) (Bs : List Nat) (wz : World) (kk : Nat) (T : Fo) (z : Nat) (hz : Bs[kk]? = some z) (hz8 : z < 256) (hk1 : kk < Bs.length) (hk2 : kk < 60) (hk3 : 0 < Tm.len T) (hk4 : Tm.len T ≤ 40) : RStep (strip ls8Ops) Q (fun i => ((ls8aEs L Bs wz kk T z)[i]?).getD .any) (fun i => (ls8aDs[i]?).getD (1000 + i)) (look (ls8aEnv L Bs wz kk T z)) 235 5 := fun _ => step_move (by kernel_rfl) (Opd.of_base 6 rfl) rfl
theorem ls8a_6 {Q : Exit → Act → World → Prop} (L : Fo) (Bs : List Nat) (wz : World) (kk : Nat) (T : Fo) (z : Nat) (hz : Bs[kk]? = some z) (hz8 : z < 256) (hk1 : kk < Bs.length) (hk2 : kk < 60) (hk3 : 0 < Tm.len T) (hk4 : Tm.len T ≤ 40) : RStep (strip ls8Ops) Q (fun i => ((ls8aEs L Bs wz kk T z)[i]?).getD .any) (fun i => (ls8aDs[i]?).getD (1000 + i)) (look (ls8aEnv L Bs wz kk T z)) 235 6 := fun _ => step_index_u8 (k := kk) hz (by kernel_rfl) (Opd.old (Opd.dep 4 rfl rfl (by kernel_rfl))) (Opd.dep 5 rfl rfl (by kernel_rfl)) rfl
theorem ls8a_7 {Q : Exit → Act → World → Prop} (L : Fo) (Bs : List Nat) (wz : World) (kk : Nat) (T : Fo) (z : Nat) (hz : Bs[kk]? = some z) (hz8 : z < 256) (hk1 : kk < Bs.length) (hk2 : kk < 60) (hk3 : 0 < Tm.len T) (hk4 : Tm.len T ≤ 40) : RStep (strip ls8Ops) Q (fun i => ((ls8aEs L Bs wz kk T z)[i]?).getD .any) (fun i => (ls8aDs[i]?).getD (1000 + i)) (look (ls8aEnv L Bs wz kk T z)) 235 7 := fun _ => step_load_u8 (by kernel_rfl) (Opd.dep 6 rfl rfl (by kernel_rfl)) rfl
theorem ls8a_8 {Q : Exit → Act → World → Prop} (L : Fo) (Bs : List Nat) (wz : World) (kk : Nat) (T : Fo) (z : Nat) (hz : Bs[kk]? = some z) (hz8 : z < 256) (hk1 : kk < Bs.length) (hk2 : kk < 60) (hk3 : 0 < Tm.len T) (hk4 : Tm.len T ≤ 40) : RStep (strip ls8Ops) Q (fun i => ((ls8aEs L Bs wz kk T z)[i]?).getD .any) (fun i => (ls8aDs[i]?).getD (1000 + i)) (look (ls8aEnv L Bs wz kk T z)) 235 8 := fun _ => step_conv8 (z := z) (by omega) (by kernel_rfl) (Opd.dep 7 rfl rfl (by kernel_rfl)) rfl
theorem ls8a_9 {Q : Exit → Act → World → Prop} (L : Fo) (Bs : List Nat) (wz : World) (kk : Nat) (T : Fo) (z : Nat) (hz : Bs[kk]? = some z) (hz8 : z < 256) (hk1 : kk < Bs.length) (hk2 : kk < 60) (hk3 : 0 < Tm.len T) (hk4 : Tm.len T ≤ 40) : RStep (strip ls8Ops) Q (fun i => ((ls8aEs L Bs wz kk T z)[i]?).getD .any) (fun i => (ls8aDs[i]?).getD (1000 + i)) (look (ls8aEnv L Bs wz kk T z)) 235 9 := fun _ => step_move (by kernel_rfl) (Opd.of_base 5 rfl) rfl
theorem ls8a_10 {Q : Exit → Act → World → Prop} (L : Fo) (Bs : List Nat) (wz : World) (kk : Nat) (T : Fo) (z : Nat) (hz : Bs[kk]? = some z) (hz8 : z < 256) (hk1 : kk < Bs.length) (hk2 : kk < 60) (hk3 : 0 < Tm.len T) (hk4 : Tm.len T ≤ 40) : RStep (strip ls8Ops) Q (fun i => ((ls8aEs L Bs wz kk T z)[i]?).getD .any) (fun i => (ls8aDs[i]?).getD (1000 + i)) (look (ls8aEnv L Bs wz kk T z)) 235 10 := fun _ => step_len_row (by kernel_rfl) (Opd.own (Opd.dep 9 rfl rfl (by kernel_rfl))) rfl
theorem ls8a_11 {Q : Exit → Act → World → Prop} (L : Fo) (Bs : List Nat) (wz : World) (kk : Nat) (T : Fo) (z : Nat) (hz : Bs[kk]? = some z) (hz8 : z < 256) (hk1 : kk < Bs.length) (hk2 : kk < 60) (hk3 : 0 < Tm.len T) (hk4 : Tm.len T ≤ 40) : RStep (strip ls8Ops) Q (fun i => ((ls8aEs L Bs wz kk T z)[i]?).getD .any) (fun i => (ls8aDs[i]?).getD (1000 + i)) (look (ls8aEnv L Bs wz kk T z)) 235 11 := fun _ => step_rem (m := z) (n := Tm.len T) (by omega) (by omega) (by omega) (by kernel_rfl) (Opd.dep 8 rfl rfl (by kernel_rfl)) (Opd.dep 10 rfl rfl (by kernel_rfl)) rfl
theorem ls8a_12 {Q : Exit → Act → World → Prop} (L : Fo) (Bs : List Nat) (wz : World) (kk : Nat) (T : Fo) (z : Nat) (hz : Bs[kk]? = some z) (hz8 : z < 256) (hk1 : kk < Bs.length) (hk2 : kk < 60) (hk3 : 0 < Tm.len T) (hk4 : Tm.len T ≤ 40) : RStep (strip ls8Ops) Q (fun i => ((ls8aEs L Bs wz kk T z)[i]?).getD .any) (fun i => (ls8aDs[i]?).getD (1000 + i)) (look (ls8aEnv L Bs wz kk T z)) 235 12 := fun _ => step_assign (by kernel_rfl) (Opd.dep 3 rfl rfl (by kernel_rfl)) rfl
theorem ls8a_13 {Q : Exit → Act → World → Prop} (L : Fo) (Bs : List Nat) (wz : World) (kk : Nat) (T : Fo) (z : Nat) (hz : Bs[kk]? = some z) (hz8 : z < 256) (hk1 : kk < Bs.length) (hk2 : kk < 60) (hk3 : 0 < Tm.len T) (hk4 : Tm.len T ≤ 40) : RStep (strip ls8Ops) Q (fun i => ((ls8aEs L Bs wz kk T z)[i]?).getD .any) (fun i => (ls8aDs[i]?).getD (1000 + i)) (look (ls8aEnv L Bs wz kk T z)) 235 13 := fun _ => step_assign (by kernel_rfl) (Opd.dep 11 rfl rfl (by kernel_rfl)) rfl
theorem ls8a_region {Q : Exit → Act → World → Prop} (L : Fo) (Bs : List Nat) (wz : World) (kk : Nat) (T : Fo) (z : Nat) (hz : Bs[kk]? = some z) (hz8 : z < 256) (hk1 : kk < Bs.length) (hk2 : kk < 60) (hk3 : 0 < Tm.len T) (hk4 : Tm.len T ≤ 40) {w0 : World} {a : Act} {w : World} (h : Hold 235 [(6, .val (.int .i64 ((kk : Nat) : Int))), (5, .sat (ownP T wz)), (0, .sat (oldP (.row L) wz)), (1, .sat (oldP (.sat (u8P Bs)) wz)), (998, .sat (oldP .tabs wz)), (999, .tabs)] w0 a w)
    (hQ : ∀ a' w', Hold 235 [(6, .val (.int .i64 ((kk : Nat) : Int))), (5, .sat (ownP T wz)), (0, .sat (oldP (.row L) wz)), (1, .sat (oldP (.sat (u8P Bs)) wz)), (7, .val (.int .i64 ((kk % Tm.len T : Nat) : Int))), (8, .val (.int .i64 ((z % Tm.len T : Nat) : Int))), (998, .sat (oldP .tabs wz)), (999, .tabs)] w0 a' w' → Q .normal a' w') : (Code.region 8 ls8Ops true).wp Tryd.prog Q a w := by
  have hall : ∀ i, i < 0 → RStep (strip ls8Ops) Q (fun i => ((ls8aEs L Bs wz kk T z)[i]?).getD .any) (fun i => (ls8aDs[i]?).getD (1000 + i)) (look (ls8aEnv L Bs wz kk T z)) 235 i := fun i hi => absurd hi (by omega)
  have hall := below_succ hall (ls8a_0 L Bs wz kk T z hz hz8 hk1 hk2 hk3 hk4)
  have hall := below_succ hall (ls8a_1 L Bs wz kk T z hz hz8 hk1 hk2 hk3 hk4)
  have hall := below_succ hall (ls8a_2 L Bs wz kk T z hz hz8 hk1 hk2 hk3 hk4)
  have hall := below_succ hall (ls8a_3 L Bs wz kk T z hz hz8 hk1 hk2 hk3 hk4)
  have hall := below_succ hall (ls8a_4 L Bs wz kk T z hz hz8 hk1 hk2 hk3 hk4)
  have hall := below_succ hall (ls8a_5 L Bs wz kk T z hz hz8 hk1 hk2 hk3 hk4)
  have hall := below_succ hall (ls8a_6 L Bs wz kk T z hz hz8 hk1 hk2 hk3 hk4)
  have hall := below_succ hall (ls8a_7 L Bs wz kk T z hz hz8 hk1 hk2 hk3 hk4)
  have hall := below_succ hall (ls8a_8 L Bs wz kk T z hz hz8 hk1 hk2 hk3 hk4)
  have hall := below_succ hall (ls8a_9 L Bs wz kk T z hz hz8 hk1 hk2 hk3 hk4)
  have hall := below_succ hall (ls8a_10 L Bs wz kk T z hz hz8 hk1 hk2 hk3 hk4)
  have hall := below_succ hall (ls8a_11 L Bs wz kk T z hz hz8 hk1 hk2 hk3 hk4)
  have hall := below_succ hall (ls8a_12 L Bs wz kk T z hz hz8 hk1 hk2 hk3 hk4)
  have hall := below_succ hall (ls8a_13 L Bs wz kk T z hz hz8 hk1 hk2 hk3 hk4)
  refine env_any4 (env := ls8aEnv L Bs wz kk T z) (N := 235) (w0 := w0) ls8aDs (ls8aEs L Bs wz kk T z) (by kernel_rfl) (by kernel_rfl) (of_decide_eq_true (by kernel_rfl)) (fun i_ hi_ => hall i_ (by rw [show (ls8aEs L Bs wz kk T z).length = 14 by kernel_rfl] at hi_; exact hi_)) h fun a' w' h => ?_
  exact hQ a' w' (h.keep [6, 5, 0, 1, 7, 8, 998, 999])
theorem ls7a_region {Q : Exit → Act → World → Prop} (L : Fo) (Bs : List Nat) (wz : World) (kk : Nat) (T : Fo) (ii jj : Nat) (hk2 : kk < 60) {w0 : World} {a : Act} {w : World} (h : Hold 235 [(5, .sat (ownP (rowF (Go.Sort.swp (tagged T) ii jj)) wz)), (6, .val (.int .i64 ((kk : Nat) : Int))), (0, .sat (oldP (.row L) wz)), (1, .sat (oldP (.sat (u8P Bs)) wz)), (998, .sat (oldP .tabs wz)), (999, .tabs)] w0 a w)
    (hQ : ∀ a' w', Hold 235 [(5, .sat (ownP (rowF (Go.Sort.swp (tagged T) ii jj)) wz)), (6, .val (.int .i64 ((kk + 1 : Nat) : Int))), (0, .sat (oldP (.row L) wz)), (1, .sat (oldP (.sat (u8P Bs)) wz)), (998, .sat (oldP .tabs wz)), (999, .tabs)] w0 a' w' → Q .normal a' w') : (Code.region 7 ls7Ops false).wp Tryd.prog Q a w := by
  refine region_seq (w0 := w) 3 (by kernel_rfl) ?_
  rw [show List.range 3 = [0, 1, 2] from rfl]
  refine env_one (i := 0) (d := 45) (k := .val (.int .i64 ((kk : Nat) : Int))) (step_move (by kernel_rfl) (Opd.of_base 6 rfl) rfl) (by kernel_rfl) (by decide) h ?_
  clear h
  intro a w h
  refine env_one (i := 1) (d := 46) (k := .val (.int .i64 ((kk + 1 : Nat) : Int))) (step_add (m := ((kk : Nat) : Int)) (n := 1) (s := ((kk + 1 : Nat) : Int)) (by kernel_rfl) (Opd.of_base 45 rfl) (Opd.const _) (by rw [IntKind.wrap_i64]; omega) rfl) (by kernel_rfl) (by decide) h ?_
  clear h
  intro a w h
  refine env_one (i := 2) (d := 6) (k := .val (.int .i64 ((kk + 1 : Nat) : Int))) (step_assign (by kernel_rfl) (Opd.of_base 46 rfl) rfl) (by kernel_rfl) (by decide) h ?_
  clear h
  intro a w h
  exact hQ a w (h.keep [5, 6, 0, 1, 998, 999])
theorem ls6b_region {Q : Exit → Act → World → Prop} (L : Fo) (Bs : List Nat) (wz : World) (T : Fo) (nr : Nat) (g1 : Bs.length ≤ nr) {w0 : World} {a : Act} {w : World} (h : Hold 235 [(6, .val (.int .i64 ((nr : Nat) : Int))), (5, .sat (ownP T wz)), (0, .sat (oldP (.row L) wz)), (1, .sat (oldP (.sat (u8P Bs)) wz)), (998, .sat (oldP .tabs wz)), (999, .tabs)] w0 a w)
    (hQ : ∀ a' w', Hold 235 [(6, .val (.int .i64 ((nr : Nat) : Int))), (5, .sat (ownP T wz)), (0, .sat (oldP (.row L) wz)), (1, .sat (oldP (.sat (u8P Bs)) wz)), (44, .val (.bool false)), (998, .sat (oldP .tabs wz)), (999, .tabs)] w0 a' w' → Q .normal a' w') : (Code.region 6 ls6Ops false).wp Tryd.prog Q a w := by
  refine region_seq (w0 := w) 13 (by kernel_rfl) ?_
  rw [show List.range 13 = [0, 1, 2, 3, 4, 5, 6, 7, 8, 9, 10, 11, 12] from rfl]
  refine env_one (i := 0) (d := 32) (k := .val (.int .i64 ((nr : Nat) : Int))) (step_move (by kernel_rfl) (Opd.of_base 6 rfl) rfl) (by kernel_rfl) (by decide) h ?_
  clear h
  intro a w h
  refine env_one (i := 1) (d := 33) (k := .sat (oldP (.sat (u8P Bs)) wz)) (step_move (by kernel_rfl) (Opd.of_base 1 rfl) rfl) (by kernel_rfl) (by decide) h ?_
  clear h
  intro a w h
  refine env_one (i := 2) (d := 34) (k := .val (.int .i64 ((Bs.length : Nat) : Int))) (step_len_u8 (by kernel_rfl) (Opd.old (Opd.of_base 33 rfl)) rfl) (by kernel_rfl) (by decide) h ?_
  clear h
  intro a w h
  refine env_one (i := 3) (d := 35) (k := .val (.bool false)) (step_lt_int (m := ((nr : Nat) : Int)) (n := ((Bs.length : Nat) : Int)) (by kernel_rfl) (Opd.of_base 32 rfl) (Opd.of_base 34 rfl) (decide_eq_false (by omega)) rfl) (by kernel_rfl) (by decide) h ?_
  clear h
  intro a w h
  refine env_one (i := 4) (d := 36) (k := .val (.bool false)) (step_move (by kernel_rfl) (Opd.of_base 35 rfl) rfl) (by kernel_rfl) (by decide) h ?_
  clear h
  intro a w h
  refine env_skip (i := 5) (d := 37) (g := 4) (dg := 36) (b := true) (by kernel_rfl) (by decide) (by kernel_rfl) rfl rfl h ?_
  clear h
  intro a w h
  refine env_skip (i := 6) (d := 38) (g := 4) (dg := 36) (b := true) (by kernel_rfl) (by decide) (by kernel_rfl) rfl rfl h ?_
  clear h
  intro a w h
  refine env_one (i := 7) (d := 39) (k := .val (.bool false)) (step_pick_no (x := .tmp 38) (by kernel_rfl) (Opd.of_base 36 rfl) (Opd.const _) rfl) (by kernel_rfl) (by decide) h ?_
  clear h
  intro a w h
  refine env_one (i := 8) (d := 40) (k := .val (.bool false)) (step_move (by kernel_rfl) (Opd.of_base 39 rfl) rfl) (by kernel_rfl) (by decide) h ?_
  clear h
  intro a w h
  refine env_skip (i := 9) (d := 41) (g := 8) (dg := 40) (b := true) (by kernel_rfl) (by decide) (by kernel_rfl) rfl rfl h ?_
  clear h
  intro a w h
  refine env_skip (i := 10) (d := 42) (g := 8) (dg := 40) (b := true) (by kernel_rfl) (by decide) (by kernel_rfl) rfl rfl h ?_
  clear h
  intro a w h
  refine env_skip (i := 11) (d := 43) (g := 8) (dg := 40) (b := true) (by kernel_rfl) (by decide) (by kernel_rfl) rfl rfl h ?_
  clear h
  intro a w h
  refine env_one (i := 12) (d := 44) (k := .val (.bool false)) (step_pick_no (x := .tmp 43) (by kernel_rfl) (Opd.of_base 40 rfl) (Opd.const _) rfl) (by kernel_rfl) (by decide) h ?_
  clear h
  intro a w h
  exact hQ a w (h.keep [6, 5, 0, 1, 44, 998, 999])
theorem ls10a_region {Q : Exit → Act → World → Prop} (L T : Fo) (hLn : Tm.len L ≤ 50000) {w0 : World} {a : Act} {w : World} (h : Hold 235 [(0, .row L), (5, .row T), (999, .tabs)] w0 a w)
    (hQ : ∀ a' w', Hold 235 [(0, .row L), (5, .row T), (9, .row (sortR L).1), (10, .val (.int .i64 (sortR L).2)), (999, .tabs)] w0 a' w' → Q .normal a' w') : (Code.region 10 ls10Ops false).wp Tryd.prog Q a w := by
  refine region_seq (w0 := w) 7 (by kernel_rfl) ?_
  rw [show List.range 7 = [0, 1, 2, 3, 4, 5, 6] from rfl]
  refine env_one (i := 0) (d := 74) (k := .row L) (step_move (by kernel_rfl) (Opd.of_base 0 rfl) rfl) (by kernel_rfl) (by decide) h ?_
  clear h
  intro a w h
  refine env_one (i := 1) (d := 75) (k := .rowErr (sortR L).1 (sortR L).2) (step_osort hLn 999 (by kernel_rfl) (Opd.of_base 74 rfl) (Opd.of_base 999 rfl) rfl) (by kernel_rfl) (by decide) h ?_
  clear h
  intro a w h
  refine env_one (i := 2) (d := 73) (k := .rowErr (sortR L).1 (sortR L).2) (step_move (by kernel_rfl) (Opd.of_base 75 rfl) rfl) (by kernel_rfl) (by decide) h ?_
  clear h
  intro a w h
  refine env_one (i := 3) (d := 76) (k := .row (sortR L).1) (step_rowErr0 (by kernel_rfl) (Opd.of_base 73 rfl) rfl) (by kernel_rfl) (by decide) h ?_
  clear h
  intro a w h
  refine env_one (i := 4) (d := 77) (k := .val (.int .i64 (sortR L).2)) (step_rowErr1 (by kernel_rfl) (Opd.of_base 73 rfl) rfl) (by kernel_rfl) (by decide) h ?_
  clear h
  intro a w h
  refine env_one (i := 5) (d := 9) (k := .row (sortR L).1) (step_assign (by kernel_rfl) (Opd.of_base 76 rfl) rfl) (by kernel_rfl) (by decide) h ?_
  clear h
  intro a w h
  refine env_one (i := 6) (d := 10) (k := .val (.int .i64 (sortR L).2)) (step_assign (by kernel_rfl) (Opd.of_base 77 rfl) rfl) (by kernel_rfl) (by decide) h ?_
  clear h
  intro a w h
  exact hQ a w (h.keep [0, 5, 9, 10, 999])
theorem ls11a_region {Q : Exit → Act → World → Prop} (L T S : Fo) (hLn : Tm.len L ≤ 50000) {w0 : World} {a : Act} {w : World} (h : Hold 235 [(0, .row L), (5, .row T), (9, .row S), (10, .val (.int .i64 0)), (999, .tabs)] w0 a w)
    (hQ : ∀ a' w', Hold 235 [(0, .row L), (5, .row T), (9, .row S), (10, .val (.int .i64 0)), (11, .row (stableR L).1), (12, .val (.int .i64 (stableR L).2)), (999, .tabs)] w0 a' w' → Q .normal a' w') : (Code.region 11 ls11Ops false).wp Tryd.prog Q a w := by
  refine region_seq (w0 := w) 7 (by kernel_rfl) ?_
  rw [show List.range 7 = [0, 1, 2, 3, 4, 5, 6] from rfl]
  refine env_one (i := 0) (d := 79) (k := .row L) (step_move (by kernel_rfl) (Opd.of_base 0 rfl) rfl) (by kernel_rfl) (by decide) h ?_
  clear h
  intro a w h
  refine env_one (i := 1) (d := 80) (k := .rowErr (stableR L).1 (stableR L).2) (step_ostable hLn 999 (by kernel_rfl) (Opd.of_base 79 rfl) (Opd.of_base 999 rfl) rfl) (by kernel_rfl) (by decide) h ?_
  clear h
  intro a w h
  refine env_one (i := 2) (d := 78) (k := .rowErr (stableR L).1 (stableR L).2) (step_move (by kernel_rfl) (Opd.of_base 80 rfl) rfl) (by kernel_rfl) (by decide) h ?_
  clear h
  intro a w h
  refine env_one (i := 3) (d := 81) (k := .row (stableR L).1) (step_rowErr0 (by kernel_rfl) (Opd.of_base 78 rfl) rfl) (by kernel_rfl) (by decide) h ?_
  clear h
  intro a w h
  refine env_one (i := 4) (d := 82) (k := .val (.int .i64 (stableR L).2)) (step_rowErr1 (by kernel_rfl) (Opd.of_base 78 rfl) rfl) (by kernel_rfl) (by decide) h ?_
  clear h
  intro a w h
  refine env_one (i := 5) (d := 11) (k := .row (stableR L).1) (step_assign (by kernel_rfl) (Opd.of_base 81 rfl) rfl) (by kernel_rfl) (by decide) h ?_
  clear h
  intro a w h
  refine env_one (i := 6) (d := 12) (k := .val (.int .i64 (stableR L).2)) (step_assign (by kernel_rfl) (Opd.of_base 82 rfl) rfl) (by kernel_rfl) (by decide) h ?_
  clear h
  intro a w h
  exact hQ a w (h.keep [0, 5, 9, 10, 11, 12, 999])
theorem ls12a_region {Q : Exit → Act → World → Prop} (L T S G : Fo) (hTn : Tm.len T ≤ 50000) {w0 : World} {a : Act} {w : World} (h : Hold 235 [(0, .row L), (5, .row T), (9, .row S), (10, .val (.int .i64 0)), (11, .row G), (12, .val (.int .i64 0)), (999, .tabs)] w0 a w)
    (hQ : ∀ a' w', Hold 235 [(0, .row L), (5, .row T), (9, .row S), (10, .val (.int .i64 0)), (11, .row G), (12, .val (.int .i64 0)), (13, .row (sortR T).1), (14, .val (.int .i64 (sortR T).2)), (999, .tabs)] w0 a' w' → Q .normal a' w') : (Code.region 12 ls12Ops false).wp Tryd.prog Q a w := by
  refine region_seq (w0 := w) 7 (by kernel_rfl) ?_
  rw [show List.range 7 = [0, 1, 2, 3, 4, 5, 6] from rfl]
  refine env_one (i := 0) (d := 84) (k := .row T) (step_move (by kernel_rfl) (Opd.of_base 5 rfl) rfl) (by kernel_rfl) (by decide) h ?_
  clear h
  intro a w h
  refine env_one (i := 1) (d := 85) (k := .rowErr (sortR T).1 (sortR T).2) (step_osort hTn 999 (by kernel_rfl) (Opd.of_base 84 rfl) (Opd.of_base 999 rfl) rfl) (by kernel_rfl) (by decide) h ?_
  clear h
  intro a w h
  refine env_one (i := 2) (d := 83) (k := .rowErr (sortR T).1 (sortR T).2) (step_move (by kernel_rfl) (Opd.of_base 85 rfl) rfl) (by kernel_rfl) (by decide) h ?_
  clear h
  intro a w h
  refine env_one (i := 3) (d := 86) (k := .row (sortR T).1) (step_rowErr0 (by kernel_rfl) (Opd.of_base 83 rfl) rfl) (by kernel_rfl) (by decide) h ?_
  clear h
  intro a w h
  refine env_one (i := 4) (d := 87) (k := .val (.int .i64 (sortR T).2)) (step_rowErr1 (by kernel_rfl) (Opd.of_base 83 rfl) rfl) (by kernel_rfl) (by decide) h ?_
  clear h
  intro a w h
  refine env_one (i := 5) (d := 13) (k := .row (sortR T).1) (step_assign (by kernel_rfl) (Opd.of_base 86 rfl) rfl) (by kernel_rfl) (by decide) h ?_
  clear h
  intro a w h
  refine env_one (i := 6) (d := 14) (k := .val (.int .i64 (sortR T).2)) (step_assign (by kernel_rfl) (Opd.of_base 87 rfl) rfl) (by kernel_rfl) (by decide) h ?_
  clear h
  intro a w h
  exact hQ a w (h.keep [0, 5, 9, 10, 11, 12, 13, 14, 999])
theorem ls13a_region {Q : Exit → Act → World → Prop} (L T S G : Fo) (hTn : Tm.len T ≤ 50000) {w0 : World} {a : Act} {w : World} (h : Hold 235 [(0, .row L), (5, .row T), (9, .row S), (10, .val (.int .i64 0)), (11, .row G), (12, .val (.int .i64 0)), (13, .row S), (14, .val (.int .i64 0)), (999, .tabs)] w0 a w)
    (hQ : ∀ a' w', Hold 235 [(0, .row L), (9, .row S), (10, .val (.int .i64 0)), (11, .row G), (12, .val (.int .i64 0)), (13, .row S), (14, .val (.int .i64 0)), (15, .row (stableR T).1), (16, .val (.int .i64 (stableR T).2)), (999, .tabs)] w0 a' w' → Q .normal a' w') : (Code.region 13 ls13Ops false).wp Tryd.prog Q a w := by
  refine region_seq (w0 := w) 7 (by kernel_rfl) ?_
  rw [show List.range 7 = [0, 1, 2, 3, 4, 5, 6] from rfl]
  refine env_one (i := 0) (d := 89) (k := .row T) (step_move (by kernel_rfl) (Opd.of_base 5 rfl) rfl) (by kernel_rfl) (by decide) h ?_
  clear h
  intro a w h
  refine env_one (i := 1) (d := 90) (k := .rowErr (stableR T).1 (stableR T).2) (step_ostable hTn 999 (by kernel_rfl) (Opd.of_base 89 rfl) (Opd.of_base 999 rfl) rfl) (by kernel_rfl) (by decide) h ?_
  clear h
  intro a w h
  refine env_one (i := 2) (d := 88) (k := .rowErr (stableR T).1 (stableR T).2) (step_move (by kernel_rfl) (Opd.of_base 90 rfl) rfl) (by kernel_rfl) (by decide) h ?_
  clear h
  intro a w h
  refine env_one (i := 3) (d := 91) (k := .row (stableR T).1) (step_rowErr0 (by kernel_rfl) (Opd.of_base 88 rfl) rfl) (by kernel_rfl) (by decide) h ?_
  clear h
  intro a w h
  refine env_one (i := 4) (d := 92) (k := .val (.int .i64 (stableR T).2)) (step_rowErr1 (by kernel_rfl) (Opd.of_base 88 rfl) rfl) (by kernel_rfl) (by decide) h ?_
  clear h
  intro a w h
  refine env_one (i := 5) (d := 15) (k := .row (stableR T).1) (step_assign (by kernel_rfl) (Opd.of_base 91 rfl) rfl) (by kernel_rfl) (by decide) h ?_
  clear h
  intro a w h
  refine env_one (i := 6) (d := 16) (k := .val (.int .i64 (stableR T).2)) (step_assign (by kernel_rfl) (Opd.of_base 92 rfl) rfl) (by kernel_rfl) (by decide) h ?_
  clear h
  intro a w h
  exact hQ a w (h.keep [0, 9, 10, 11, 12, 13, 14, 15, 16, 999])
theorem ls14a_region {Q : Exit → Act → World → Prop} (L T S G : Fo) (hGn : Tm.len G ≤ 50000) {w0 : World} {a : Act} {w : World} (h : Hold 235 [(0, .row L), (9, .row S), (10, .val (.int .i64 0)), (11, .row G), (12, .val (.int .i64 0)), (13, .row S), (14, .val (.int .i64 0)), (15, .row G), (16, .val (.int .i64 0)), (999, .tabs)] w0 a w)
    (hQ : ∀ a' w', Hold 235 [(0, .row L), (9, .row S), (10, .val (.int .i64 0)), (11, .row G), (12, .val (.int .i64 0)), (13, .row S), (14, .val (.int .i64 0)), (15, .row G), (16, .val (.int .i64 0)), (17, .row (sortR G).1), (18, .val (.int .i64 (sortR G).2)), (999, .tabs)] w0 a' w' → Q .normal a' w') : (Code.region 14 ls14Ops false).wp Tryd.prog Q a w := by
  refine region_seq (w0 := w) 7 (by kernel_rfl) ?_
  rw [show List.range 7 = [0, 1, 2, 3, 4, 5, 6] from rfl]
  refine env_one (i := 0) (d := 94) (k := .row G) (step_move (by kernel_rfl) (Opd.of_base 11 rfl) rfl) (by kernel_rfl) (by decide) h ?_
  clear h
  intro a w h
  refine env_one (i := 1) (d := 95) (k := .rowErr (sortR G).1 (sortR G).2) (step_osort hGn 999 (by kernel_rfl) (Opd.of_base 94 rfl) (Opd.of_base 999 rfl) rfl) (by kernel_rfl) (by decide) h ?_
  clear h
  intro a w h
  refine env_one (i := 2) (d := 93) (k := .rowErr (sortR G).1 (sortR G).2) (step_move (by kernel_rfl) (Opd.of_base 95 rfl) rfl) (by kernel_rfl) (by decide) h ?_
  clear h
  intro a w h
  refine env_one (i := 3) (d := 96) (k := .row (sortR G).1) (step_rowErr0 (by kernel_rfl) (Opd.of_base 93 rfl) rfl) (by kernel_rfl) (by decide) h ?_
  clear h
  intro a w h
  refine env_one (i := 4) (d := 97) (k := .val (.int .i64 (sortR G).2)) (step_rowErr1 (by kernel_rfl) (Opd.of_base 93 rfl) rfl) (by kernel_rfl) (by decide) h ?_
  clear h
  intro a w h
  refine env_one (i := 5) (d := 17) (k := .row (sortR G).1) (step_assign (by kernel_rfl) (Opd.of_base 96 rfl) rfl) (by kernel_rfl) (by decide) h ?_
  clear h
  intro a w h
  refine env_one (i := 6) (d := 18) (k := .val (.int .i64 (sortR G).2)) (step_assign (by kernel_rfl) (Opd.of_base 97 rfl) rfl) (by kernel_rfl) (by decide) h ?_
  clear h
  intro a w h
  exact hQ a w (h.keep [0, 9, 10, 11, 12, 13, 14, 15, 16, 17, 18, 999])
theorem ls15a_region {Q : Exit → Act → World → Prop} (L T S G : Fo) (hGl : Tm.len G = Tm.len L) {w0 : World} {a : Act} {w : World} (h : Hold 235 [(0, .row L), (9, .row S), (10, .val (.int .i64 0)), (11, .row G), (12, .val (.int .i64 0)), (13, .row S), (14, .val (.int .i64 0)), (15, .row G), (16, .val (.int .i64 0)), (17, .row S), (18, .val (.int .i64 0)), (999, .tabs)] w0 a w)
    (hQ : ∀ a' w', Hold 235 [(0, .row L), (9, .row S), (11, .row G), (13, .row S), (15, .row G), (17, .row S), (122, .val (.bool false)), (999, .tabs)] w0 a' w' → Q .normal a' w') : (Code.region 15 ls15Ops false).wp Tryd.prog Q a w := by
  refine region_seq (w0 := w) 25 (by kernel_rfl) ?_
  rw [show List.range 25 = [0, 1, 2, 3, 4, 5, 6, 7, 8, 9, 10, 11, 12, 13, 14, 15, 16, 17, 18, 19, 20, 21, 22, 23, 24] from rfl]
  refine env_one (i := 0) (d := 98) (k := .val (.int .i64 0)) (step_move (by kernel_rfl) (Opd.of_base 10 rfl) rfl) (by kernel_rfl) (by decide) h ?_
  clear h
  intro a w h
  refine env_one (i := 1) (d := 99) (k := .val (.bool false)) (step_ne_err (m := 0) (n := 0) (by kernel_rfl) (Opd.of_base 98 rfl) (Opd.const _) (by rfl) rfl) (by kernel_rfl) (by decide) h ?_
  clear h
  intro a w h
  refine env_one (i := 2) (d := 100) (k := .val (.bool false)) (step_move (by kernel_rfl) (Opd.of_base 99 rfl) rfl) (by kernel_rfl) (by decide) h ?_
  clear h
  intro a w h
  refine env_guard (i := 3) (d := 101) (g := 2) (dg := 100) (b := false) (k := .val (.int .i64 0)) (step_move (by kernel_rfl) (Opd.of_base 12 rfl) rfl) (by kernel_rfl) (by decide) (by kernel_rfl) (by decide) rfl h ?_
  clear h
  intro a w h
  refine env_guard (i := 4) (d := 102) (g := 2) (dg := 100) (b := false) (k := .val (.bool false)) (step_ne_err (m := 0) (n := 0) (by kernel_rfl) (Opd.of_base 101 rfl) (Opd.const _) (by rfl) rfl) (by kernel_rfl) (by decide) (by kernel_rfl) (by decide) rfl h ?_
  clear h
  intro a w h
  refine env_one (i := 5) (d := 103) (k := .val (.bool false)) (step_pick_no (x := .const (.bool true)) (by kernel_rfl) (Opd.of_base 100 rfl) (Opd.of_base 102 rfl) rfl) (by kernel_rfl) (by decide) h ?_
  clear h
  intro a w h
  refine env_one (i := 6) (d := 104) (k := .val (.bool false)) (step_move (by kernel_rfl) (Opd.of_base 103 rfl) rfl) (by kernel_rfl) (by decide) h ?_
  clear h
  intro a w h
  refine env_guard (i := 7) (d := 105) (g := 6) (dg := 104) (b := false) (k := .val (.int .i64 0)) (step_move (by kernel_rfl) (Opd.of_base 14 rfl) rfl) (by kernel_rfl) (by decide) (by kernel_rfl) (by decide) rfl h ?_
  clear h
  intro a w h
  refine env_guard (i := 8) (d := 106) (g := 6) (dg := 104) (b := false) (k := .val (.bool false)) (step_ne_err (m := 0) (n := 0) (by kernel_rfl) (Opd.of_base 105 rfl) (Opd.const _) (by rfl) rfl) (by kernel_rfl) (by decide) (by kernel_rfl) (by decide) rfl h ?_
  clear h
  intro a w h
  refine env_one (i := 9) (d := 107) (k := .val (.bool false)) (step_pick_no (x := .const (.bool true)) (by kernel_rfl) (Opd.of_base 104 rfl) (Opd.of_base 106 rfl) rfl) (by kernel_rfl) (by decide) h ?_
  clear h
  intro a w h
  refine env_one (i := 10) (d := 108) (k := .val (.bool false)) (step_move (by kernel_rfl) (Opd.of_base 107 rfl) rfl) (by kernel_rfl) (by decide) h ?_
  clear h
  intro a w h
  refine env_guard (i := 11) (d := 109) (g := 10) (dg := 108) (b := false) (k := .val (.int .i64 0)) (step_move (by kernel_rfl) (Opd.of_base 16 rfl) rfl) (by kernel_rfl) (by decide) (by kernel_rfl) (by decide) rfl h ?_
  clear h
  intro a w h
  refine env_guard (i := 12) (d := 110) (g := 10) (dg := 108) (b := false) (k := .val (.bool false)) (step_ne_err (m := 0) (n := 0) (by kernel_rfl) (Opd.of_base 109 rfl) (Opd.const _) (by rfl) rfl) (by kernel_rfl) (by decide) (by kernel_rfl) (by decide) rfl h ?_
  clear h
  intro a w h
  refine env_one (i := 13) (d := 111) (k := .val (.bool false)) (step_pick_no (x := .const (.bool true)) (by kernel_rfl) (Opd.of_base 108 rfl) (Opd.of_base 110 rfl) rfl) (by kernel_rfl) (by decide) h ?_
  clear h
  intro a w h
  refine env_one (i := 14) (d := 112) (k := .val (.bool false)) (step_move (by kernel_rfl) (Opd.of_base 111 rfl) rfl) (by kernel_rfl) (by decide) h ?_
  clear h
  intro a w h
  refine env_guard (i := 15) (d := 113) (g := 14) (dg := 112) (b := false) (k := .val (.int .i64 0)) (step_move (by kernel_rfl) (Opd.of_base 18 rfl) rfl) (by kernel_rfl) (by decide) (by kernel_rfl) (by decide) rfl h ?_
  clear h
  intro a w h
  refine env_guard (i := 16) (d := 114) (g := 14) (dg := 112) (b := false) (k := .val (.bool false)) (step_ne_err (m := 0) (n := 0) (by kernel_rfl) (Opd.of_base 113 rfl) (Opd.const _) (by rfl) rfl) (by kernel_rfl) (by decide) (by kernel_rfl) (by decide) rfl h ?_
  clear h
  intro a w h
  refine env_one (i := 17) (d := 115) (k := .val (.bool false)) (step_pick_no (x := .const (.bool true)) (by kernel_rfl) (Opd.of_base 112 rfl) (Opd.of_base 114 rfl) rfl) (by kernel_rfl) (by decide) h ?_
  clear h
  intro a w h
  refine env_one (i := 18) (d := 116) (k := .val (.bool false)) (step_move (by kernel_rfl) (Opd.of_base 115 rfl) rfl) (by kernel_rfl) (by decide) h ?_
  clear h
  intro a w h
  refine env_guard (i := 19) (d := 117) (g := 18) (dg := 116) (b := false) (k := .row G) (step_move (by kernel_rfl) (Opd.of_base 11 rfl) rfl) (by kernel_rfl) (by decide) (by kernel_rfl) (by decide) rfl h ?_
  clear h
  intro a w h
  refine env_guard (i := 20) (d := 118) (g := 18) (dg := 116) (b := false) (k := .val (.int .i64 ((Tm.len G : Nat) : Int))) (step_len_row (by kernel_rfl) (Opd.of_base 117 rfl) rfl) (by kernel_rfl) (by decide) (by kernel_rfl) (by decide) rfl h ?_
  clear h
  intro a w h
  refine env_guard (i := 21) (d := 119) (g := 18) (dg := 116) (b := false) (k := .row L) (step_move (by kernel_rfl) (Opd.of_base 0 rfl) rfl) (by kernel_rfl) (by decide) (by kernel_rfl) (by decide) rfl h ?_
  clear h
  intro a w h
  refine env_guard (i := 22) (d := 120) (g := 18) (dg := 116) (b := false) (k := .val (.int .i64 ((Tm.len L : Nat) : Int))) (step_len_row (by kernel_rfl) (Opd.of_base 119 rfl) rfl) (by kernel_rfl) (by decide) (by kernel_rfl) (by decide) rfl h ?_
  clear h
  intro a w h
  refine env_guard (i := 23) (d := 121) (g := 18) (dg := 116) (b := false) (k := .val (.bool false)) (step_ne_int (m := ((Tm.len G : Nat) : Int)) (n := ((Tm.len L : Nat) : Int)) (by kernel_rfl) (Opd.of_base 118 rfl) (Opd.of_base 120 rfl) (by rw [hGl]; simp) rfl) (by kernel_rfl) (by decide) (by kernel_rfl) (by decide) rfl h ?_
  clear h
  intro a w h
  refine env_one (i := 24) (d := 122) (k := .val (.bool false)) (step_pick_no (x := .const (.bool true)) (by kernel_rfl) (Opd.of_base 116 rfl) (Opd.of_base 121 rfl) rfl) (by kernel_rfl) (by decide) h ?_
  clear h
  intro a w h
  exact hQ a w (h.keep [0, 9, 11, 13, 15, 17, 122, 999])
theorem ls17a_region {Q : Exit → Act → World → Prop} (L T S G : Fo) (hSn : Tm.len S ≤ 50000) (hGn : Tm.len G ≤ 50000) (hSS : Tm.sameRows S S = true) (hGG : Tm.sameRows G G = true) {w0 : World} {a : Act} {w : World} (h : Hold 235 [(0, .row L), (9, .row S), (11, .row G), (13, .row S), (15, .row G), (17, .row S), (999, .tabs)] w0 a w)
    (hQ : ∀ a' w', Hold 235 [(0, .row L), (9, .row S), (11, .row G), (138, .val (.bool false)), (999, .tabs)] w0 a' w' → Q .normal a' w') : (Code.region 17 ls17Ops false).wp Tryd.prog Q a w := by
  refine region_seq (w0 := w) 16 (by kernel_rfl) ?_
  rw [show List.range 16 = [0, 1, 2, 3, 4, 5, 6, 7, 8, 9, 10, 11, 12, 13, 14, 15] from rfl]
  refine env_one (i := 0) (d := 123) (k := .row S) (step_move (by kernel_rfl) (Opd.of_base 9 rfl) rfl) (by kernel_rfl) (by decide) h ?_
  clear h
  intro a w h
  refine env_one (i := 1) (d := 124) (k := .row S) (step_move (by kernel_rfl) (Opd.of_base 13 rfl) rfl) (by kernel_rfl) (by decide) h ?_
  clear h
  intro a w h
  refine env_one (i := 2) (d := 125) (k := .val (.bool true)) (step_sameAll hSn (by kernel_rfl) (Opd.of_base 123 rfl) (Opd.of_base 124 rfl) hSS rfl) (by kernel_rfl) (by decide) h ?_
  clear h
  intro a w h
  refine env_one (i := 3) (d := 126) (k := .val (.bool false)) (step_not (by kernel_rfl) (Opd.of_base 125 rfl) rfl) (by kernel_rfl) (by decide) h ?_
  clear h
  intro a w h
  refine env_one (i := 4) (d := 127) (k := .val (.bool false)) (step_move (by kernel_rfl) (Opd.of_base 126 rfl) rfl) (by kernel_rfl) (by decide) h ?_
  clear h
  intro a w h
  refine env_guard (i := 5) (d := 128) (g := 4) (dg := 127) (b := false) (k := .row G) (step_move (by kernel_rfl) (Opd.of_base 11 rfl) rfl) (by kernel_rfl) (by decide) (by kernel_rfl) (by decide) rfl h ?_
  clear h
  intro a w h
  refine env_guard (i := 6) (d := 129) (g := 4) (dg := 127) (b := false) (k := .row G) (step_move (by kernel_rfl) (Opd.of_base 15 rfl) rfl) (by kernel_rfl) (by decide) (by kernel_rfl) (by decide) rfl h ?_
  clear h
  intro a w h
  refine env_guard (i := 7) (d := 130) (g := 4) (dg := 127) (b := false) (k := .val (.bool true)) (step_sameAll hGn (by kernel_rfl) (Opd.of_base 128 rfl) (Opd.of_base 129 rfl) hGG rfl) (by kernel_rfl) (by decide) (by kernel_rfl) (by decide) rfl h ?_
  clear h
  intro a w h
  refine env_guard (i := 8) (d := 131) (g := 4) (dg := 127) (b := false) (k := .val (.bool false)) (step_not (by kernel_rfl) (Opd.of_base 130 rfl) rfl) (by kernel_rfl) (by decide) (by kernel_rfl) (by decide) rfl h ?_
  clear h
  intro a w h
  refine env_one (i := 9) (d := 132) (k := .val (.bool false)) (step_pick_no (x := .const (.bool true)) (by kernel_rfl) (Opd.of_base 127 rfl) (Opd.of_base 131 rfl) rfl) (by kernel_rfl) (by decide) h ?_
  clear h
  intro a w h
  refine env_one (i := 10) (d := 133) (k := .val (.bool false)) (step_move (by kernel_rfl) (Opd.of_base 132 rfl) rfl) (by kernel_rfl) (by decide) h ?_
  clear h
  intro a w h
  refine env_guard (i := 11) (d := 134) (g := 10) (dg := 133) (b := false) (k := .row S) (step_move (by kernel_rfl) (Opd.of_base 9 rfl) rfl) (by kernel_rfl) (by decide) (by kernel_rfl) (by decide) rfl h ?_
  clear h
  intro a w h
  refine env_guard (i := 12) (d := 135) (g := 10) (dg := 133) (b := false) (k := .row S) (step_move (by kernel_rfl) (Opd.of_base 17 rfl) rfl) (by kernel_rfl) (by decide) (by kernel_rfl) (by decide) rfl h ?_
  clear h
  intro a w h
  refine env_guard (i := 13) (d := 136) (g := 10) (dg := 133) (b := false) (k := .val (.bool true)) (step_sameAll hSn (by kernel_rfl) (Opd.of_base 134 rfl) (Opd.of_base 135 rfl) hSS rfl) (by kernel_rfl) (by decide) (by kernel_rfl) (by decide) rfl h ?_
  clear h
  intro a w h
  refine env_guard (i := 14) (d := 137) (g := 10) (dg := 133) (b := false) (k := .val (.bool false)) (step_not (by kernel_rfl) (Opd.of_base 136 rfl) rfl) (by kernel_rfl) (by decide) (by kernel_rfl) (by decide) rfl h ?_
  clear h
  intro a w h
  refine env_one (i := 15) (d := 138) (k := .val (.bool false)) (step_pick_no (x := .const (.bool true)) (by kernel_rfl) (Opd.of_base 133 rfl) (Opd.of_base 137 rfl) rfl) (by kernel_rfl) (by decide) h ?_
  clear h
  intro a w h
  exact hQ a w (h.keep [0, 9, 11, 138, 999])
theorem ls19a_region {Q : Exit → Act → World → Prop} (L T S G : Fo)  {w0 : World} {a : Act} {w : World} (h : Hold 235 [(0, .row L), (9, .row S), (11, .row G), (999, .tabs)] w0 a w)
    (hQ : ∀ a' w', Hold 235 [(0, .row L), (9, .row S), (11, .row G), (19, .val (.int .i64 0)), (999, .tabs)] w0 a' w' → Q .normal a' w') : (Code.region 19 ls19Ops false).wp Tryd.prog Q a w := by
  refine region_seq (w0 := w) 1 (by kernel_rfl) ?_
  rw [show List.range 1 = [0] from rfl]
  refine env_one (i := 0) (d := 19) (k := .val (.int .i64 0)) (step_assign (by kernel_rfl) (Opd.const _) rfl) (by kernel_rfl) (by decide) h ?_
  clear h
  intro a w h
  exact hQ a w (h.keep [0, 9, 11, 19, 999])
theorem ls20a_region {Q : Exit → Act → World → Prop} (L T S G : Fo) (kk : Nat) (hi : kk < (Tm.len L)) {w0 : World} {a : Act} {w : World} (h : Hold 235 [(19, .val (.int .i64 ((kk : Nat) : Int))), (0, .row L), (11, .row G), (9, .row S), (999, .tabs)] w0 a w)
    (hQ : ∀ a' w', Hold 235 [(19, .val (.int .i64 ((kk : Nat) : Int))), (0, .row L), (11, .row G), (9, .row S), (142, .val (.bool true)), (999, .tabs)] w0 a' w' → Q .normal a' w') : (Code.region 20 ls20Ops false).wp Tryd.prog Q a w := by
  refine region_seq (w0 := w) 4 (by kernel_rfl) ?_
  rw [show List.range 4 = [0, 1, 2, 3] from rfl]
  refine env_one (i := 0) (d := 139) (k := .val (.int .i64 ((kk : Nat) : Int))) (step_move (by kernel_rfl) (Opd.of_base 19 rfl) rfl) (by kernel_rfl) (by decide) h ?_
  clear h
  intro a w h
  refine env_one (i := 1) (d := 140) (k := .row L) (step_move (by kernel_rfl) (Opd.of_base 0 rfl) rfl) (by kernel_rfl) (by decide) h ?_
  clear h
  intro a w h
  refine env_one (i := 2) (d := 141) (k := .val (.int .i64 ((Tm.len L : Nat) : Int))) (step_len_row (by kernel_rfl) (Opd.of_base 140 rfl) rfl) (by kernel_rfl) (by decide) h ?_
  clear h
  intro a w h
  refine env_one (i := 3) (d := 142) (k := .val (.bool true)) (step_lt_int (m := ((kk : Nat) : Int)) (n := ((Tm.len L : Nat) : Int)) (by kernel_rfl) (Opd.of_base 139 rfl) (Opd.of_base 141 rfl) (decide_eq_true (by omega)) rfl) (by kernel_rfl) (by decide) h ?_
  clear h
  intro a w h
  exact hQ a w (h.keep [19, 0, 11, 9, 142, 999])
def ls22aEs (L T S G : Fo) (kk : Nat) (p1 : Pay) (l1 r1 : Fo) : List Kd := [
  .row G,
  .row L,
  .val (.int .i64 ((kk : Nat) : Int)),
  .ptrT p1 l1,
  .term p1 l1,
  .val (.int .i64 ((Tm.countF G p1 l1 : Nat) : Int)),
  .row L,
  .row L,
  .val (.int .i64 ((kk : Nat) : Int)),
  .ptrT p1 l1,
  .term p1 l1,
  .val (.int .i64 ((Tm.countF L p1 l1 : Nat) : Int)),
  .val (.bool false),
  .val (.bool false),
  .row S,
  .row L,
  .val (.int .i64 ((kk : Nat) : Int)),
  .ptrT p1 l1,
  .term p1 l1,
  .val (.int .i64 ((Tm.countF S p1 l1 : Nat) : Int)),
  .val (.bool false),
  .val (.bool false)]
def ls22aDs : List Nat := [145, 146, 147, 148, 149, 150, 151, 152, 153, 154, 155, 156, 157, 158, 159, 160, 161, 162, 163, 164, 165, 166]
def ls22aEnv (L T S G : Fo) (kk : Nat) (p1 : Pay) (l1 r1 : Fo) : Env := [(19, .val (.int .i64 ((kk : Nat) : Int))), (0, .row L), (11, .row G), (9, .row S), (999, .tabs)]
theorem ls22a_0 {Q : Exit → Act → World → Prop} (L T S G : Fo) (kk : Nat) (p1 : Pay) (l1 r1 : Fo) (hLn : Tm.len L ≤ 50000) (hSn : Tm.len S ≤ 50000) (hGn : Tm.len G ≤ 50000) (d1 : Tm.dropF L kk = .node p1 l1 r1) (hc1 : Tm.countF G p1 l1 = Tm.countF L p1 l1) (hc2 : Tm.countF S p1 l1 = 1) : RStep (strip ls22Ops) Q (fun i => ((ls22aEs L T S G kk p1 l1 r1)[i]?).getD .any) (fun i => (ls22aDs[i]?).getD (1000 + i)) (look (ls22aEnv L T S G kk p1 l1 r1)) 235 0 := fun _ => step_move (by kernel_rfl) (Opd.of_base 11 rfl) rfl
theorem ls22a_1 {Q : Exit → Act → World → Prop} (L T S G : Fo) (kk : Nat) (p1 : Pay) (l1 r1 : Fo) (hLn : Tm.len L ≤ 50000) (hSn : Tm.len S ≤ 50000) (hGn : Tm.len G ≤ 50000) (d1 : Tm.dropF L kk = .node p1 l1 r1) (hc1 : Tm.countF G p1 l1 = Tm.countF L p1 l1) (hc2 : Tm.countF S p1 l1 = 1) : RStep (strip ls22Ops) Q (fun i => ((ls22aEs L T S G kk p1 l1 r1)[i]?).getD .any) (fun i => (ls22aDs[i]?).getD (1000 + i)) (look (ls22aEnv L T S G kk p1 l1 r1)) 235 1 := fun _ => step_move (by kernel_rfl) (Opd.of_base 0 rfl) rfl
theorem ls22a_2 {Q : Exit → Act → World → Prop} (L T S G : Fo) (kk : Nat) (p1 : Pay) (l1 r1 : Fo) (hLn : Tm.len L ≤ 50000) (hSn : Tm.len S ≤ 50000) (hGn : Tm.len G ≤ 50000) (d1 : Tm.dropF L kk = .node p1 l1 r1) (hc1 : Tm.countF G p1 l1 = Tm.countF L p1 l1) (hc2 : Tm.countF S p1 l1 = 1) : RStep (strip ls22Ops) Q (fun i => ((ls22aEs L T S G kk p1 l1 r1)[i]?).getD .any) (fun i => (ls22aDs[i]?).getD (1000 + i)) (look (ls22aEnv L T S G kk p1 l1 r1)) 235 2 := fun _ => step_move (by kernel_rfl) (Opd.of_base 19 rfl) rfl
theorem ls22a_3 {Q : Exit → Act → World → Prop} (L T S G : Fo) (kk : Nat) (p1 : Pay) (l1 r1 : Fo) (hLn : Tm.len L ≤ 50000) (hSn : Tm.len S ≤ 50000) (hGn : Tm.len G ≤ 50000) (d1 : Tm.dropF L kk = .node p1 l1 r1) (hc1 : Tm.countF G p1 l1 = Tm.countF L p1 l1) (hc2 : Tm.countF S p1 l1 = 1) : RStep (strip ls22Ops) Q (fun i => ((ls22aEs L T S G kk p1 l1 r1)[i]?).getD .any) (fun i => (ls22aDs[i]?).getD (1000 + i)) (look (ls22aEnv L T S G kk p1 l1 r1)) 235 3 := fun _ => step_row_at (k := kk) (r := r1) (by kernel_rfl) (Opd.dep 1 rfl rfl (by kernel_rfl)) (Opd.dep 2 rfl rfl (by kernel_rfl)) d1 rfl
theorem ls22a_4 {Q : Exit → Act → World → Prop} (L T S G : Fo) (kk : Nat) (p1 : Pay) (l1 r1 : Fo) (hLn : Tm.len L ≤ 50000) (hSn : Tm.len S ≤ 50000) (hGn : Tm.len G ≤ 50000) (d1 : Tm.dropF L kk = .node p1 l1 r1) (hc1 : Tm.countF G p1 l1 = Tm.countF L p1 l1) (hc2 : Tm.countF S p1 l1 = 1) : RStep (strip ls22Ops) Q (fun i => ((ls22aEs L T S G kk p1 l1 r1)[i]?).getD .any) (fun i => (ls22aDs[i]?).getD (1000 + i)) (look (ls22aEnv L T S G kk p1 l1 r1)) 235 4 := fun _ => step_load_term (by kernel_rfl) (Opd.dep 3 rfl rfl (by kernel_rfl)) rfl
theorem ls22a_5 {Q : Exit → Act → World → Prop} (L T S G : Fo) (kk : Nat) (p1 : Pay) (l1 r1 : Fo) (hLn : Tm.len L ≤ 50000) (hSn : Tm.len S ≤ 50000) (hGn : Tm.len G ≤ 50000) (d1 : Tm.dropF L kk = .node p1 l1 r1) (hc1 : Tm.countF G p1 l1 = Tm.countF L p1 l1) (hc2 : Tm.countF S p1 l1 = 1) : RStep (strip ls22Ops) Q (fun i => ((ls22aEs L T S G kk p1 l1 r1)[i]?).getD .any) (fun i => (ls22aDs[i]?).getD (1000 + i)) (look (ls22aEnv L T S G kk p1 l1 r1)) 235 5 := fun _ => step_count hGn (by kernel_rfl) (Opd.dep 0 rfl rfl (by kernel_rfl)) (Opd.dep 4 rfl rfl (by kernel_rfl)) rfl
theorem ls22a_6 {Q : Exit → Act → World → Prop} (L T S G : Fo) (kk : Nat) (p1 : Pay) (l1 r1 : Fo) (hLn : Tm.len L ≤ 50000) (hSn : Tm.len S ≤ 50000) (hGn : Tm.len G ≤ 50000) (d1 : Tm.dropF L kk = .node p1 l1 r1) (hc1 : Tm.countF G p1 l1 = Tm.countF L p1 l1) (hc2 : Tm.countF S p1 l1 = 1) : RStep (strip ls22Ops) Q (fun i => ((ls22aEs L T S G kk p1 l1 r1)[i]?).getD .any) (fun i => (ls22aDs[i]?).getD (1000 + i)) (look (ls22aEnv L T S G kk p1 l1 r1)) 235 6 := fun _ => step_move (by kernel_rfl) (Opd.of_base 0 rfl) rfl
theorem ls22a_7 {Q : Exit → Act → World → Prop} (L T S G : Fo) (kk : Nat) (p1 : Pay) (l1 r1 : Fo) (hLn : Tm.len L ≤ 50000) (hSn : Tm.len S ≤ 50000) (hGn : Tm.len G ≤ 50000) (d1 : Tm.dropF L kk = .node p1 l1 r1) (hc1 : Tm.countF G p1 l1 = Tm.countF L p1 l1) (hc2 : Tm.countF S p1 l1 = 1) : RStep (strip ls22Ops) Q (fun i => ((ls22aEs L T S G kk p1 l1 r1)[i]?).getD .any) (fun i => (ls22aDs[i]?).getD (1000 + i)) (look (ls22aEnv L T S G kk p1 l1 r1)) 235 7 := fun _ => step_move (by kernel_rfl) (Opd.of_base 0 rfl) rfl
theorem ls22a_8 {Q : Exit → Act → World → Prop} (L T S G : Fo) (kk : Nat) (p1 : Pay) (l1 r1 : Fo) (hLn : Tm.len L ≤ 50000) (hSn : Tm.len S ≤ 50000) (hGn : Tm.len G ≤ 50000) (d1 : Tm.dropF L kk = .node p1 l1 r1) (hc1 : Tm.countF G p1 l1 = Tm.countF L p1 l1) (hc2 : Tm.countF S p1 l1 = 1) : RStep (strip ls22Ops) Q (fun i => ((ls22aEs L T S G kk p1 l1 r1)[i]?).getD .any) (fun i => (ls22aDs[i]?).getD (1000 + i)) (look (ls22aEnv L T S G kk p1 l1 r1)) 235 8 := fun _ => step_move (by kernel_rfl) (Opd.of_base 19 rfl) rfl
theorem ls22a_9 {Q : Exit → Act → World → Prop} (L T S G : Fo) (kk : Nat) (p1 : Pay) (l1 r1 : Fo) (hLn : Tm.len L ≤ 50000) (hSn : Tm.len S ≤ 50000) (hGn : Tm.len G ≤ 50000) (d1 : Tm.dropF L kk = .node p1 l1 r1) (hc1 : Tm.countF G p1 l1 = Tm.countF L p1 l1) (hc2 : Tm.countF S p1 l1 = 1) : RStep (strip ls22Ops) Q (fun i => ((ls22aEs L T S G kk p1 l1 r1)[i]?).getD .any) (fun i => (ls22aDs[i]?).getD (1000 + i)) (look (ls22aEnv L T S G kk p1 l1 r1)) 235 9 := fun _ => step_row_at (k := kk) (r := r1) (by kernel_rfl) (Opd.dep 7 rfl rfl (by kernel_rfl)) (Opd.dep 8 rfl rfl (by kernel_rfl)) d1 rfl
theorem ls22a_10 {Q : Exit → Act → World → Prop} (L T S G : Fo) (kk : Nat) (p1 : Pay) (l1 r1 : Fo) (hLn : Tm.len L ≤ 50000) (hSn : Tm.len S ≤ 50000) (hGn : Tm.len G ≤ 50000) (d1 : Tm.dropF L kk = .node p1 l1 r1) (hc1 : Tm.countF G p1 l1 = Tm.countF L p1 l1) (hc2 : Tm.countF S p1 l1 = 1) : RStep (strip ls22Ops) Q (fun i => ((ls22aEs L T S G kk p1 l1 r1)[i]?).getD .any) (fun i => (ls22aDs[i]?).getD (1000 + i)) (look (ls22aEnv L T S G kk p1 l1 r1)) 235 10 := fun _ => step_load_term (by kernel_rfl) (Opd.dep 9 rfl rfl (by kernel_rfl)) rfl
theorem ls22a_11 {Q : Exit → Act → World → Prop} (L T S G : Fo) (kk : Nat) (p1 : Pay) (l1 r1 : Fo) (hLn : Tm.len L ≤ 50000) (hSn : Tm.len S ≤ 50000) (hGn : Tm.len G ≤ 50000) (d1 : Tm.dropF L kk = .node p1 l1 r1) (hc1 : Tm.countF G p1 l1 = Tm.countF L p1 l1) (hc2 : Tm.countF S p1 l1 = 1) : RStep (strip ls22Ops) Q (fun i => ((ls22aEs L T S G kk p1 l1 r1)[i]?).getD .any) (fun i => (ls22aDs[i]?).getD (1000 + i)) (look (ls22aEnv L T S G kk p1 l1 r1)) 235 11 := fun _ => step_count hLn (by kernel_rfl) (Opd.dep 6 rfl rfl (by kernel_rfl)) (Opd.dep 10 rfl rfl (by kernel_rfl)) rfl
theorem ls22a_12 {Q : Exit → Act → World → Prop} (L T S G : Fo) (kk : Nat) (p1 : Pay) (l1 r1 : Fo) (hLn : Tm.len L ≤ 50000) (hSn : Tm.len S ≤ 50000) (hGn : Tm.len G ≤ 50000) (d1 : Tm.dropF L kk = .node p1 l1 r1) (hc1 : Tm.countF G p1 l1 = Tm.countF L p1 l1) (hc2 : Tm.countF S p1 l1 = 1) : RStep (strip ls22Ops) Q (fun i => ((ls22aEs L T S G kk p1 l1 r1)[i]?).getD .any) (fun i => (ls22aDs[i]?).getD (1000 + i)) (look (ls22aEnv L T S G kk p1 l1 r1)) 235 12 := fun _ => step_ne_int (m := ((Tm.countF G p1 l1 : Nat) : Int)) (n := ((Tm.countF L p1 l1 : Nat) : Int)) (by kernel_rfl) (Opd.dep 5 rfl rfl (by kernel_rfl)) (Opd.dep 11 rfl rfl (by kernel_rfl)) (by rw [hc1]; simp) rfl
theorem ls22a_13 {Q : Exit → Act → World → Prop} (L T S G : Fo) (kk : Nat) (p1 : Pay) (l1 r1 : Fo) (hLn : Tm.len L ≤ 50000) (hSn : Tm.len S ≤ 50000) (hGn : Tm.len G ≤ 50000) (d1 : Tm.dropF L kk = .node p1 l1 r1) (hc1 : Tm.countF G p1 l1 = Tm.countF L p1 l1) (hc2 : Tm.countF S p1 l1 = 1) : RStep (strip ls22Ops) Q (fun i => ((ls22aEs L T S G kk p1 l1 r1)[i]?).getD .any) (fun i => (ls22aDs[i]?).getD (1000 + i)) (look (ls22aEnv L T S G kk p1 l1 r1)) 235 13 := fun _ => step_move (by kernel_rfl) (Opd.dep 12 rfl rfl (by kernel_rfl)) rfl
theorem ls22a_14 {Q : Exit → Act → World → Prop} (L T S G : Fo) (kk : Nat) (p1 : Pay) (l1 r1 : Fo) (hLn : Tm.len L ≤ 50000) (hSn : Tm.len S ≤ 50000) (hGn : Tm.len G ≤ 50000) (d1 : Tm.dropF L kk = .node p1 l1 r1) (hc1 : Tm.countF G p1 l1 = Tm.countF L p1 l1) (hc2 : Tm.countF S p1 l1 = 1) : RStep (strip ls22Ops) Q (fun i => ((ls22aEs L T S G kk p1 l1 r1)[i]?).getD .any) (fun i => (ls22aDs[i]?).getD (1000 + i)) (look (ls22aEnv L T S G kk p1 l1 r1)) 235 14 := fun _ => step_move (by kernel_rfl) (Opd.of_base 9 rfl) rfl
theorem ls22a_15 {Q : Exit → Act → World → Prop} (L T S G : Fo) (kk : Nat) (p1 : Pay) (l1 r1 : Fo) (hLn : Tm.len L ≤ 50000) (hSn : Tm.len S ≤ 50000) (hGn : Tm.len G ≤ 50000) (d1 : Tm.dropF L kk = .node p1 l1 r1) (hc1 : Tm.countF G p1 l1 = Tm.countF L p1 l1) (hc2 : Tm.countF S p1 l1 = 1) : RStep (strip ls22Ops) Q (fun i => ((ls22aEs L T S G kk p1 l1 r1)[i]?).getD .any) (fun i => (ls22aDs[i]?).getD (1000 + i)) (look (ls22aEnv L T S G kk p1 l1 r1)) 235 15 := fun _ => step_move (by kernel_rfl) (Opd.of_base 0 rfl) rfl
theorem ls22a_16 {Q : Exit → Act → World → Prop} (L T S G : Fo) (kk : Nat) (p1 : Pay) (l1 r1 : Fo) (hLn : Tm.len L ≤ 50000) (hSn : Tm.len S ≤ 50000) (hGn : Tm.len G ≤ 50000) (d1 : Tm.dropF L kk = .node p1 l1 r1) (hc1 : Tm.countF G p1 l1 = Tm.countF L p1 l1) (hc2 : Tm.countF S p1 l1 = 1) : RStep (strip ls22Ops) Q (fun i => ((ls22aEs L T S G kk p1 l1 r1)[i]?).getD .any) (fun i => (ls22aDs[i]?).getD (1000 + i)) (look (ls22aEnv L T S G kk p1 l1 r1)) 235 16 := fun _ => step_move (by kernel_rfl) (Opd.of_base 19 rfl) rfl
theorem ls22a_17 {Q : Exit → Act → World → Prop} (L T S G : Fo) (kk : Nat) (p1 : Pay) (l1 r1 : Fo) (hLn : Tm.len L ≤ 50000) (hSn : Tm.len S ≤ 50000) (hGn : Tm.len G ≤ 50000) (d1 : Tm.dropF L kk = .node p1 l1 r1) (hc1 : Tm.countF G p1 l1 = Tm.countF L p1 l1) (hc2 : Tm.countF S p1 l1 = 1) : RStep (strip ls22Ops) Q (fun i => ((ls22aEs L T S G kk p1 l1 r1)[i]?).getD .any) (fun i => (ls22aDs[i]?).getD (1000 + i)) (look (ls22aEnv L T S G kk p1 l1 r1)) 235 17 := fun _ => step_row_at (k := kk) (r := r1) (by kernel_rfl) (Opd.dep 15 rfl rfl (by kernel_rfl)) (Opd.dep 16 rfl rfl (by kernel_rfl)) d1 rfl
theorem ls22a_18 {Q : Exit → Act → World → Prop} (L T S G : Fo) (kk : Nat) (p1 : Pay) (l1 r1 : Fo) (hLn : Tm.len L ≤ 50000) (hSn : Tm.len S ≤ 50000) (hGn : Tm.len G ≤ 50000) (d1 : Tm.dropF L kk = .node p1 l1 r1) (hc1 : Tm.countF G p1 l1 = Tm.countF L p1 l1) (hc2 : Tm.countF S p1 l1 = 1) : RStep (strip ls22Ops) Q (fun i => ((ls22aEs L T S G kk p1 l1 r1)[i]?).getD .any) (fun i => (ls22aDs[i]?).getD (1000 + i)) (look (ls22aEnv L T S G kk p1 l1 r1)) 235 18 := fun _ => step_load_term (by kernel_rfl) (Opd.dep 17 rfl rfl (by kernel_rfl)) rfl
theorem ls22a_19 {Q : Exit → Act → World → Prop} (L T S G : Fo) (kk : Nat) (p1 : Pay) (l1 r1 : Fo) (hLn : Tm.len L ≤ 50000) (hSn : Tm.len S ≤ 50000) (hGn : Tm.len G ≤ 50000) (d1 : Tm.dropF L kk = .node p1 l1 r1) (hc1 : Tm.countF G p1 l1 = Tm.countF L p1 l1) (hc2 : Tm.countF S p1 l1 = 1) : RStep (strip ls22Ops) Q (fun i => ((ls22aEs L T S G kk p1 l1 r1)[i]?).getD .any) (fun i => (ls22aDs[i]?).getD (1000 + i)) (look (ls22aEnv L T S G kk p1 l1 r1)) 235 19 := fun _ => step_count hSn (by kernel_rfl) (Opd.dep 14 rfl rfl (by kernel_rfl)) (Opd.dep 18 rfl rfl (by kernel_rfl)) rfl
theorem ls22a_20 {Q : Exit → Act → World → Prop} (L T S G : Fo) (kk : Nat) (p1 : Pay) (l1 r1 : Fo) (hLn : Tm.len L ≤ 50000) (hSn : Tm.len S ≤ 50000) (hGn : Tm.len G ≤ 50000) (d1 : Tm.dropF L kk = .node p1 l1 r1) (hc1 : Tm.countF G p1 l1 = Tm.countF L p1 l1) (hc2 : Tm.countF S p1 l1 = 1) : RStep (strip ls22Ops) Q (fun i => ((ls22aEs L T S G kk p1 l1 r1)[i]?).getD .any) (fun i => (ls22aDs[i]?).getD (1000 + i)) (look (ls22aEnv L T S G kk p1 l1 r1)) 235 20 := fun _ => step_ne_int (m := ((Tm.countF S p1 l1 : Nat) : Int)) (n := 1) (by kernel_rfl) (Opd.dep 19 rfl rfl (by kernel_rfl)) (Opd.const _) (by rw [hc2]; rfl) rfl
theorem ls22a_21 {Q : Exit → Act → World → Prop} (L T S G : Fo) (kk : Nat) (p1 : Pay) (l1 r1 : Fo) (hLn : Tm.len L ≤ 50000) (hSn : Tm.len S ≤ 50000) (hGn : Tm.len G ≤ 50000) (d1 : Tm.dropF L kk = .node p1 l1 r1) (hc1 : Tm.countF G p1 l1 = Tm.countF L p1 l1) (hc2 : Tm.countF S p1 l1 = 1) : RStep (strip ls22Ops) Q (fun i => ((ls22aEs L T S G kk p1 l1 r1)[i]?).getD .any) (fun i => (ls22aDs[i]?).getD (1000 + i)) (look (ls22aEnv L T S G kk p1 l1 r1)) 235 21 := fun _ => step_pick_no (x := .const (.bool true)) (by kernel_rfl) (Opd.dep 13 rfl rfl (by kernel_rfl)) (Opd.dep 20 rfl rfl (by kernel_rfl)) rfl
theorem ls22a_region {Q : Exit → Act → World → Prop} (L T S G : Fo) (kk : Nat) (p1 : Pay) (l1 r1 : Fo) (hLn : Tm.len L ≤ 50000) (hSn : Tm.len S ≤ 50000) (hGn : Tm.len G ≤ 50000) (d1 : Tm.dropF L kk = .node p1 l1 r1) (hc1 : Tm.countF G p1 l1 = Tm.countF L p1 l1) (hc2 : Tm.countF S p1 l1 = 1) {w0 : World} {a : Act} {w : World} (h : Hold 235 [(19, .val (.int .i64 ((kk : Nat) : Int))), (0, .row L), (11, .row G), (9, .row S), (999, .tabs)] w0 a w)
    (hQ : ∀ a' w', Hold 235 [(19, .val (.int .i64 ((kk : Nat) : Int))), (0, .row L), (11, .row G), (9, .row S), (166, .val (.bool false)), (999, .tabs)] w0 a' w' → Q .normal a' w') : (Code.region 22 ls22Ops true).wp Tryd.prog Q a w := by
  have hall : ∀ i, i < 0 → RStep (strip ls22Ops) Q (fun i => ((ls22aEs L T S G kk p1 l1 r1)[i]?).getD .any) (fun i => (ls22aDs[i]?).getD (1000 + i)) (look (ls22aEnv L T S G kk p1 l1 r1)) 235 i := fun i hi => absurd hi (by omega)
  have hall := below_succ hall (ls22a_0 L T S G kk p1 l1 r1 hLn hSn hGn d1 hc1 hc2)
  have hall := below_succ hall (ls22a_1 L T S G kk p1 l1 r1 hLn hSn hGn d1 hc1 hc2)
  have hall := below_succ hall (ls22a_2 L T S G kk p1 l1 r1 hLn hSn hGn d1 hc1 hc2)
  have hall := below_succ hall (ls22a_3 L T S G kk p1 l1 r1 hLn hSn hGn d1 hc1 hc2)
  have hall := below_succ hall (ls22a_4 L T S G kk p1 l1 r1 hLn hSn hGn d1 hc1 hc2)
  have hall := below_succ hall (ls22a_5 L T S G kk p1 l1 r1 hLn hSn hGn d1 hc1 hc2)
  have hall := below_succ hall (ls22a_6 L T S G kk p1 l1 r1 hLn hSn hGn d1 hc1 hc2)
  have hall := below_succ hall (ls22a_7 L T S G kk p1 l1 r1 hLn hSn hGn d1 hc1 hc2)
  have hall := below_succ hall (ls22a_8 L T S G kk p1 l1 r1 hLn hSn hGn d1 hc1 hc2)
  have hall := below_succ hall (ls22a_9 L T S G kk p1 l1 r1 hLn hSn hGn d1 hc1 hc2)
  have hall := below_succ hall (ls22a_10 L T S G kk p1 l1 r1 hLn hSn hGn d1 hc1 hc2)
  have hall := below_succ hall (ls22a_11 L T S G kk p1 l1 r1 hLn hSn hGn d1 hc1 hc2)
  have hall := below_succ hall (ls22a_12 L T S G kk p1 l1 r1 hLn hSn hGn d1 hc1 hc2)
  have hall := below_succ hall (ls22a_13 L T S G kk p1 l1 r1 hLn hSn hGn d1 hc1 hc2)
  have hall := below_succ hall (ls22a_14 L T S G kk p1 l1 r1 hLn hSn hGn d1 hc1 hc2)
  have hall := below_succ hall (ls22a_15 L T S G kk p1 l1 r1 hLn hSn hGn d1 hc1 hc2)
  have hall := below_succ hall (ls22a_16 L T S G kk p1 l1 r1 hLn hSn hGn d1 hc1 hc2)
  have hall := below_succ hall (ls22a_17 L T S G kk p1 l1 r1 hLn hSn hGn d1 hc1 hc2)
  have hall := below_succ hall (ls22a_18 L T S G kk p1 l1 r1 hLn hSn hGn d1 hc1 hc2)
  have hall := below_succ hall (ls22a_19 L T S G kk p1 l1 r1 hLn hSn hGn d1 hc1 hc2)
  have hall := below_succ hall (ls22a_20 L T S G kk p1 l1 r1 hLn hSn hGn d1 hc1 hc2)
  have hall := below_succ hall (ls22a_21 L T S G kk p1 l1 r1 hLn hSn hGn d1 hc1 hc2)
  refine env_any4 (env := ls22aEnv L T S G kk p1 l1 r1) (N := 235) (w0 := w0) ls22aDs (ls22aEs L T S G kk p1 l1 r1) (by kernel_rfl) (by kernel_rfl) (of_decide_eq_true (by kernel_rfl)) (fun i_ hi_ => hall i_ (by rw [show (ls22aEs L T S G kk p1 l1 r1).length = 22 by kernel_rfl] at hi_; exact hi_)) h fun a' w' h => ?_
  exact hQ a' w' (h.keep [19, 0, 11, 9, 166, 999])
theorem ls21a_region {Q : Exit → Act → World → Prop} (L T S G : Fo) (kk : Nat) (hLn : Tm.len L ≤ 50000) (hi : kk < (Tm.len L)) {w0 : World} {a : Act} {w : World} (h : Hold 235 [(19, .val (.int .i64 ((kk : Nat) : Int))), (0, .row L), (11, .row G), (9, .row S), (999, .tabs)] w0 a w)
    (hQ : ∀ a' w', Hold 235 [(19, .val (.int .i64 ((kk + 1 : Nat) : Int))), (0, .row L), (11, .row G), (9, .row S), (999, .tabs)] w0 a' w' → Q .normal a' w') : (Code.region 21 ls21Ops false).wp Tryd.prog Q a w := by
  refine region_seq (w0 := w) 3 (by kernel_rfl) ?_
  rw [show List.range 3 = [0, 1, 2] from rfl]
  refine env_one (i := 0) (d := 143) (k := .val (.int .i64 ((kk : Nat) : Int))) (step_move (by kernel_rfl) (Opd.of_base 19 rfl) rfl) (by kernel_rfl) (by decide) h ?_
  clear h
  intro a w h
  refine env_one (i := 1) (d := 144) (k := .val (.int .i64 ((kk + 1 : Nat) : Int))) (step_add (m := ((kk : Nat) : Int)) (n := 1) (s := ((kk + 1 : Nat) : Int)) (by kernel_rfl) (Opd.of_base 143 rfl) (Opd.const _) (by rw [IntKind.wrap_i64]; omega) rfl) (by kernel_rfl) (by decide) h ?_
  clear h
  intro a w h
  refine env_one (i := 2) (d := 19) (k := .val (.int .i64 ((kk + 1 : Nat) : Int))) (step_assign (by kernel_rfl) (Opd.of_base 144 rfl) rfl) (by kernel_rfl) (by decide) h ?_
  clear h
  intro a w h
  exact hQ a w (h.keep [19, 0, 11, 9, 999])
theorem ls20b_region {Q : Exit → Act → World → Prop} (L T S G : Fo)  {w0 : World} {a : Act} {w : World} (h : Hold 235 [(19, .val (.int .i64 (((Tm.len L) : Nat) : Int))), (0, .row L), (11, .row G), (9, .row S), (999, .tabs)] w0 a w)
    (hQ : ∀ a' w', Hold 235 [(19, .val (.int .i64 (((Tm.len L) : Nat) : Int))), (0, .row L), (11, .row G), (9, .row S), (142, .val (.bool false)), (999, .tabs)] w0 a' w' → Q .normal a' w') : (Code.region 20 ls20Ops false).wp Tryd.prog Q a w := by
  refine region_seq (w0 := w) 4 (by kernel_rfl) ?_
  rw [show List.range 4 = [0, 1, 2, 3] from rfl]
  refine env_one (i := 0) (d := 139) (k := .val (.int .i64 (((Tm.len L) : Nat) : Int))) (step_move (by kernel_rfl) (Opd.of_base 19 rfl) rfl) (by kernel_rfl) (by decide) h ?_
  clear h
  intro a w h
  refine env_one (i := 1) (d := 140) (k := .row L) (step_move (by kernel_rfl) (Opd.of_base 0 rfl) rfl) (by kernel_rfl) (by decide) h ?_
  clear h
  intro a w h
  refine env_one (i := 2) (d := 141) (k := .val (.int .i64 ((Tm.len L : Nat) : Int))) (step_len_row (by kernel_rfl) (Opd.of_base 140 rfl) rfl) (by kernel_rfl) (by decide) h ?_
  clear h
  intro a w h
  refine env_one (i := 3) (d := 142) (k := .val (.bool false)) (step_lt_int (m := (((Tm.len L) : Nat) : Int)) (n := ((Tm.len L : Nat) : Int)) (by kernel_rfl) (Opd.of_base 139 rfl) (Opd.of_base 141 rfl) (decide_eq_false (by omega)) rfl) (by kernel_rfl) (by decide) h ?_
  clear h
  intro a w h
  exact hQ a w (h.keep [19, 0, 11, 9, 142, 999])
theorem ls24a_region {Q : Exit → Act → World → Prop} (L T S G : Fo)  {w0 : World} {a : Act} {w : World} (h : Hold 235 [(0, .row L), (11, .row G), (9, .row S), (999, .tabs)] w0 a w)
    (hQ : ∀ a' w', Hold 235 [(0, .row L), (11, .row G), (9, .row S), (20, .val (.int .i64 0)), (999, .tabs)] w0 a' w' → Q .normal a' w') : (Code.region 24 ls24Ops false).wp Tryd.prog Q a w := by
  refine region_seq (w0 := w) 1 (by kernel_rfl) ?_
  rw [show List.range 1 = [0] from rfl]
  refine env_one (i := 0) (d := 20) (k := .val (.int .i64 0)) (step_assign (by kernel_rfl) (Opd.const _) rfl) (by kernel_rfl) (by decide) h ?_
  clear h
  intro a w h
  exact hQ a w (h.keep [0, 11, 9, 20, 999])
theorem ls25a_region {Q : Exit → Act → World → Prop} (L T S G : Fo) (kk : Nat) (hi : kk < (Tm.len G)) {w0 : World} {a : Act} {w : World} (h : Hold 235 [(20, .val (.int .i64 ((kk : Nat) : Int))), (0, .row L), (11, .row G), (9, .row S), (999, .tabs)] w0 a w)
    (hQ : ∀ a' w', Hold 235 [(20, .val (.int .i64 ((kk : Nat) : Int))), (0, .row L), (11, .row G), (9, .row S), (170, .val (.bool true)), (999, .tabs)] w0 a' w' → Q .normal a' w') : (Code.region 25 ls25Ops false).wp Tryd.prog Q a w := by
  refine region_seq (w0 := w) 4 (by kernel_rfl) ?_
  rw [show List.range 4 = [0, 1, 2, 3] from rfl]
  refine env_one (i := 0) (d := 167) (k := .val (.int .i64 ((kk : Nat) : Int))) (step_move (by kernel_rfl) (Opd.of_base 20 rfl) rfl) (by kernel_rfl) (by decide) h ?_
  clear h
  intro a w h
  refine env_one (i := 1) (d := 168) (k := .row G) (step_move (by kernel_rfl) (Opd.of_base 11 rfl) rfl) (by kernel_rfl) (by decide) h ?_
  clear h
  intro a w h
  refine env_one (i := 2) (d := 169) (k := .val (.int .i64 ((Tm.len G : Nat) : Int))) (step_len_row (by kernel_rfl) (Opd.of_base 168 rfl) rfl) (by kernel_rfl) (by decide) h ?_
  clear h
  intro a w h
  refine env_one (i := 3) (d := 170) (k := .val (.bool true)) (step_lt_int (m := ((kk : Nat) : Int)) (n := ((Tm.len G : Nat) : Int)) (by kernel_rfl) (Opd.of_base 167 rfl) (Opd.of_base 169 rfl) (decide_eq_true (by omega)) rfl) (by kernel_rfl) (by decide) h ?_
  clear h
  intro a w h
  exact hQ a w (h.keep [20, 0, 11, 9, 170, 999])
def ls27aEs (L T S G : Fo) (kk : Nat) : List Kd := [
  .val (.int .i64 ((kk : Nat) : Int)),
  .val (.bool false),
  .val (.bool false),
  .val undef,
  .val undef,
  .val undef,
  .val undef,
  .val undef,
  .val undef,
  .val undef,
  .val undef,
  .val undef,
  .val undef,
  .val undef,
  .val (.bool false)]
def ls27aDs : List Nat := [173, 174, 175, 176, 177, 178, 179, 180, 181, 182, 183, 184, 185, 186, 187]
def ls27aEnv (L T S G : Fo) (kk : Nat) : Env := [(20, .val (.int .i64 ((kk : Nat) : Int))), (0, .row L), (11, .row G), (9, .row S), (999, .tabs)]
theorem ls27a_0 {Q : Exit → Act → World → Prop} (L T S G : Fo) (kk : Nat) (h0 : kk = 0) : RStep (strip ls27Ops) Q (fun i => ((ls27aEs L T S G kk)[i]?).getD .any) (fun i => (ls27aDs[i]?).getD (1000 + i)) (look (ls27aEnv L T S G kk)) 235 0 := fun _ => step_move (by kernel_rfl) (Opd.of_base 20 rfl) rfl
theorem ls27a_1 {Q : Exit → Act → World → Prop} (L T S G : Fo) (kk : Nat) (h0 : kk = 0) : RStep (strip ls27Ops) Q (fun i => ((ls27aEs L T S G kk)[i]?).getD .any) (fun i => (ls27aDs[i]?).getD (1000 + i)) (look (ls27aEnv L T S G kk)) 235 1 := fun _ => step_gt_int (m := ((kk : Nat) : Int)) (n := 0) (by kernel_rfl) (Opd.dep 0 rfl rfl (by kernel_rfl)) (Opd.const _) (decide_eq_false (by omega)) rfl
theorem ls27a_2 {Q : Exit → Act → World → Prop} (L T S G : Fo) (kk : Nat) (h0 : kk = 0) : RStep (strip ls27Ops) Q (fun i => ((ls27aEs L T S G kk)[i]?).getD .any) (fun i => (ls27aDs[i]?).getD (1000 + i)) (look (ls27aEnv L T S G kk)) 235 2 := fun _ => step_move (by kernel_rfl) (Opd.dep 1 rfl rfl (by kernel_rfl)) rfl
theorem ls27a_3 {Q : Exit → Act → World → Prop} (L T S G : Fo) (kk : Nat) (h0 : kk = 0) : RStep (strip ls27Ops) Q (fun i => ((ls27aEs L T S G kk)[i]?).getD .any) (fun i => (ls27aDs[i]?).getD (1000 + i)) (look (ls27aEnv L T S G kk)) 235 3 := rstep_skip (by kernel_rfl)
theorem ls27a_4 {Q : Exit → Act → World → Prop} (L T S G : Fo) (kk : Nat) (h0 : kk = 0) : RStep (strip ls27Ops) Q (fun i => ((ls27aEs L T S G kk)[i]?).getD .any) (fun i => (ls27aDs[i]?).getD (1000 + i)) (look (ls27aEnv L T S G kk)) 235 4 := rstep_skip (by kernel_rfl)
theorem ls27a_5 {Q : Exit → Act → World → Prop} (L T S G : Fo) (kk : Nat) (h0 : kk = 0) : RStep (strip ls27Ops) Q (fun i => ((ls27aEs L T S G kk)[i]?).getD .any) (fun i => (ls27aDs[i]?).getD (1000 + i)) (look (ls27aEnv L T S G kk)) 235 5 := rstep_skip (by kernel_rfl)
theorem ls27a_6 {Q : Exit → Act → World → Prop} (L T S G : Fo) (kk : Nat) (h0 : kk = 0) : RStep (strip ls27Ops) Q (fun i => ((ls27aEs L T S G kk)[i]?).getD .any) (fun i => (ls27aDs[i]?).getD (1000 + i)) (look (ls27aEnv L T S G kk)) 235 6 := rstep_skip (by kernel_rfl)
theorem ls27a_7 {Q : Exit → Act → World → Prop} (L T S G : Fo) (kk : Nat) (h0 : kk = 0) : RStep (strip ls27Ops) Q (fun i => ((ls27aEs L T S G kk)[i]?).getD .any) (fun i => (ls27aDs[i]?).getD (1000 + i)) (look (ls27aEnv L T S G kk)) 235 7 := rstep_skip (by kernel_rfl)
theorem ls27a_8 {Q : Exit → Act → World → Prop} (L T S G : Fo) (kk : Nat) (h0 : kk = 0) : RStep (strip ls27Ops) Q (fun i => ((ls27aEs L T S G kk)[i]?).getD .any) (fun i => (ls27aDs[i]?).getD (1000 + i)) (look (ls27aEnv L T S G kk)) 235 8 := rstep_skip (by kernel_rfl)
theorem ls27a_9 {Q : Exit → Act → World → Prop} (L T S G : Fo) (kk : Nat) (h0 : kk = 0) : RStep (strip ls27Ops) Q (fun i => ((ls27aEs L T S G kk)[i]?).getD .any) (fun i => (ls27aDs[i]?).getD (1000 + i)) (look (ls27aEnv L T S G kk)) 235 9 := rstep_skip (by kernel_rfl)
theorem ls27a_10 {Q : Exit → Act → World → Prop} (L T S G : Fo) (kk : Nat) (h0 : kk = 0) : RStep (strip ls27Ops) Q (fun i => ((ls27aEs L T S G kk)[i]?).getD .any) (fun i => (ls27aDs[i]?).getD (1000 + i)) (look (ls27aEnv L T S G kk)) 235 10 := rstep_skip (by kernel_rfl)
theorem ls27a_11 {Q : Exit → Act → World → Prop} (L T S G : Fo) (kk : Nat) (h0 : kk = 0) : RStep (strip ls27Ops) Q (fun i => ((ls27aEs L T S G kk)[i]?).getD .any) (fun i => (ls27aDs[i]?).getD (1000 + i)) (look (ls27aEnv L T S G kk)) 235 11 := rstep_skip (by kernel_rfl)
theorem ls27a_12 {Q : Exit → Act → World → Prop} (L T S G : Fo) (kk : Nat) (h0 : kk = 0) : RStep (strip ls27Ops) Q (fun i => ((ls27aEs L T S G kk)[i]?).getD .any) (fun i => (ls27aDs[i]?).getD (1000 + i)) (look (ls27aEnv L T S G kk)) 235 12 := rstep_skip (by kernel_rfl)
theorem ls27a_13 {Q : Exit → Act → World → Prop} (L T S G : Fo) (kk : Nat) (h0 : kk = 0) : RStep (strip ls27Ops) Q (fun i => ((ls27aEs L T S G kk)[i]?).getD .any) (fun i => (ls27aDs[i]?).getD (1000 + i)) (look (ls27aEnv L T S G kk)) 235 13 := rstep_skip (by kernel_rfl)
theorem ls27a_14 {Q : Exit → Act → World → Prop} (L T S G : Fo) (kk : Nat) (h0 : kk = 0) : RStep (strip ls27Ops) Q (fun i => ((ls27aEs L T S G kk)[i]?).getD .any) (fun i => (ls27aDs[i]?).getD (1000 + i)) (look (ls27aEnv L T S G kk)) 235 14 := fun _ => step_pick_no (x := .tmp 186) (by kernel_rfl) (Opd.dep 2 rfl rfl (by kernel_rfl)) (Opd.const _) rfl
theorem ls27a_region {Q : Exit → Act → World → Prop} (L T S G : Fo) (kk : Nat) (h0 : kk = 0) {w0 : World} {a : Act} {w : World} (h : Hold 235 [(20, .val (.int .i64 ((kk : Nat) : Int))), (0, .row L), (11, .row G), (9, .row S), (999, .tabs)] w0 a w)
    (hQ : ∀ a' w', Hold 235 [(20, .val (.int .i64 ((kk : Nat) : Int))), (0, .row L), (11, .row G), (9, .row S), (187, .val (.bool false)), (999, .tabs)] w0 a' w' → Q .normal a' w') : (Code.region 27 ls27Ops true).wp Tryd.prog Q a w := by
  have hall : ∀ i, i < 0 → RStep (strip ls27Ops) Q (fun i => ((ls27aEs L T S G kk)[i]?).getD .any) (fun i => (ls27aDs[i]?).getD (1000 + i)) (look (ls27aEnv L T S G kk)) 235 i := fun i hi => absurd hi (by omega)
  have hall := below_succ hall (ls27a_0 L T S G kk h0)
  have hall := below_succ hall (ls27a_1 L T S G kk h0)
  have hall := below_succ hall (ls27a_2 L T S G kk h0)
  have hall := below_succ hall (ls27a_3 L T S G kk h0)
  have hall := below_succ hall (ls27a_4 L T S G kk h0)
  have hall := below_succ hall (ls27a_5 L T S G kk h0)
  have hall := below_succ hall (ls27a_6 L T S G kk h0)
  have hall := below_succ hall (ls27a_7 L T S G kk h0)
  have hall := below_succ hall (ls27a_8 L T S G kk h0)
  have hall := below_succ hall (ls27a_9 L T S G kk h0)
  have hall := below_succ hall (ls27a_10 L T S G kk h0)
  have hall := below_succ hall (ls27a_11 L T S G kk h0)
  have hall := below_succ hall (ls27a_12 L T S G kk h0)
  have hall := below_succ hall (ls27a_13 L T S G kk h0)
  have hall := below_succ hall (ls27a_14 L T S G kk h0)
  refine env_any4 (env := ls27aEnv L T S G kk) (N := 235) (w0 := w0) ls27aDs (ls27aEs L T S G kk) (by kernel_rfl) (by kernel_rfl) (of_decide_eq_true (by kernel_rfl)) (fun i_ hi_ => hall i_ (by rw [show (ls27aEs L T S G kk).length = 15 by kernel_rfl] at hi_; exact hi_)) h fun a' w' h => ?_
  exact hQ a' w' (h.keep [20, 0, 11, 9, 187, 999])
theorem ls26a_region {Q : Exit → Act → World → Prop} (L T S G : Fo) (kk : Nat) (hGn : Tm.len G ≤ 50000) (hi : kk < (Tm.len G)) {w0 : World} {a : Act} {w : World} (h : Hold 235 [(20, .val (.int .i64 ((kk : Nat) : Int))), (0, .row L), (11, .row G), (9, .row S), (999, .tabs)] w0 a w)
    (hQ : ∀ a' w', Hold 235 [(20, .val (.int .i64 ((kk + 1 : Nat) : Int))), (0, .row L), (11, .row G), (9, .row S), (999, .tabs)] w0 a' w' → Q .normal a' w') : (Code.region 26 ls26Ops false).wp Tryd.prog Q a w := by
  refine region_seq (w0 := w) 3 (by kernel_rfl) ?_
  rw [show List.range 3 = [0, 1, 2] from rfl]
  refine env_one (i := 0) (d := 171) (k := .val (.int .i64 ((kk : Nat) : Int))) (step_move (by kernel_rfl) (Opd.of_base 20 rfl) rfl) (by kernel_rfl) (by decide) h ?_
  clear h
  intro a w h
  refine env_one (i := 1) (d := 172) (k := .val (.int .i64 ((kk + 1 : Nat) : Int))) (step_add (m := ((kk : Nat) : Int)) (n := 1) (s := ((kk + 1 : Nat) : Int)) (by kernel_rfl) (Opd.of_base 171 rfl) (Opd.const _) (by rw [IntKind.wrap_i64]; omega) rfl) (by kernel_rfl) (by decide) h ?_
  clear h
  intro a w h
  refine env_one (i := 2) (d := 20) (k := .val (.int .i64 ((kk + 1 : Nat) : Int))) (step_assign (by kernel_rfl) (Opd.of_base 172 rfl) rfl) (by kernel_rfl) (by decide) h ?_
  clear h
  intro a w h
  exact hQ a w (h.keep [20, 0, 11, 9, 999])
def ls27bEs (L T S G : Fo) (kk : Nat) (j : Nat) (p1 : Pay) (l1 r1 : Fo) (p2 : Pay) (l2 r2 : Fo) : List Kd := [
  .val (.int .i64 (((j + 1) : Nat) : Int)),
  .val (.bool true),
  .val (.bool true),
  .row G,
  .val (.int .i64 (((j + 1) : Nat) : Int)),
  .val (.int .i64 ((((j + 1)) - 1 : Nat) : Int)),
  .ptrT p1 l1,
  .term p1 l1,
  .row G,
  .val (.int .i64 (((j + 1) : Nat) : Int)),
  .ptrT p2 l2,
  .term p2 l2,
  .val (.int .i64 (Tm.cmpV p1 l1 p2 l2)),
  .val (.bool false),
  .val (.bool false)]
def ls27bDs : List Nat := [173, 174, 175, 176, 177, 178, 179, 180, 181, 182, 183, 184, 185, 186, 187]
def ls27bEnv (L T S G : Fo) (kk : Nat) (j : Nat) (p1 : Pay) (l1 r1 : Fo) (p2 : Pay) (l2 r2 : Fo) : Env := [(20, .val (.int .i64 (((j + 1) : Nat) : Int))), (0, .row L), (11, .row G), (9, .row S), (999, .tabs)]
theorem ls27b_0 {Q : Exit → Act → World → Prop} (L T S G : Fo) (kk : Nat) (j : Nat) (p1 : Pay) (l1 r1 : Fo) (p2 : Pay) (l2 r2 : Fo) (hGn : Tm.len G ≤ 50000) (hj : j + 1 < Tm.len G) (d1 : Tm.dropF G ((j + 1) - 1) = .node p1 l1 r1) (d2 : Tm.dropF G (j + 1) = .node p2 l2 r2) (hcv : Tm.cmpV p1 l1 p2 l2 ≤ 0) : RStep (strip ls27Ops) Q (fun i => ((ls27bEs L T S G (j + 1) j p1 l1 r1 p2 l2 r2)[i]?).getD .any) (fun i => (ls27bDs[i]?).getD (1000 + i)) (look (ls27bEnv L T S G (j + 1) j p1 l1 r1 p2 l2 r2)) 235 0 := fun _ => step_move (by kernel_rfl) (Opd.of_base 20 rfl) rfl
theorem ls27b_1 {Q : Exit → Act → World → Prop} (L T S G : Fo) (kk : Nat) (j : Nat) (p1 : Pay) (l1 r1 : Fo) (p2 : Pay) (l2 r2 : Fo) (hGn : Tm.len G ≤ 50000) (hj : j + 1 < Tm.len G) (d1 : Tm.dropF G ((j + 1) - 1) = .node p1 l1 r1) (d2 : Tm.dropF G (j + 1) = .node p2 l2 r2) (hcv : Tm.cmpV p1 l1 p2 l2 ≤ 0) : RStep (strip ls27Ops) Q (fun i => ((ls27bEs L T S G (j + 1) j p1 l1 r1 p2 l2 r2)[i]?).getD .any) (fun i => (ls27bDs[i]?).getD (1000 + i)) (look (ls27bEnv L T S G (j + 1) j p1 l1 r1 p2 l2 r2)) 235 1 := fun _ => step_gt_int (m := (((j + 1) : Nat) : Int)) (n := 0) (by kernel_rfl) (Opd.dep 0 rfl rfl (by kernel_rfl)) (Opd.const _) (decide_eq_true (by omega)) rfl
theorem ls27b_2 {Q : Exit → Act → World → Prop} (L T S G : Fo) (kk : Nat) (j : Nat) (p1 : Pay) (l1 r1 : Fo) (p2 : Pay) (l2 r2 : Fo) (hGn : Tm.len G ≤ 50000) (hj : j + 1 < Tm.len G) (d1 : Tm.dropF G ((j + 1) - 1) = .node p1 l1 r1) (d2 : Tm.dropF G (j + 1) = .node p2 l2 r2) (hcv : Tm.cmpV p1 l1 p2 l2 ≤ 0) : RStep (strip ls27Ops) Q (fun i => ((ls27bEs L T S G (j + 1) j p1 l1 r1 p2 l2 r2)[i]?).getD .any) (fun i => (ls27bDs[i]?).getD (1000 + i)) (look (ls27bEnv L T S G (j + 1) j p1 l1 r1 p2 l2 r2)) 235 2 := fun _ => step_move (by kernel_rfl) (Opd.dep 1 rfl rfl (by kernel_rfl)) rfl
theorem ls27b_3 {Q : Exit → Act → World → Prop} (L T S G : Fo) (kk : Nat) (j : Nat) (p1 : Pay) (l1 r1 : Fo) (p2 : Pay) (l2 r2 : Fo) (hGn : Tm.len G ≤ 50000) (hj : j + 1 < Tm.len G) (d1 : Tm.dropF G ((j + 1) - 1) = .node p1 l1 r1) (d2 : Tm.dropF G (j + 1) = .node p2 l2 r2) (hcv : Tm.cmpV p1 l1 p2 l2 ≤ 0) : RStep (strip ls27Ops) Q (fun i => ((ls27bEs L T S G (j + 1) j p1 l1 r1 p2 l2 r2)[i]?).getD .any) (fun i => (ls27bDs[i]?).getD (1000 + i)) (look (ls27bEnv L T S G (j + 1) j p1 l1 r1 p2 l2 r2)) 235 3 := fun _ => step_move (by kernel_rfl) (Opd.of_base 11 rfl) rfl
theorem ls27b_4 {Q : Exit → Act → World → Prop} (L T S G : Fo) (kk : Nat) (j : Nat) (p1 : Pay) (l1 r1 : Fo) (p2 : Pay) (l2 r2 : Fo) (hGn : Tm.len G ≤ 50000) (hj : j + 1 < Tm.len G) (d1 : Tm.dropF G ((j + 1) - 1) = .node p1 l1 r1) (d2 : Tm.dropF G (j + 1) = .node p2 l2 r2) (hcv : Tm.cmpV p1 l1 p2 l2 ≤ 0) : RStep (strip ls27Ops) Q (fun i => ((ls27bEs L T S G (j + 1) j p1 l1 r1 p2 l2 r2)[i]?).getD .any) (fun i => (ls27bDs[i]?).getD (1000 + i)) (look (ls27bEnv L T S G (j + 1) j p1 l1 r1 p2 l2 r2)) 235 4 := fun _ => step_move (by kernel_rfl) (Opd.of_base 20 rfl) rfl
theorem ls27b_5 {Q : Exit → Act → World → Prop} (L T S G : Fo) (kk : Nat) (j : Nat) (p1 : Pay) (l1 r1 : Fo) (p2 : Pay) (l2 r2 : Fo) (hGn : Tm.len G ≤ 50000) (hj : j + 1 < Tm.len G) (d1 : Tm.dropF G ((j + 1) - 1) = .node p1 l1 r1) (d2 : Tm.dropF G (j + 1) = .node p2 l2 r2) (hcv : Tm.cmpV p1 l1 p2 l2 ≤ 0) : RStep (strip ls27Ops) Q (fun i => ((ls27bEs L T S G (j + 1) j p1 l1 r1 p2 l2 r2)[i]?).getD .any) (fun i => (ls27bDs[i]?).getD (1000 + i)) (look (ls27bEnv L T S G (j + 1) j p1 l1 r1 p2 l2 r2)) 235 5 := fun _ => step_sub (m := (((j + 1) : Nat) : Int)) (n := 1) (s := ((((j + 1)) - 1 : Nat) : Int)) (by kernel_rfl) (Opd.dep 4 rfl rfl (by kernel_rfl)) (Opd.const _) (by rw [IntKind.wrap_i64]; omega) rfl
theorem ls27b_6 {Q : Exit → Act → World → Prop} (L T S G : Fo) (kk : Nat) (j : Nat) (p1 : Pay) (l1 r1 : Fo) (p2 : Pay) (l2 r2 : Fo) (hGn : Tm.len G ≤ 50000) (hj : j + 1 < Tm.len G) (d1 : Tm.dropF G ((j + 1) - 1) = .node p1 l1 r1) (d2 : Tm.dropF G (j + 1) = .node p2 l2 r2) (hcv : Tm.cmpV p1 l1 p2 l2 ≤ 0) : RStep (strip ls27Ops) Q (fun i => ((ls27bEs L T S G (j + 1) j p1 l1 r1 p2 l2 r2)[i]?).getD .any) (fun i => (ls27bDs[i]?).getD (1000 + i)) (look (ls27bEnv L T S G (j + 1) j p1 l1 r1 p2 l2 r2)) 235 6 := fun _ => step_row_at (k := ((j + 1)) - 1) (r := r1) (by kernel_rfl) (Opd.dep 3 rfl rfl (by kernel_rfl)) (Opd.dep 5 rfl rfl (by kernel_rfl)) d1 rfl
theorem ls27b_7 {Q : Exit → Act → World → Prop} (L T S G : Fo) (kk : Nat) (j : Nat) (p1 : Pay) (l1 r1 : Fo) (p2 : Pay) (l2 r2 : Fo) (hGn : Tm.len G ≤ 50000) (hj : j + 1 < Tm.len G) (d1 : Tm.dropF G ((j + 1) - 1) = .node p1 l1 r1) (d2 : Tm.dropF G (j + 1) = .node p2 l2 r2) (hcv : Tm.cmpV p1 l1 p2 l2 ≤ 0) : RStep (strip ls27Ops) Q (fun i => ((ls27bEs L T S G (j + 1) j p1 l1 r1 p2 l2 r2)[i]?).getD .any) (fun i => (ls27bDs[i]?).getD (1000 + i)) (look (ls27bEnv L T S G (j + 1) j p1 l1 r1 p2 l2 r2)) 235 7 := fun _ => step_load_term (by kernel_rfl) (Opd.dep 6 rfl rfl (by kernel_rfl)) rfl
theorem ls27b_8 {Q : Exit → Act → World → Prop} (L T S G : Fo) (kk : Nat) (j : Nat) (p1 : Pay) (l1 r1 : Fo) (p2 : Pay) (l2 r2 : Fo) (hGn : Tm.len G ≤ 50000) (hj : j + 1 < Tm.len G) (d1 : Tm.dropF G ((j + 1) - 1) = .node p1 l1 r1) (d2 : Tm.dropF G (j + 1) = .node p2 l2 r2) (hcv : Tm.cmpV p1 l1 p2 l2 ≤ 0) : RStep (strip ls27Ops) Q (fun i => ((ls27bEs L T S G (j + 1) j p1 l1 r1 p2 l2 r2)[i]?).getD .any) (fun i => (ls27bDs[i]?).getD (1000 + i)) (look (ls27bEnv L T S G (j + 1) j p1 l1 r1 p2 l2 r2)) 235 8 := fun _ => step_move (by kernel_rfl) (Opd.of_base 11 rfl) rfl
theorem ls27b_9 {Q : Exit → Act → World → Prop} (L T S G : Fo) (kk : Nat) (j : Nat) (p1 : Pay) (l1 r1 : Fo) (p2 : Pay) (l2 r2 : Fo) (hGn : Tm.len G ≤ 50000) (hj : j + 1 < Tm.len G) (d1 : Tm.dropF G ((j + 1) - 1) = .node p1 l1 r1) (d2 : Tm.dropF G (j + 1) = .node p2 l2 r2) (hcv : Tm.cmpV p1 l1 p2 l2 ≤ 0) : RStep (strip ls27Ops) Q (fun i => ((ls27bEs L T S G (j + 1) j p1 l1 r1 p2 l2 r2)[i]?).getD .any) (fun i => (ls27bDs[i]?).getD (1000 + i)) (look (ls27bEnv L T S G (j + 1) j p1 l1 r1 p2 l2 r2)) 235 9 := fun _ => step_move (by kernel_rfl) (Opd.of_base 20 rfl) rfl
theorem ls27b_10 {Q : Exit → Act → World → Prop} (L T S G : Fo) (kk : Nat) (j : Nat) (p1 : Pay) (l1 r1 : Fo) (p2 : Pay) (l2 r2 : Fo) (hGn : Tm.len G ≤ 50000) (hj : j + 1 < Tm.len G) (d1 : Tm.dropF G ((j + 1) - 1) = .node p1 l1 r1) (d2 : Tm.dropF G (j + 1) = .node p2 l2 r2) (hcv : Tm.cmpV p1 l1 p2 l2 ≤ 0) : RStep (strip ls27Ops) Q (fun i => ((ls27bEs L T S G (j + 1) j p1 l1 r1 p2 l2 r2)[i]?).getD .any) (fun i => (ls27bDs[i]?).getD (1000 + i)) (look (ls27bEnv L T S G (j + 1) j p1 l1 r1 p2 l2 r2)) 235 10 := fun _ => step_row_at (k := (j + 1)) (r := r2) (by kernel_rfl) (Opd.dep 8 rfl rfl (by kernel_rfl)) (Opd.dep 9 rfl rfl (by kernel_rfl)) d2 rfl
theorem ls27b_11 {Q : Exit → Act → World → Prop} (L T S G : Fo) (kk : Nat) (j : Nat) (p1 : Pay) (l1 r1 : Fo) (p2 : Pay) (l2 r2 : Fo) (hGn : Tm.len G ≤ 50000) (hj : j + 1 < Tm.len G) (d1 : Tm.dropF G ((j + 1) - 1) = .node p1 l1 r1) (d2 : Tm.dropF G (j + 1) = .node p2 l2 r2) (hcv : Tm.cmpV p1 l1 p2 l2 ≤ 0) : RStep (strip ls27Ops) Q (fun i => ((ls27bEs L T S G (j + 1) j p1 l1 r1 p2 l2 r2)[i]?).getD .any) (fun i => (ls27bDs[i]?).getD (1000 + i)) (look (ls27bEnv L T S G (j + 1) j p1 l1 r1 p2 l2 r2)) 235 11 := fun _ => step_load_term (by kernel_rfl) (Opd.dep 10 rfl rfl (by kernel_rfl)) rfl
theorem ls27b_12 {Q : Exit → Act → World → Prop} (L T S G : Fo) (kk : Nat) (j : Nat) (p1 : Pay) (l1 r1 : Fo) (p2 : Pay) (l2 r2 : Fo) (hGn : Tm.len G ≤ 50000) (hj : j + 1 < Tm.len G) (d1 : Tm.dropF G ((j + 1) - 1) = .node p1 l1 r1) (d2 : Tm.dropF G (j + 1) = .node p2 l2 r2) (hcv : Tm.cmpV p1 l1 p2 l2 ≤ 0) : RStep (strip ls27Ops) Q (fun i => ((ls27bEs L T S G (j + 1) j p1 l1 r1 p2 l2 r2)[i]?).getD .any) (fun i => (ls27bDs[i]?).getD (1000 + i)) (look (ls27bEnv L T S G (j + 1) j p1 l1 r1 p2 l2 r2)) 235 12 := fun _ => step_ocmp 999 (by kernel_rfl) (Opd.dep 7 rfl rfl (by kernel_rfl)) (Opd.dep 11 rfl rfl (by kernel_rfl)) (Opd.of_base 999 rfl) rfl
theorem ls27b_13 {Q : Exit → Act → World → Prop} (L T S G : Fo) (kk : Nat) (j : Nat) (p1 : Pay) (l1 r1 : Fo) (p2 : Pay) (l2 r2 : Fo) (hGn : Tm.len G ≤ 50000) (hj : j + 1 < Tm.len G) (d1 : Tm.dropF G ((j + 1) - 1) = .node p1 l1 r1) (d2 : Tm.dropF G (j + 1) = .node p2 l2 r2) (hcv : Tm.cmpV p1 l1 p2 l2 ≤ 0) : RStep (strip ls27Ops) Q (fun i => ((ls27bEs L T S G (j + 1) j p1 l1 r1 p2 l2 r2)[i]?).getD .any) (fun i => (ls27bDs[i]?).getD (1000 + i)) (look (ls27bEnv L T S G (j + 1) j p1 l1 r1 p2 l2 r2)) 235 13 := fun _ => step_gt_int (m := (Tm.cmpV p1 l1 p2 l2)) (n := 0) (by kernel_rfl) (Opd.dep 12 rfl rfl (by kernel_rfl)) (Opd.const _) (decide_eq_false (by omega)) rfl
theorem ls27b_14 {Q : Exit → Act → World → Prop} (L T S G : Fo) (kk : Nat) (j : Nat) (p1 : Pay) (l1 r1 : Fo) (p2 : Pay) (l2 r2 : Fo) (hGn : Tm.len G ≤ 50000) (hj : j + 1 < Tm.len G) (d1 : Tm.dropF G ((j + 1) - 1) = .node p1 l1 r1) (d2 : Tm.dropF G (j + 1) = .node p2 l2 r2) (hcv : Tm.cmpV p1 l1 p2 l2 ≤ 0) : RStep (strip ls27Ops) Q (fun i => ((ls27bEs L T S G (j + 1) j p1 l1 r1 p2 l2 r2)[i]?).getD .any) (fun i => (ls27bDs[i]?).getD (1000 + i)) (look (ls27bEnv L T S G (j + 1) j p1 l1 r1 p2 l2 r2)) 235 14 := fun _ => step_pick_yes (y := .const (.bool false)) (by kernel_rfl) (Opd.dep 2 rfl rfl (by kernel_rfl)) (Opd.dep 13 rfl rfl (by kernel_rfl)) rfl
theorem ls27b_region {Q : Exit → Act → World → Prop} (L T S G : Fo) (kk : Nat) (j : Nat) (p1 : Pay) (l1 r1 : Fo) (p2 : Pay) (l2 r2 : Fo) (hGn : Tm.len G ≤ 50000) (hj : j + 1 < Tm.len G) (d1 : Tm.dropF G ((j + 1) - 1) = .node p1 l1 r1) (d2 : Tm.dropF G (j + 1) = .node p2 l2 r2) (hcv : Tm.cmpV p1 l1 p2 l2 ≤ 0) {w0 : World} {a : Act} {w : World} (h : Hold 235 [(20, .val (.int .i64 (((j + 1) : Nat) : Int))), (0, .row L), (11, .row G), (9, .row S), (999, .tabs)] w0 a w)
    (hQ : ∀ a' w', Hold 235 [(20, .val (.int .i64 (((j + 1) : Nat) : Int))), (0, .row L), (11, .row G), (9, .row S), (187, .val (.bool false)), (999, .tabs)] w0 a' w' → Q .normal a' w') : (Code.region 27 ls27Ops true).wp Tryd.prog Q a w := by
  have hall : ∀ i, i < 0 → RStep (strip ls27Ops) Q (fun i => ((ls27bEs L T S G (j + 1) j p1 l1 r1 p2 l2 r2)[i]?).getD .any) (fun i => (ls27bDs[i]?).getD (1000 + i)) (look (ls27bEnv L T S G (j + 1) j p1 l1 r1 p2 l2 r2)) 235 i := fun i hi => absurd hi (by omega)
  have hall := below_succ hall (ls27b_0 L T S G (j + 1) j p1 l1 r1 p2 l2 r2 hGn hj d1 d2 hcv)
  have hall := below_succ hall (ls27b_1 L T S G (j + 1) j p1 l1 r1 p2 l2 r2 hGn hj d1 d2 hcv)
  have hall := below_succ hall (ls27b_2 L T S G (j + 1) j p1 l1 r1 p2 l2 r2 hGn hj d1 d2 hcv)
  have hall := below_succ hall (ls27b_3 L T S G (j + 1) j p1 l1 r1 p2 l2 r2 hGn hj d1 d2 hcv)
  have hall := below_succ hall (ls27b_4 L T S G (j + 1) j p1 l1 r1 p2 l2 r2 hGn hj d1 d2 hcv)
  have hall := below_succ hall (ls27b_5 L T S G (j + 1) j p1 l1 r1 p2 l2 r2 hGn hj d1 d2 hcv)
  have hall := below_succ hall (ls27b_6 L T S G (j + 1) j p1 l1 r1 p2 l2 r2 hGn hj d1 d2 hcv)
  have hall := below_succ hall (ls27b_7 L T S G (j + 1) j p1 l1 r1 p2 l2 r2 hGn hj d1 d2 hcv)
  have hall := below_succ hall (ls27b_8 L T S G (j + 1) j p1 l1 r1 p2 l2 r2 hGn hj d1 d2 hcv)
  have hall := below_succ hall (ls27b_9 L T S G (j + 1) j p1 l1 r1 p2 l2 r2 hGn hj d1 d2 hcv)
  have hall := below_succ hall (ls27b_10 L T S G (j + 1) j p1 l1 r1 p2 l2 r2 hGn hj d1 d2 hcv)
  have hall := below_succ hall (ls27b_11 L T S G (j + 1) j p1 l1 r1 p2 l2 r2 hGn hj d1 d2 hcv)
  have hall := below_succ hall (ls27b_12 L T S G (j + 1) j p1 l1 r1 p2 l2 r2 hGn hj d1 d2 hcv)
  have hall := below_succ hall (ls27b_13 L T S G (j + 1) j p1 l1 r1 p2 l2 r2 hGn hj d1 d2 hcv)
  have hall := below_succ hall (ls27b_14 L T S G (j + 1) j p1 l1 r1 p2 l2 r2 hGn hj d1 d2 hcv)
  refine env_any4 (env := ls27bEnv L T S G (j + 1) j p1 l1 r1 p2 l2 r2) (N := 235) (w0 := w0) ls27bDs (ls27bEs L T S G (j + 1) j p1 l1 r1 p2 l2 r2) (by kernel_rfl) (by kernel_rfl) (of_decide_eq_true (by kernel_rfl)) (fun i_ hi_ => hall i_ (by rw [show (ls27bEs L T S G (j + 1) j p1 l1 r1 p2 l2 r2).length = 15 by kernel_rfl] at hi_; exact hi_)) h fun a' w' h => ?_
  exact hQ a' w' (h.keep [20, 0, 11, 9, 187, 999])
theorem ls25b_region {Q : Exit → Act → World → Prop} (L T S G : Fo)  {w0 : World} {a : Act} {w : World} (h : Hold 235 [(20, .val (.int .i64 (((Tm.len G) : Nat) : Int))), (0, .row L), (11, .row G), (9, .row S), (999, .tabs)] w0 a w)
    (hQ : ∀ a' w', Hold 235 [(20, .val (.int .i64 (((Tm.len G) : Nat) : Int))), (0, .row L), (11, .row G), (9, .row S), (170, .val (.bool false)), (999, .tabs)] w0 a' w' → Q .normal a' w') : (Code.region 25 ls25Ops false).wp Tryd.prog Q a w := by
  refine region_seq (w0 := w) 4 (by kernel_rfl) ?_
  rw [show List.range 4 = [0, 1, 2, 3] from rfl]
  refine env_one (i := 0) (d := 167) (k := .val (.int .i64 (((Tm.len G) : Nat) : Int))) (step_move (by kernel_rfl) (Opd.of_base 20 rfl) rfl) (by kernel_rfl) (by decide) h ?_
  clear h
  intro a w h
  refine env_one (i := 1) (d := 168) (k := .row G) (step_move (by kernel_rfl) (Opd.of_base 11 rfl) rfl) (by kernel_rfl) (by decide) h ?_
  clear h
  intro a w h
  refine env_one (i := 2) (d := 169) (k := .val (.int .i64 ((Tm.len G : Nat) : Int))) (step_len_row (by kernel_rfl) (Opd.of_base 168 rfl) rfl) (by kernel_rfl) (by decide) h ?_
  clear h
  intro a w h
  refine env_one (i := 3) (d := 170) (k := .val (.bool false)) (step_lt_int (m := (((Tm.len G) : Nat) : Int)) (n := ((Tm.len G : Nat) : Int)) (by kernel_rfl) (Opd.of_base 167 rfl) (Opd.of_base 169 rfl) (decide_eq_false (by omega)) rfl) (by kernel_rfl) (by decide) h ?_
  clear h
  intro a w h
  exact hQ a w (h.keep [20, 0, 11, 9, 170, 999])
theorem ls29a_region {Q : Exit → Act → World → Prop} (L T S G : Fo)  {w0 : World} {a : Act} {w : World} (h : Hold 235 [(0, .row L), (9, .row S), (999, .tabs)] w0 a w)
    (hQ : ∀ a' w', Hold 235 [(0, .row L), (9, .row S), (21, .val (.int .i64 0)), (999, .tabs)] w0 a' w' → Q .normal a' w') : (Code.region 29 ls29Ops false).wp Tryd.prog Q a w := by
  refine region_seq (w0 := w) 1 (by kernel_rfl) ?_
  rw [show List.range 1 = [0] from rfl]
  refine env_one (i := 0) (d := 21) (k := .val (.int .i64 0)) (step_assign (by kernel_rfl) (Opd.const _) rfl) (by kernel_rfl) (by decide) h ?_
  clear h
  intro a w h
  exact hQ a w (h.keep [0, 9, 21, 999])
theorem ls30a_region {Q : Exit → Act → World → Prop} (L T S G : Fo) (kk : Nat) (hi : kk < (Tm.len S)) {w0 : World} {a : Act} {w : World} (h : Hold 235 [(21, .val (.int .i64 ((kk : Nat) : Int))), (0, .row L), (9, .row S), (999, .tabs)] w0 a w)
    (hQ : ∀ a' w', Hold 235 [(21, .val (.int .i64 ((kk : Nat) : Int))), (0, .row L), (9, .row S), (191, .val (.bool true)), (999, .tabs)] w0 a' w' → Q .normal a' w') : (Code.region 30 ls30Ops false).wp Tryd.prog Q a w := by
  refine region_seq (w0 := w) 4 (by kernel_rfl) ?_
  rw [show List.range 4 = [0, 1, 2, 3] from rfl]
  refine env_one (i := 0) (d := 188) (k := .val (.int .i64 ((kk : Nat) : Int))) (step_move (by kernel_rfl) (Opd.of_base 21 rfl) rfl) (by kernel_rfl) (by decide) h ?_
  clear h
  intro a w h
  refine env_one (i := 1) (d := 189) (k := .row S) (step_move (by kernel_rfl) (Opd.of_base 9 rfl) rfl) (by kernel_rfl) (by decide) h ?_
  clear h
  intro a w h
  refine env_one (i := 2) (d := 190) (k := .val (.int .i64 ((Tm.len S : Nat) : Int))) (step_len_row (by kernel_rfl) (Opd.of_base 189 rfl) rfl) (by kernel_rfl) (by decide) h ?_
  clear h
  intro a w h
  refine env_one (i := 3) (d := 191) (k := .val (.bool true)) (step_lt_int (m := ((kk : Nat) : Int)) (n := ((Tm.len S : Nat) : Int)) (by kernel_rfl) (Opd.of_base 188 rfl) (Opd.of_base 190 rfl) (decide_eq_true (by omega)) rfl) (by kernel_rfl) (by decide) h ?_
  clear h
  intro a w h
  exact hQ a w (h.keep [21, 0, 9, 191, 999])
def ls32aEs (L T S G : Fo) (kk : Nat) : List Kd := [
  .val (.int .i64 ((kk : Nat) : Int)),
  .val (.bool false),
  .val (.bool false),
  .val undef,
  .val undef,
  .val undef,
  .val undef,
  .val undef,
  .val undef,
  .val undef,
  .val undef,
  .val undef,
  .val undef,
  .val undef,
  .val (.bool false)]
def ls32aDs : List Nat := [194, 195, 196, 197, 198, 199, 200, 201, 202, 203, 204, 205, 206, 207, 208]
def ls32aEnv (L T S G : Fo) (kk : Nat) : Env := [(21, .val (.int .i64 ((kk : Nat) : Int))), (0, .row L), (9, .row S), (999, .tabs)]
theorem ls32a_0 {Q : Exit → Act → World → Prop} (L T S G : Fo) (kk : Nat) (h0 : kk = 0) : RStep (strip ls32Ops) Q (fun i => ((ls32aEs L T S G kk)[i]?).getD .any) (fun i => (ls32aDs[i]?).getD (1000 + i)) (look (ls32aEnv L T S G kk)) 235 0 := fun _ => step_move (by kernel_rfl) (Opd.of_base 21 rfl) rfl
theorem ls32a_1 {Q : Exit → Act → World → Prop} (L T S G : Fo) (kk : Nat) (h0 : kk = 0) : RStep (strip ls32Ops) Q (fun i => ((ls32aEs L T S G kk)[i]?).getD .any) (fun i => (ls32aDs[i]?).getD (1000 + i)) (look (ls32aEnv L T S G kk)) 235 1 := fun _ => step_gt_int (m := ((kk : Nat) : Int)) (n := 0) (by kernel_rfl) (Opd.dep 0 rfl rfl (by kernel_rfl)) (Opd.const _) (decide_eq_false (by omega)) rfl
theorem ls32a_2 {Q : Exit → Act → World → Prop} (L T S G : Fo) (kk : Nat) (h0 : kk = 0) : RStep (strip ls32Ops) Q (fun i => ((ls32aEs L T S G kk)[i]?).getD .any) (fun i => (ls32aDs[i]?).getD (1000 + i)) (look (ls32aEnv L T S G kk)) 235 2 := fun _ => step_move (by kernel_rfl) (Opd.dep 1 rfl rfl (by kernel_rfl)) rfl
theorem ls32a_3 {Q : Exit → Act → World → Prop} (L T S G : Fo) (kk : Nat) (h0 : kk = 0) : RStep (strip ls32Ops) Q (fun i => ((ls32aEs L T S G kk)[i]?).getD .any) (fun i => (ls32aDs[i]?).getD (1000 + i)) (look (ls32aEnv L T S G kk)) 235 3 := rstep_skip (by kernel_rfl)
theorem ls32a_4 {Q : Exit → Act → World → Prop} (L T S G : Fo) (kk : Nat) (h0 : kk = 0) : RStep (strip ls32Ops) Q (fun i => ((ls32aEs L T S G kk)[i]?).getD .any) (fun i => (ls32aDs[i]?).getD (1000 + i)) (look (ls32aEnv L T S G kk)) 235 4 := rstep_skip (by kernel_rfl)
theorem ls32a_5 {Q : Exit → Act → World → Prop} (L T S G : Fo) (kk : Nat) (h0 : kk = 0) : RStep (strip ls32Ops) Q (fun i => ((ls32aEs L T S G kk)[i]?).getD .any) (fun i => (ls32aDs[i]?).getD (1000 + i)) (look (ls32aEnv L T S G kk)) 235 5 := rstep_skip (by kernel_rfl)
theorem ls32a_6 {Q : Exit → Act → World → Prop} (L T S G : Fo) (kk : Nat) (h0 : kk = 0) : RStep (strip ls32Ops) Q (fun i => ((ls32aEs L T S G kk)[i]?).getD .any) (fun i => (ls32aDs[i]?).getD (1000 + i)) (look (ls32aEnv L T S G kk)) 235 6 := rstep_skip (by kernel_rfl)
theorem ls32a_7 {Q : Exit → Act → World → Prop} (L T S G : Fo) (kk : Nat) (h0 : kk = 0) : RStep (strip ls32Ops) Q (fun i => ((ls32aEs L T S G kk)[i]?).getD .any) (fun i => (ls32aDs[i]?).getD (1000 + i)) (look (ls32aEnv L T S G kk)) 235 7 := rstep_skip (by kernel_rfl)
theorem ls32a_8 {Q : Exit → Act → World → Prop} (L T S G : Fo) (kk : Nat) (h0 : kk = 0) : RStep (strip ls32Ops) Q (fun i => ((ls32aEs L T S G kk)[i]?).getD .any) (fun i => (ls32aDs[i]?).getD (1000 + i)) (look (ls32aEnv L T S G kk)) 235 8 := rstep_skip (by kernel_rfl)
theorem ls32a_9 {Q : Exit → Act → World → Prop} (L T S G : Fo) (kk : Nat) (h0 : kk = 0) : RStep (strip ls32Ops) Q (fun i => ((ls32aEs L T S G kk)[i]?).getD .any) (fun i => (ls32aDs[i]?).getD (1000 + i)) (look (ls32aEnv L T S G kk)) 235 9 := rstep_skip (by kernel_rfl)
theorem ls32a_10 {Q : Exit → Act → World → Prop} (L T S G : Fo) (kk : Nat) (h0 : kk = 0) : RStep (strip ls32Ops) Q (fun i => ((ls32aEs L T S G kk)[i]?).getD .any) (fun i => (ls32aDs[i]?).getD (1000 + i)) (look (ls32aEnv L T S G kk)) 235 10 := rstep_skip (by kernel_rfl)
theorem ls32a_11 {Q : Exit → Act → World → Prop} (L T S G : Fo) (kk : Nat) (h0 : kk = 0) : RStep (strip ls32Ops) Q (fun i => ((ls32aEs L T S G kk)[i]?).getD .any) (fun i => (ls32aDs[i]?).getD (1000 + i)) (look (ls32aEnv L T S G kk)) 235 11 := rstep_skip (by kernel_rfl)
theorem ls32a_12 {Q : Exit → Act → World → Prop} (L T S G : Fo) (kk : Nat) (h0 : kk = 0) : RStep (strip ls32Ops) Q (fun i => ((ls32aEs L T S G kk)[i]?).getD .any) (fun i => (ls32aDs[i]?).getD (1000 + i)) (look (ls32aEnv L T S G kk)) 235 12 := rstep_skip (by kernel_rfl)
theorem ls32a_13 {Q : Exit → Act → World → Prop} (L T S G : Fo) (kk : Nat) (h0 : kk = 0) : RStep (strip ls32Ops) Q (fun i => ((ls32aEs L T S G kk)[i]?).getD .any) (fun i => (ls32aDs[i]?).getD (1000 + i)) (look (ls32aEnv L T S G kk)) 235 13 := rstep_skip (by kernel_rfl)
theorem ls32a_14 {Q : Exit → Act → World → Prop} (L T S G : Fo) (kk : Nat) (h0 : kk = 0) : RStep (strip ls32Ops) Q (fun i => ((ls32aEs L T S G kk)[i]?).getD .any) (fun i => (ls32aDs[i]?).getD (1000 + i)) (look (ls32aEnv L T S G kk)) 235 14 := fun _ => step_pick_no (x := .tmp 207) (by kernel_rfl) (Opd.dep 2 rfl rfl (by kernel_rfl)) (Opd.const _) rfl
theorem ls32a_region {Q : Exit → Act → World → Prop} (L T S G : Fo) (kk : Nat) (h0 : kk = 0) {w0 : World} {a : Act} {w : World} (h : Hold 235 [(21, .val (.int .i64 ((kk : Nat) : Int))), (0, .row L), (9, .row S), (999, .tabs)] w0 a w)
    (hQ : ∀ a' w', Hold 235 [(21, .val (.int .i64 ((kk : Nat) : Int))), (0, .row L), (9, .row S), (208, .val (.bool false)), (999, .tabs)] w0 a' w' → Q .normal a' w') : (Code.region 32 ls32Ops true).wp Tryd.prog Q a w := by
  have hall : ∀ i, i < 0 → RStep (strip ls32Ops) Q (fun i => ((ls32aEs L T S G kk)[i]?).getD .any) (fun i => (ls32aDs[i]?).getD (1000 + i)) (look (ls32aEnv L T S G kk)) 235 i := fun i hi => absurd hi (by omega)
  have hall := below_succ hall (ls32a_0 L T S G kk h0)
  have hall := below_succ hall (ls32a_1 L T S G kk h0)
  have hall := below_succ hall (ls32a_2 L T S G kk h0)
  have hall := below_succ hall (ls32a_3 L T S G kk h0)
  have hall := below_succ hall (ls32a_4 L T S G kk h0)
  have hall := below_succ hall (ls32a_5 L T S G kk h0)
  have hall := below_succ hall (ls32a_6 L T S G kk h0)
  have hall := below_succ hall (ls32a_7 L T S G kk h0)
  have hall := below_succ hall (ls32a_8 L T S G kk h0)
  have hall := below_succ hall (ls32a_9 L T S G kk h0)
  have hall := below_succ hall (ls32a_10 L T S G kk h0)
  have hall := below_succ hall (ls32a_11 L T S G kk h0)
  have hall := below_succ hall (ls32a_12 L T S G kk h0)
  have hall := below_succ hall (ls32a_13 L T S G kk h0)
  have hall := below_succ hall (ls32a_14 L T S G kk h0)
  refine env_any4 (env := ls32aEnv L T S G kk) (N := 235) (w0 := w0) ls32aDs (ls32aEs L T S G kk) (by kernel_rfl) (by kernel_rfl) (of_decide_eq_true (by kernel_rfl)) (fun i_ hi_ => hall i_ (by rw [show (ls32aEs L T S G kk).length = 15 by kernel_rfl] at hi_; exact hi_)) h fun a' w' h => ?_
  exact hQ a' w' (h.keep [21, 0, 9, 208, 999])
theorem ls34a_region {Q : Exit → Act → World → Prop} (L T S G : Fo) (kk : Nat) (q1 : Pay) (m1 s1 : Fo) (hSn : Tm.len S ≤ 50000) (e1 : Tm.dropF S kk = .node q1 m1 s1) {w0 : World} {a : Act} {w : World} (h : Hold 235 [(21, .val (.int .i64 ((kk : Nat) : Int))), (0, .row L), (9, .row S), (999, .tabs)] w0 a w)
    (hQ : ∀ a' w', Hold 235 [(21, .val (.int .i64 ((kk : Nat) : Int))), (0, .row L), (9, .row S), (22, .val (.int .i64 (rankI S q1 m1))), (23, .val (.bool (rankB S q1 m1))), (999, .tabs)] w0 a' w' → Q .normal a' w') : (Code.region 34 ls34Ops false).wp Tryd.prog Q a w := by
  refine region_seq (w0 := w) 11 (by kernel_rfl) ?_
  rw [show List.range 11 = [0, 1, 2, 3, 4, 5, 6, 7, 8, 9, 10] from rfl]
  refine env_one (i := 0) (d := 210) (k := .row S) (step_move (by kernel_rfl) (Opd.of_base 9 rfl) rfl) (by kernel_rfl) (by decide) h ?_
  clear h
  intro a w h
  refine env_one (i := 1) (d := 211) (k := .row S) (step_move (by kernel_rfl) (Opd.of_base 9 rfl) rfl) (by kernel_rfl) (by decide) h ?_
  clear h
  intro a w h
  refine env_one (i := 2) (d := 212) (k := .val (.int .i64 ((kk : Nat) : Int))) (step_move (by kernel_rfl) (Opd.of_base 21 rfl) rfl) (by kernel_rfl) (by decide) h ?_
  clear h
  intro a w h
  refine env_one (i := 3) (d := 213) (k := .ptrT q1 m1) (step_row_at (k := kk) (r := s1) (by kernel_rfl) (Opd.of_base 211 rfl) (Opd.of_base 212 rfl) e1 rfl) (by kernel_rfl) (by decide) h ?_
  clear h
  intro a w h
  refine env_one (i := 4) (d := 214) (k := .term q1 m1) (step_load_term (by kernel_rfl) (Opd.of_base 213 rfl) rfl) (by kernel_rfl) (by decide) h ?_
  clear h
  intro a w h
  refine env_one (i := 5) (d := 215) (k := .val (.tuple #[.int .i64 (rankI S q1 m1), .bool (rankB S q1 m1)])) (step_orank hSn 999 (by kernel_rfl) (Opd.of_base 210 rfl) (Opd.of_base 214 rfl) (Opd.of_base 999 rfl) rfl) (by kernel_rfl) (by decide) h ?_
  clear h
  intro a w h
  refine env_one (i := 6) (d := 209) (k := .val (.tuple #[.int .i64 (rankI S q1 m1), .bool (rankB S q1 m1)])) (step_move (by kernel_rfl) (Opd.of_base 215 rfl) rfl) (by kernel_rfl) (by decide) h ?_
  clear h
  intro a w h
  refine env_one (i := 7) (d := 216) (k := .val (.int .i64 (rankI S q1 m1))) (step_two0 (by kernel_rfl) (Opd.of_base 209 rfl) rfl) (by kernel_rfl) (by decide) h ?_
  clear h
  intro a w h
  refine env_one (i := 8) (d := 217) (k := .val (.bool (rankB S q1 m1))) (step_two1 (by kernel_rfl) (Opd.of_base 209 rfl) rfl) (by kernel_rfl) (by decide) h ?_
  clear h
  intro a w h
  refine env_one (i := 9) (d := 22) (k := .val (.int .i64 (rankI S q1 m1))) (step_assign (by kernel_rfl) (Opd.of_base 216 rfl) rfl) (by kernel_rfl) (by decide) h ?_
  clear h
  intro a w h
  refine env_one (i := 10) (d := 23) (k := .val (.bool (rankB S q1 m1))) (step_assign (by kernel_rfl) (Opd.of_base 217 rfl) rfl) (by kernel_rfl) (by decide) h ?_
  clear h
  intro a w h
  exact hQ a w (h.keep [21, 0, 9, 22, 23, 999])
theorem ls35a_region {Q : Exit → Act → World → Prop} (L T S G : Fo) (kk : Nat) (q1 : Pay) (m1 s1 : Fo) (hLn : Tm.len L ≤ 50000) (hSn : Tm.len S ≤ 50000) (e1 : Tm.dropF S kk = .node q1 m1 s1) (hcz : (((Tm.countF L q1 m1 : Nat) : Int) == 0) = false) {w0 : World} {a : Act} {w : World} (h : Hold 235 [(21, .val (.int .i64 ((kk : Nat) : Int))), (0, .row L), (9, .row S), (22, .val (.int .i64 ((kk : Nat) : Int))), (23, .val (.bool true)), (999, .tabs)] w0 a w)
    (hQ : ∀ a' w', Hold 235 [(21, .val (.int .i64 ((kk : Nat) : Int))), (0, .row L), (9, .row S), (233, .val (.bool false)), (999, .tabs)] w0 a' w' → Q .normal a' w') : (Code.region 35 ls35Ops false).wp Tryd.prog Q a w := by
  refine region_seq (w0 := w) 16 (by kernel_rfl) ?_
  rw [show List.range 16 = [0, 1, 2, 3, 4, 5, 6, 7, 8, 9, 10, 11, 12, 13, 14, 15] from rfl]
  refine env_one (i := 0) (d := 218) (k := .val (.int .i64 ((kk : Nat) : Int))) (step_move (by kernel_rfl) (Opd.of_base 22 rfl) rfl) (by kernel_rfl) (by decide) h ?_
  clear h
  intro a w h
  refine env_one (i := 1) (d := 219) (k := .val (.int .i64 ((kk : Nat) : Int))) (step_move (by kernel_rfl) (Opd.of_base 21 rfl) rfl) (by kernel_rfl) (by decide) h ?_
  clear h
  intro a w h
  refine env_one (i := 2) (d := 220) (k := .val (.bool false)) (step_ne_int (m := ((kk : Nat) : Int)) (n := ((kk : Nat) : Int)) (by kernel_rfl) (Opd.of_base 218 rfl) (Opd.of_base 219 rfl) (by simp) rfl) (by kernel_rfl) (by decide) h ?_
  clear h
  intro a w h
  refine env_one (i := 3) (d := 221) (k := .val (.bool false)) (step_move (by kernel_rfl) (Opd.of_base 220 rfl) rfl) (by kernel_rfl) (by decide) h ?_
  clear h
  intro a w h
  refine env_guard (i := 4) (d := 222) (g := 3) (dg := 221) (b := false) (k := .val (.bool true)) (step_move (by kernel_rfl) (Opd.of_base 23 rfl) rfl) (by kernel_rfl) (by decide) (by kernel_rfl) (by decide) rfl h ?_
  clear h
  intro a w h
  refine env_guard (i := 5) (d := 223) (g := 3) (dg := 221) (b := false) (k := .val (.bool false)) (step_not (by kernel_rfl) (Opd.of_base 222 rfl) rfl) (by kernel_rfl) (by decide) (by kernel_rfl) (by decide) rfl h ?_
  clear h
  intro a w h
  refine env_one (i := 6) (d := 224) (k := .val (.bool false)) (step_pick_no (x := .const (.bool true)) (by kernel_rfl) (Opd.of_base 221 rfl) (Opd.of_base 223 rfl) rfl) (by kernel_rfl) (by decide) h ?_
  clear h
  intro a w h
  refine env_one (i := 7) (d := 225) (k := .val (.bool false)) (step_move (by kernel_rfl) (Opd.of_base 224 rfl) rfl) (by kernel_rfl) (by decide) h ?_
  clear h
  intro a w h
  refine env_guard (i := 8) (d := 226) (g := 7) (dg := 225) (b := false) (k := .row L) (step_move (by kernel_rfl) (Opd.of_base 0 rfl) rfl) (by kernel_rfl) (by decide) (by kernel_rfl) (by decide) rfl h ?_
  clear h
  intro a w h
  refine env_guard (i := 9) (d := 227) (g := 7) (dg := 225) (b := false) (k := .row S) (step_move (by kernel_rfl) (Opd.of_base 9 rfl) rfl) (by kernel_rfl) (by decide) (by kernel_rfl) (by decide) rfl h ?_
  clear h
  intro a w h
  refine env_guard (i := 10) (d := 228) (g := 7) (dg := 225) (b := false) (k := .val (.int .i64 ((kk : Nat) : Int))) (step_move (by kernel_rfl) (Opd.of_base 21 rfl) rfl) (by kernel_rfl) (by decide) (by kernel_rfl) (by decide) rfl h ?_
  clear h
  intro a w h
  refine env_guard (i := 11) (d := 229) (g := 7) (dg := 225) (b := false) (k := .ptrT q1 m1) (step_row_at (k := kk) (r := s1) (by kernel_rfl) (Opd.of_base 227 rfl) (Opd.of_base 228 rfl) e1 rfl) (by kernel_rfl) (by decide) (by kernel_rfl) (by decide) rfl h ?_
  clear h
  intro a w h
  refine env_guard (i := 12) (d := 230) (g := 7) (dg := 225) (b := false) (k := .term q1 m1) (step_load_term (by kernel_rfl) (Opd.of_base 229 rfl) rfl) (by kernel_rfl) (by decide) (by kernel_rfl) (by decide) rfl h ?_
  clear h
  intro a w h
  refine env_guard (i := 13) (d := 231) (g := 7) (dg := 225) (b := false) (k := .val (.int .i64 ((Tm.countF L q1 m1 : Nat) : Int))) (step_count hLn (by kernel_rfl) (Opd.of_base 226 rfl) (Opd.of_base 230 rfl) rfl) (by kernel_rfl) (by decide) (by kernel_rfl) (by decide) rfl h ?_
  clear h
  intro a w h
  refine env_guard (i := 14) (d := 232) (g := 7) (dg := 225) (b := false) (k := .val (.bool false)) (step_eqb_int (m := ((Tm.countF L q1 m1 : Nat) : Int)) (n := 0) (by kernel_rfl) (Opd.of_base 231 rfl) (Opd.const _) hcz rfl) (by kernel_rfl) (by decide) (by kernel_rfl) (by decide) rfl h ?_
  clear h
  intro a w h
  refine env_one (i := 15) (d := 233) (k := .val (.bool false)) (step_pick_no (x := .const (.bool true)) (by kernel_rfl) (Opd.of_base 225 rfl) (Opd.of_base 232 rfl) rfl) (by kernel_rfl) (by decide) h ?_
  clear h
  intro a w h
  exact hQ a w (h.keep [21, 0, 9, 233, 999])
theorem ls31a_region {Q : Exit → Act → World → Prop} (L T S G : Fo) (kk : Nat) (q1 : Pay) (m1 s1 : Fo) (hSn : Tm.len S ≤ 50000) (hi : kk < (Tm.len S)) {w0 : World} {a : Act} {w : World} (h : Hold 235 [(21, .val (.int .i64 ((kk : Nat) : Int))), (0, .row L), (9, .row S), (999, .tabs)] w0 a w)
    (hQ : ∀ a' w', Hold 235 [(21, .val (.int .i64 ((kk + 1 : Nat) : Int))), (0, .row L), (9, .row S), (999, .tabs)] w0 a' w' → Q .normal a' w') : (Code.region 31 ls31Ops false).wp Tryd.prog Q a w := by
  refine region_seq (w0 := w) 3 (by kernel_rfl) ?_
  rw [show List.range 3 = [0, 1, 2] from rfl]
  refine env_one (i := 0) (d := 192) (k := .val (.int .i64 ((kk : Nat) : Int))) (step_move (by kernel_rfl) (Opd.of_base 21 rfl) rfl) (by kernel_rfl) (by decide) h ?_
  clear h
  intro a w h
  refine env_one (i := 1) (d := 193) (k := .val (.int .i64 ((kk + 1 : Nat) : Int))) (step_add (m := ((kk : Nat) : Int)) (n := 1) (s := ((kk + 1 : Nat) : Int)) (by kernel_rfl) (Opd.of_base 192 rfl) (Opd.const _) (by rw [IntKind.wrap_i64]; omega) rfl) (by kernel_rfl) (by decide) h ?_
  clear h
  intro a w h
  refine env_one (i := 2) (d := 21) (k := .val (.int .i64 ((kk + 1 : Nat) : Int))) (step_assign (by kernel_rfl) (Opd.of_base 193 rfl) rfl) (by kernel_rfl) (by decide) h ?_
  clear h
  intro a w h
  exact hQ a w (h.keep [21, 0, 9, 999])
def ls32bEs (L T S G : Fo) (kk : Nat) (j : Nat) (p1 : Pay) (l1 r1 : Fo) (p2 : Pay) (l2 r2 : Fo) : List Kd := [
  .val (.int .i64 (((j + 1) : Nat) : Int)),
  .val (.bool true),
  .val (.bool true),
  .row S,
  .val (.int .i64 (((j + 1) : Nat) : Int)),
  .val (.int .i64 ((((j + 1)) - 1 : Nat) : Int)),
  .ptrT p1 l1,
  .term p1 l1,
  .row S,
  .val (.int .i64 (((j + 1) : Nat) : Int)),
  .ptrT p2 l2,
  .term p2 l2,
  .val (.int .i64 (Tm.cmpV p1 l1 p2 l2)),
  .val (.bool false),
  .val (.bool false)]
def ls32bDs : List Nat := [194, 195, 196, 197, 198, 199, 200, 201, 202, 203, 204, 205, 206, 207, 208]
def ls32bEnv (L T S G : Fo) (kk : Nat) (j : Nat) (p1 : Pay) (l1 r1 : Fo) (p2 : Pay) (l2 r2 : Fo) : Env := [(21, .val (.int .i64 (((j + 1) : Nat) : Int))), (0, .row L), (9, .row S), (999, .tabs)]
theorem ls32b_0 {Q : Exit → Act → World → Prop} (L T S G : Fo) (kk : Nat) (j : Nat) (p1 : Pay) (l1 r1 : Fo) (p2 : Pay) (l2 r2 : Fo) (hSn : Tm.len S ≤ 50000) (hj : j + 1 < Tm.len S) (d1 : Tm.dropF S ((j + 1) - 1) = .node p1 l1 r1) (d2 : Tm.dropF S (j + 1) = .node p2 l2 r2) (hcv : Tm.cmpV p1 l1 p2 l2 < 0) : RStep (strip ls32Ops) Q (fun i => ((ls32bEs L T S G (j + 1) j p1 l1 r1 p2 l2 r2)[i]?).getD .any) (fun i => (ls32bDs[i]?).getD (1000 + i)) (look (ls32bEnv L T S G (j + 1) j p1 l1 r1 p2 l2 r2)) 235 0 := fun _ => step_move (by kernel_rfl) (Opd.of_base 21 rfl) rfl
theorem ls32b_1 {Q : Exit → Act → World → Prop} (L T S G : Fo) (kk : Nat) (j : Nat) (p1 : Pay) (l1 r1 : Fo) (p2 : Pay) (l2 r2 : Fo) (hSn : Tm.len S ≤ 50000) (hj : j + 1 < Tm.len S) (d1 : Tm.dropF S ((j + 1) - 1) = .node p1 l1 r1) (d2 : Tm.dropF S (j + 1) = .node p2 l2 r2) (hcv : Tm.cmpV p1 l1 p2 l2 < 0) : RStep (strip ls32Ops) Q (fun i => ((ls32bEs L T S G (j + 1) j p1 l1 r1 p2 l2 r2)[i]?).getD .any) (fun i => (ls32bDs[i]?).getD (1000 + i)) (look (ls32bEnv L T S G (j + 1) j p1 l1 r1 p2 l2 r2)) 235 1 := fun _ => step_gt_int (m := (((j + 1) : Nat) : Int)) (n := 0) (by kernel_rfl) (Opd.dep 0 rfl rfl (by kernel_rfl)) (Opd.const _) (decide_eq_true (by omega)) rfl
theorem ls32b_2 {Q : Exit → Act → World → Prop} (L T S G : Fo) (kk : Nat) (j : Nat) (p1 : Pay) (l1 r1 : Fo) (p2 : Pay) (l2 r2 : Fo) (hSn : Tm.len S ≤ 50000) (hj : j + 1 < Tm.len S) (d1 : Tm.dropF S ((j + 1) - 1) = .node p1 l1 r1) (d2 : Tm.dropF S (j + 1) = .node p2 l2 r2) (hcv : Tm.cmpV p1 l1 p2 l2 < 0) : RStep (strip ls32Ops) Q (fun i => ((ls32bEs L T S G (j + 1) j p1 l1 r1 p2 l2 r2)[i]?).getD .any) (fun i => (ls32bDs[i]?).getD (1000 + i)) (look (ls32bEnv L T S G (j + 1) j p1 l1 r1 p2 l2 r2)) 235 2 := fun _ => step_move (by kernel_rfl) (Opd.dep 1 rfl rfl (by kernel_rfl)) rfl
theorem ls32b_3 {Q : Exit → Act → World → Prop} (L T S G : Fo) (kk : Nat) (j : Nat) (p1 : Pay) (l1 r1 : Fo) (p2 : Pay) (l2 r2 : Fo) (hSn : Tm.len S ≤ 50000) (hj : j + 1 < Tm.len S) (d1 : Tm.dropF S ((j + 1) - 1) = .node p1 l1 r1) (d2 : Tm.dropF S (j + 1) = .node p2 l2 r2) (hcv : Tm.cmpV p1 l1 p2 l2 < 0) : RStep (strip ls32Ops) Q (fun i => ((ls32bEs L T S G (j + 1) j p1 l1 r1 p2 l2 r2)[i]?).getD .any) (fun i => (ls32bDs[i]?).getD (1000 + i)) (look (ls32bEnv L T S G (j + 1) j p1 l1 r1 p2 l2 r2)) 235 3 := fun _ => step_move (by kernel_rfl) (Opd.of_base 9 rfl) rfl
theorem ls32b_4 {Q : Exit → Act → World → Prop} (L T S G : Fo) (kk : Nat) (j : Nat) (p1 : Pay) (l1 r1 : Fo) (p2 : Pay) (l2 r2 : Fo) (hSn : Tm.len S ≤ 50000) (hj : j + 1 < Tm.len S) (d1 : Tm.dropF S ((j + 1) - 1) = .node p1 l1 r1) (d2 : Tm.dropF S (j + 1) = .node p2 l2 r2) (hcv : Tm.cmpV p1 l1 p2 l2 < 0) : RStep (strip ls32Ops) Q (fun i => ((ls32bEs L T S G (j + 1) j p1 l1 r1 p2 l2 r2)[i]?).getD .any) (fun i => (ls32bDs[i]?).getD (1000 + i)) (look (ls32bEnv L T S G (j + 1) j p1 l1 r1 p2 l2 r2)) 235 4 := fun _ => step_move (by kernel_rfl) (Opd.of_base 21 rfl) rfl
theorem ls32b_5 {Q : Exit → Act → World → Prop} (L T S G : Fo) (kk : Nat) (j : Nat) (p1 : Pay) (l1 r1 : Fo) (p2 : Pay) (l2 r2 : Fo) (hSn : Tm.len S ≤ 50000) (hj : j + 1 < Tm.len S) (d1 : Tm.dropF S ((j + 1) - 1) = .node p1 l1 r1) (d2 : Tm.dropF S (j + 1) = .node p2 l2 r2) (hcv : Tm.cmpV p1 l1 p2 l2 < 0) : RStep (strip ls32Ops) Q (fun i => ((ls32bEs L T S G (j + 1) j p1 l1 r1 p2 l2 r2)[i]?).getD .any) (fun i => (ls32bDs[i]?).getD (1000 + i)) (look (ls32bEnv L T S G (j + 1) j p1 l1 r1 p2 l2 r2)) 235 5 := fun _ => step_sub (m := (((j + 1) : Nat) : Int)) (n := 1) (s := ((((j + 1)) - 1 : Nat) : Int)) (by kernel_rfl) (Opd.dep 4 rfl rfl (by kernel_rfl)) (Opd.const _) (by rw [IntKind.wrap_i64]; omega) rfl
theorem ls32b_6 {Q : Exit → Act → World → Prop} (L T S G : Fo) (kk : Nat) (j : Nat) (p1 : Pay) (l1 r1 : Fo) (p2 : Pay) (l2 r2 : Fo) (hSn : Tm.len S ≤ 50000) (hj : j + 1 < Tm.len S) (d1 : Tm.dropF S ((j + 1) - 1) = .node p1 l1 r1) (d2 : Tm.dropF S (j + 1) = .node p2 l2 r2) (hcv : Tm.cmpV p1 l1 p2 l2 < 0) : RStep (strip ls32Ops) Q (fun i => ((ls32bEs L T S G (j + 1) j p1 l1 r1 p2 l2 r2)[i]?).getD .any) (fun i => (ls32bDs[i]?).getD (1000 + i)) (look (ls32bEnv L T S G (j + 1) j p1 l1 r1 p2 l2 r2)) 235 6 := fun _ => step_row_at (k := ((j + 1)) - 1) (r := r1) (by kernel_rfl) (Opd.dep 3 rfl rfl (by kernel_rfl)) (Opd.dep 5 rfl rfl (by kernel_rfl)) d1 rfl
theorem ls32b_7 {Q : Exit → Act → World → Prop} (L T S G : Fo) (kk : Nat) (j : Nat) (p1 : Pay) (l1 r1 : Fo) (p2 : Pay) (l2 r2 : Fo) (hSn : Tm.len S ≤ 50000) (hj : j + 1 < Tm.len S) (d1 : Tm.dropF S ((j + 1) - 1) = .node p1 l1 r1) (d2 : Tm.dropF S (j + 1) = .node p2 l2 r2) (hcv : Tm.cmpV p1 l1 p2 l2 < 0) : RStep (strip ls32Ops) Q (fun i => ((ls32bEs L T S G (j + 1) j p1 l1 r1 p2 l2 r2)[i]?).getD .any) (fun i => (ls32bDs[i]?).getD (1000 + i)) (look (ls32bEnv L T S G (j + 1) j p1 l1 r1 p2 l2 r2)) 235 7 := fun _ => step_load_term (by kernel_rfl) (Opd.dep 6 rfl rfl (by kernel_rfl)) rfl
theorem ls32b_8 {Q : Exit → Act → World → Prop} (L T S G : Fo) (kk : Nat) (j : Nat) (p1 : Pay) (l1 r1 : Fo) (p2 : Pay) (l2 r2 : Fo) (hSn : Tm.len S ≤ 50000) (hj : j + 1 < Tm.len S) (d1 : Tm.dropF S ((j + 1) - 1) = .node p1 l1 r1) (d2 : Tm.dropF S (j + 1) = .node p2 l2 r2) (hcv : Tm.cmpV p1 l1 p2 l2 < 0) : RStep (strip ls32Ops) Q (fun i => ((ls32bEs L T S G (j + 1) j p1 l1 r1 p2 l2 r2)[i]?).getD .any) (fun i => (ls32bDs[i]?).getD (1000 + i)) (look (ls32bEnv L T S G (j + 1) j p1 l1 r1 p2 l2 r2)) 235 8 := fun _ => step_move (by kernel_rfl) (Opd.of_base 9 rfl) rfl
theorem ls32b_9 {Q : Exit → Act → World → Prop} (L T S G : Fo) (kk : Nat) (j : Nat) (p1 : Pay) (l1 r1 : Fo) (p2 : Pay) (l2 r2 : Fo) (hSn : Tm.len S ≤ 50000) (hj : j + 1 < Tm.len S) (d1 : Tm.dropF S ((j + 1) - 1) = .node p1 l1 r1) (d2 : Tm.dropF S (j + 1) = .node p2 l2 r2) (hcv : Tm.cmpV p1 l1 p2 l2 < 0) : RStep (strip ls32Ops) Q (fun i => ((ls32bEs L T S G (j + 1) j p1 l1 r1 p2 l2 r2)[i]?).getD .any) (fun i => (ls32bDs[i]?).getD (1000 + i)) (look (ls32bEnv L T S G (j + 1) j p1 l1 r1 p2 l2 r2)) 235 9 := fun _ => step_move (by kernel_rfl) (Opd.of_base 21 rfl) rfl
theorem ls32b_10 {Q : Exit → Act → World → Prop} (L T S G : Fo) (kk : Nat) (j : Nat) (p1 : Pay) (l1 r1 : Fo) (p2 : Pay) (l2 r2 : Fo) (hSn : Tm.len S ≤ 50000) (hj : j + 1 < Tm.len S) (d1 : Tm.dropF S ((j + 1) - 1) = .node p1 l1 r1) (d2 : Tm.dropF S (j + 1) = .node p2 l2 r2) (hcv : Tm.cmpV p1 l1 p2 l2 < 0) : RStep (strip ls32Ops) Q (fun i => ((ls32bEs L T S G (j + 1) j p1 l1 r1 p2 l2 r2)[i]?).getD .any) (fun i => (ls32bDs[i]?).getD (1000 + i)) (look (ls32bEnv L T S G (j + 1) j p1 l1 r1 p2 l2 r2)) 235 10 := fun _ => step_row_at (k := (j + 1)) (r := r2) (by kernel_rfl) (Opd.dep 8 rfl rfl (by kernel_rfl)) (Opd.dep 9 rfl rfl (by kernel_rfl)) d2 rfl
theorem ls32b_11 {Q : Exit → Act → World → Prop} (L T S G : Fo) (kk : Nat) (j : Nat) (p1 : Pay) (l1 r1 : Fo) (p2 : Pay) (l2 r2 : Fo) (hSn : Tm.len S ≤ 50000) (hj : j + 1 < Tm.len S) (d1 : Tm.dropF S ((j + 1) - 1) = .node p1 l1 r1) (d2 : Tm.dropF S (j + 1) = .node p2 l2 r2) (hcv : Tm.cmpV p1 l1 p2 l2 < 0) : RStep (strip ls32Ops) Q (fun i => ((ls32bEs L T S G (j + 1) j p1 l1 r1 p2 l2 r2)[i]?).getD .any) (fun i => (ls32bDs[i]?).getD (1000 + i)) (look (ls32bEnv L T S G (j + 1) j p1 l1 r1 p2 l2 r2)) 235 11 := fun _ => step_load_term (by kernel_rfl) (Opd.dep 10 rfl rfl (by kernel_rfl)) rfl
theorem ls32b_12 {Q : Exit → Act → World → Prop} (L T S G : Fo) (kk : Nat) (j : Nat) (p1 : Pay) (l1 r1 : Fo) (p2 : Pay) (l2 r2 : Fo) (hSn : Tm.len S ≤ 50000) (hj : j + 1 < Tm.len S) (d1 : Tm.dropF S ((j + 1) - 1) = .node p1 l1 r1) (d2 : Tm.dropF S (j + 1) = .node p2 l2 r2) (hcv : Tm.cmpV p1 l1 p2 l2 < 0) : RStep (strip ls32Ops) Q (fun i => ((ls32bEs L T S G (j + 1) j p1 l1 r1 p2 l2 r2)[i]?).getD .any) (fun i => (ls32bDs[i]?).getD (1000 + i)) (look (ls32bEnv L T S G (j + 1) j p1 l1 r1 p2 l2 r2)) 235 12 := fun _ => step_ocmp 999 (by kernel_rfl) (Opd.dep 7 rfl rfl (by kernel_rfl)) (Opd.dep 11 rfl rfl (by kernel_rfl)) (Opd.of_base 999 rfl) rfl
theorem ls32b_13 {Q : Exit → Act → World → Prop} (L T S G : Fo) (kk : Nat) (j : Nat) (p1 : Pay) (l1 r1 : Fo) (p2 : Pay) (l2 r2 : Fo) (hSn : Tm.len S ≤ 50000) (hj : j + 1 < Tm.len S) (d1 : Tm.dropF S ((j + 1) - 1) = .node p1 l1 r1) (d2 : Tm.dropF S (j + 1) = .node p2 l2 r2) (hcv : Tm.cmpV p1 l1 p2 l2 < 0) : RStep (strip ls32Ops) Q (fun i => ((ls32bEs L T S G (j + 1) j p1 l1 r1 p2 l2 r2)[i]?).getD .any) (fun i => (ls32bDs[i]?).getD (1000 + i)) (look (ls32bEnv L T S G (j + 1) j p1 l1 r1 p2 l2 r2)) 235 13 := fun _ => step_ge_int (m := (Tm.cmpV p1 l1 p2 l2)) (n := 0) (by kernel_rfl) (Opd.dep 12 rfl rfl (by kernel_rfl)) (Opd.const _) (decide_eq_false (by omega)) rfl
theorem ls32b_14 {Q : Exit → Act → World → Prop} (L T S G : Fo) (kk : Nat) (j : Nat) (p1 : Pay) (l1 r1 : Fo) (p2 : Pay) (l2 r2 : Fo) (hSn : Tm.len S ≤ 50000) (hj : j + 1 < Tm.len S) (d1 : Tm.dropF S ((j + 1) - 1) = .node p1 l1 r1) (d2 : Tm.dropF S (j + 1) = .node p2 l2 r2) (hcv : Tm.cmpV p1 l1 p2 l2 < 0) : RStep (strip ls32Ops) Q (fun i => ((ls32bEs L T S G (j + 1) j p1 l1 r1 p2 l2 r2)[i]?).getD .any) (fun i => (ls32bDs[i]?).getD (1000 + i)) (look (ls32bEnv L T S G (j + 1) j p1 l1 r1 p2 l2 r2)) 235 14 := fun _ => step_pick_yes (y := .const (.bool false)) (by kernel_rfl) (Opd.dep 2 rfl rfl (by kernel_rfl)) (Opd.dep 13 rfl rfl (by kernel_rfl)) rfl
theorem ls32b_region {Q : Exit → Act → World → Prop} (L T S G : Fo) (kk : Nat) (j : Nat) (p1 : Pay) (l1 r1 : Fo) (p2 : Pay) (l2 r2 : Fo) (hSn : Tm.len S ≤ 50000) (hj : j + 1 < Tm.len S) (d1 : Tm.dropF S ((j + 1) - 1) = .node p1 l1 r1) (d2 : Tm.dropF S (j + 1) = .node p2 l2 r2) (hcv : Tm.cmpV p1 l1 p2 l2 < 0) {w0 : World} {a : Act} {w : World} (h : Hold 235 [(21, .val (.int .i64 (((j + 1) : Nat) : Int))), (0, .row L), (9, .row S), (999, .tabs)] w0 a w)
    (hQ : ∀ a' w', Hold 235 [(21, .val (.int .i64 (((j + 1) : Nat) : Int))), (0, .row L), (9, .row S), (208, .val (.bool false)), (999, .tabs)] w0 a' w' → Q .normal a' w') : (Code.region 32 ls32Ops true).wp Tryd.prog Q a w := by
  have hall : ∀ i, i < 0 → RStep (strip ls32Ops) Q (fun i => ((ls32bEs L T S G (j + 1) j p1 l1 r1 p2 l2 r2)[i]?).getD .any) (fun i => (ls32bDs[i]?).getD (1000 + i)) (look (ls32bEnv L T S G (j + 1) j p1 l1 r1 p2 l2 r2)) 235 i := fun i hi => absurd hi (by omega)
  have hall := below_succ hall (ls32b_0 L T S G (j + 1) j p1 l1 r1 p2 l2 r2 hSn hj d1 d2 hcv)
  have hall := below_succ hall (ls32b_1 L T S G (j + 1) j p1 l1 r1 p2 l2 r2 hSn hj d1 d2 hcv)
  have hall := below_succ hall (ls32b_2 L T S G (j + 1) j p1 l1 r1 p2 l2 r2 hSn hj d1 d2 hcv)
  have hall := below_succ hall (ls32b_3 L T S G (j + 1) j p1 l1 r1 p2 l2 r2 hSn hj d1 d2 hcv)
  have hall := below_succ hall (ls32b_4 L T S G (j + 1) j p1 l1 r1 p2 l2 r2 hSn hj d1 d2 hcv)
  have hall := below_succ hall (ls32b_5 L T S G (j + 1) j p1 l1 r1 p2 l2 r2 hSn hj d1 d2 hcv)
  have hall := below_succ hall (ls32b_6 L T S G (j + 1) j p1 l1 r1 p2 l2 r2 hSn hj d1 d2 hcv)
  have hall := below_succ hall (ls32b_7 L T S G (j + 1) j p1 l1 r1 p2 l2 r2 hSn hj d1 d2 hcv)
  have hall := below_succ hall (ls32b_8 L T S G (j + 1) j p1 l1 r1 p2 l2 r2 hSn hj d1 d2 hcv)
  have hall := below_succ hall (ls32b_9 L T S G (j + 1) j p1 l1 r1 p2 l2 r2 hSn hj d1 d2 hcv)
  have hall := below_succ hall (ls32b_10 L T S G (j + 1) j p1 l1 r1 p2 l2 r2 hSn hj d1 d2 hcv)
  have hall := below_succ hall (ls32b_11 L T S G (j + 1) j p1 l1 r1 p2 l2 r2 hSn hj d1 d2 hcv)
  have hall := below_succ hall (ls32b_12 L T S G (j + 1) j p1 l1 r1 p2 l2 r2 hSn hj d1 d2 hcv)
  have hall := below_succ hall (ls32b_13 L T S G (j + 1) j p1 l1 r1 p2 l2 r2 hSn hj d1 d2 hcv)
  have hall := below_succ hall (ls32b_14 L T S G (j + 1) j p1 l1 r1 p2 l2 r2 hSn hj d1 d2 hcv)
  refine env_any4 (env := ls32bEnv L T S G (j + 1) j p1 l1 r1 p2 l2 r2) (N := 235) (w0 := w0) ls32bDs (ls32bEs L T S G (j + 1) j p1 l1 r1 p2 l2 r2) (by kernel_rfl) (by kernel_rfl) (of_decide_eq_true (by kernel_rfl)) (fun i_ hi_ => hall i_ (by rw [show (ls32bEs L T S G (j + 1) j p1 l1 r1 p2 l2 r2).length = 15 by kernel_rfl] at hi_; exact hi_)) h fun a' w' h => ?_
  exact hQ a' w' (h.keep [21, 0, 9, 208, 999])
theorem ls30b_region {Q : Exit → Act → World → Prop} (L T S G : Fo)  {w0 : World} {a : Act} {w : World} (h : Hold 235 [(21, .val (.int .i64 (((Tm.len S) : Nat) : Int))), (0, .row L), (9, .row S), (999, .tabs)] w0 a w)
    (hQ : ∀ a' w', Hold 235 [(21, .val (.int .i64 (((Tm.len S) : Nat) : Int))), (0, .row L), (9, .row S), (191, .val (.bool false)), (999, .tabs)] w0 a' w' → Q .normal a' w') : (Code.region 30 ls30Ops false).wp Tryd.prog Q a w := by
  refine region_seq (w0 := w) 4 (by kernel_rfl) ?_
  rw [show List.range 4 = [0, 1, 2, 3] from rfl]
  refine env_one (i := 0) (d := 188) (k := .val (.int .i64 (((Tm.len S) : Nat) : Int))) (step_move (by kernel_rfl) (Opd.of_base 21 rfl) rfl) (by kernel_rfl) (by decide) h ?_
  clear h
  intro a w h
  refine env_one (i := 1) (d := 189) (k := .row S) (step_move (by kernel_rfl) (Opd.of_base 9 rfl) rfl) (by kernel_rfl) (by decide) h ?_
  clear h
  intro a w h
  refine env_one (i := 2) (d := 190) (k := .val (.int .i64 ((Tm.len S : Nat) : Int))) (step_len_row (by kernel_rfl) (Opd.of_base 189 rfl) rfl) (by kernel_rfl) (by decide) h ?_
  clear h
  intro a w h
  refine env_one (i := 3) (d := 191) (k := .val (.bool false)) (step_lt_int (m := (((Tm.len S) : Nat) : Int)) (n := ((Tm.len S : Nat) : Int)) (by kernel_rfl) (Opd.of_base 188 rfl) (Opd.of_base 190 rfl) (decide_eq_false (by omega)) rfl) (by kernel_rfl) (by decide) h ?_
  clear h
  intro a w h
  exact hQ a w (h.keep [21, 0, 9, 191, 999])
theorem ls37a_region {Q : Exit → Act → World → Prop} (L T S G : Fo)  {w0 : World} {a : Act} {w : World} (h : Hold 235 [(999, .tabs)] w0 a w)
    (hQ : ∀ a' w', Hold 235 [(4, .val (.bool true)), (999, .tabs)] w0 a' w' → Q .normal a' w') : (Code.region 37 ls37Ops false).wp Tryd.prog Q a w := by
  refine region_seq (w0 := w) 2 (by kernel_rfl) ?_
  rw [show List.range 2 = [0, 1] from rfl]
  refine env_one (i := 0) (d := 234) (k := .val (.bool true)) (step_awake 999 (by kernel_rfl) (Opd.of_base 999 rfl) rfl) (by kernel_rfl) (by decide) h ?_
  clear h
  intro a w h
  refine env_one (i := 1) (d := 4) (k := .val (.bool true)) (step_assign (by kernel_rfl) (Opd.of_base 234 rfl) rfl) (by kernel_rfl) (by decide) h ?_
  clear h
  intro a w h
  exact hQ a w (h.keep [4, 999])
theorem ls6c_region {Q : Exit → Act → World → Prop} (L : Fo) (Bs : List Nat) (wz : World) (T : Fo) (nr : Nat) (g1 : nr < Bs.length) (g2 : 60 ≤ nr) {w0 : World} {a : Act} {w : World} (h : Hold 235 [(6, .val (.int .i64 ((nr : Nat) : Int))), (5, .sat (ownP T wz)), (0, .sat (oldP (.row L) wz)), (1, .sat (oldP (.sat (u8P Bs)) wz)), (998, .sat (oldP .tabs wz)), (999, .tabs)] w0 a w)
    (hQ : ∀ a' w', Hold 235 [(6, .val (.int .i64 ((nr : Nat) : Int))), (5, .sat (ownP T wz)), (0, .sat (oldP (.row L) wz)), (1, .sat (oldP (.sat (u8P Bs)) wz)), (44, .val (.bool false)), (998, .sat (oldP .tabs wz)), (999, .tabs)] w0 a' w' → Q .normal a' w') : (Code.region 6 ls6Ops false).wp Tryd.prog Q a w := by
  refine region_seq (w0 := w) 13 (by kernel_rfl) ?_
  rw [show List.range 13 = [0, 1, 2, 3, 4, 5, 6, 7, 8, 9, 10, 11, 12] from rfl]
  refine env_one (i := 0) (d := 32) (k := .val (.int .i64 ((nr : Nat) : Int))) (step_move (by kernel_rfl) (Opd.of_base 6 rfl) rfl) (by kernel_rfl) (by decide) h ?_
  clear h
  intro a w h
  refine env_one (i := 1) (d := 33) (k := .sat (oldP (.sat (u8P Bs)) wz)) (step_move (by kernel_rfl) (Opd.of_base 1 rfl) rfl) (by kernel_rfl) (by decide) h ?_
  clear h
  intro a w h
  refine env_one (i := 2) (d := 34) (k := .val (.int .i64 ((Bs.length : Nat) : Int))) (step_len_u8 (by kernel_rfl) (Opd.old (Opd.of_base 33 rfl)) rfl) (by kernel_rfl) (by decide) h ?_
  clear h
  intro a w h
  refine env_one (i := 3) (d := 35) (k := .val (.bool true)) (step_lt_int (m := ((nr : Nat) : Int)) (n := ((Bs.length : Nat) : Int)) (by kernel_rfl) (Opd.of_base 32 rfl) (Opd.of_base 34 rfl) (decide_eq_true (by omega)) rfl) (by kernel_rfl) (by decide) h ?_
  clear h
  intro a w h
  refine env_one (i := 4) (d := 36) (k := .val (.bool true)) (step_move (by kernel_rfl) (Opd.of_base 35 rfl) rfl) (by kernel_rfl) (by decide) h ?_
  clear h
  intro a w h
  refine env_guard (i := 5) (d := 37) (g := 4) (dg := 36) (b := true) (k := .val (.int .i64 ((nr : Nat) : Int))) (step_move (by kernel_rfl) (Opd.of_base 6 rfl) rfl) (by kernel_rfl) (by decide) (by kernel_rfl) (by decide) rfl h ?_
  clear h
  intro a w h
  refine env_guard (i := 6) (d := 38) (g := 4) (dg := 36) (b := true) (k := .val (.bool false)) (step_lt_int (m := ((nr : Nat) : Int)) (n := 60) (by kernel_rfl) (Opd.of_base 37 rfl) (Opd.const _) (decide_eq_false (by omega)) rfl) (by kernel_rfl) (by decide) (by kernel_rfl) (by decide) rfl h ?_
  clear h
  intro a w h
  refine env_one (i := 7) (d := 39) (k := .val (.bool false)) (step_pick_yes (y := .const (.bool false)) (by kernel_rfl) (Opd.of_base 36 rfl) (Opd.of_base 38 rfl) rfl) (by kernel_rfl) (by decide) h ?_
  clear h
  intro a w h
  refine env_one (i := 8) (d := 40) (k := .val (.bool false)) (step_move (by kernel_rfl) (Opd.of_base 39 rfl) rfl) (by kernel_rfl) (by decide) h ?_
  clear h
  intro a w h
  refine env_skip (i := 9) (d := 41) (g := 8) (dg := 40) (b := true) (by kernel_rfl) (by decide) (by kernel_rfl) rfl rfl h ?_
  clear h
  intro a w h
  refine env_skip (i := 10) (d := 42) (g := 8) (dg := 40) (b := true) (by kernel_rfl) (by decide) (by kernel_rfl) rfl rfl h ?_
  clear h
  intro a w h
  refine env_skip (i := 11) (d := 43) (g := 8) (dg := 40) (b := true) (by kernel_rfl) (by decide) (by kernel_rfl) rfl rfl h ?_
  clear h
  intro a w h
  refine env_one (i := 12) (d := 44) (k := .val (.bool false)) (step_pick_no (x := .tmp 43) (by kernel_rfl) (Opd.of_base 40 rfl) (Opd.const _) rfl) (by kernel_rfl) (by decide) h ?_
  clear h
  intro a w h
  exact hQ a w (h.keep [6, 5, 0, 1, 44, 998, 999])
theorem ls6d_region {Q : Exit → Act → World → Prop} (L : Fo) (Bs : List Nat) (wz : World) (T : Fo) (nr : Nat) (g1 : nr < Bs.length) (g2 : nr < 60) (g3 : ¬ 0 < Tm.len T) {w0 : World} {a : Act} {w : World} (h : Hold 235 [(6, .val (.int .i64 ((nr : Nat) : Int))), (5, .sat (ownP T wz)), (0, .sat (oldP (.row L) wz)), (1, .sat (oldP (.sat (u8P Bs)) wz)), (998, .sat (oldP .tabs wz)), (999, .tabs)] w0 a w)
    (hQ : ∀ a' w', Hold 235 [(6, .val (.int .i64 ((nr : Nat) : Int))), (5, .sat (ownP T wz)), (0, .sat (oldP (.row L) wz)), (1, .sat (oldP (.sat (u8P Bs)) wz)), (44, .val (.bool false)), (998, .sat (oldP .tabs wz)), (999, .tabs)] w0 a' w' → Q .normal a' w') : (Code.region 6 ls6Ops false).wp Tryd.prog Q a w := by
  refine region_seq (w0 := w) 13 (by kernel_rfl) ?_
  rw [show List.range 13 = [0, 1, 2, 3, 4, 5, 6, 7, 8, 9, 10, 11, 12] from rfl]
  refine env_one (i := 0) (d := 32) (k := .val (.int .i64 ((nr : Nat) : Int))) (step_move (by kernel_rfl) (Opd.of_base 6 rfl) rfl) (by kernel_rfl) (by decide) h ?_
  clear h
  intro a w h
  refine env_one (i := 1) (d := 33) (k := .sat (oldP (.sat (u8P Bs)) wz)) (step_move (by kernel_rfl) (Opd.of_base 1 rfl) rfl) (by kernel_rfl) (by decide) h ?_
  clear h
  intro a w h
  refine env_one (i := 2) (d := 34) (k := .val (.int .i64 ((Bs.length : Nat) : Int))) (step_len_u8 (by kernel_rfl) (Opd.old (Opd.of_base 33 rfl)) rfl) (by kernel_rfl) (by decide) h ?_
  clear h
  intro a w h
  refine env_one (i := 3) (d := 35) (k := .val (.bool true)) (step_lt_int (m := ((nr : Nat) : Int)) (n := ((Bs.length : Nat) : Int)) (by kernel_rfl) (Opd.of_base 32 rfl) (Opd.of_base 34 rfl) (decide_eq_true (by omega)) rfl) (by kernel_rfl) (by decide) h ?_
  clear h
  intro a w h
  refine env_one (i := 4) (d := 36) (k := .val (.bool true)) (step_move (by kernel_rfl) (Opd.of_base 35 rfl) rfl) (by kernel_rfl) (by decide) h ?_
  clear h
  intro a w h
  refine env_guard (i := 5) (d := 37) (g := 4) (dg := 36) (b := true) (k := .val (.int .i64 ((nr : Nat) : Int))) (step_move (by kernel_rfl) (Opd.of_base 6 rfl) rfl) (by kernel_rfl) (by decide) (by kernel_rfl) (by decide) rfl h ?_
  clear h
  intro a w h
  refine env_guard (i := 6) (d := 38) (g := 4) (dg := 36) (b := true) (k := .val (.bool true)) (step_lt_int (m := ((nr : Nat) : Int)) (n := 60) (by kernel_rfl) (Opd.of_base 37 rfl) (Opd.const _) (decide_eq_true (by omega)) rfl) (by kernel_rfl) (by decide) (by kernel_rfl) (by decide) rfl h ?_
  clear h
  intro a w h
  refine env_one (i := 7) (d := 39) (k := .val (.bool true)) (step_pick_yes (y := .const (.bool false)) (by kernel_rfl) (Opd.of_base 36 rfl) (Opd.of_base 38 rfl) rfl) (by kernel_rfl) (by decide) h ?_
  clear h
  intro a w h
  refine env_one (i := 8) (d := 40) (k := .val (.bool true)) (step_move (by kernel_rfl) (Opd.of_base 39 rfl) rfl) (by kernel_rfl) (by decide) h ?_
  clear h
  intro a w h
  refine env_guard (i := 9) (d := 41) (g := 8) (dg := 40) (b := true) (k := .sat (ownP T wz)) (step_move (by kernel_rfl) (Opd.of_base 5 rfl) rfl) (by kernel_rfl) (by decide) (by kernel_rfl) (by decide) rfl h ?_
  clear h
  intro a w h
  refine env_guard (i := 10) (d := 42) (g := 8) (dg := 40) (b := true) (k := .val (.int .i64 ((Tm.len T : Nat) : Int))) (step_len_row (by kernel_rfl) (Opd.own (Opd.of_base 41 rfl)) rfl) (by kernel_rfl) (by decide) (by kernel_rfl) (by decide) rfl h ?_
  clear h
  intro a w h
  refine env_guard (i := 11) (d := 43) (g := 8) (dg := 40) (b := true) (k := .val (.bool false)) (step_gt_int (m := ((Tm.len T : Nat) : Int)) (n := 0) (by kernel_rfl) (Opd.of_base 42 rfl) (Opd.const _) (decide_eq_false (by omega)) rfl) (by kernel_rfl) (by decide) (by kernel_rfl) (by decide) rfl h ?_
  clear h
  intro a w h
  refine env_one (i := 12) (d := 44) (k := .val (.bool false)) (step_pick_yes (y := .const (.bool false)) (by kernel_rfl) (Opd.of_base 40 rfl) (Opd.of_base 43 rfl) rfl) (by kernel_rfl) (by decide) h ?_
  clear h
  intro a w h
  exact hQ a w (h.keep [6, 5, 0, 1, 44, 998, 999])
theorem law_sorted (F : Fo) (Bs : List Nat) (A : Option Addr) (c : Nat) (vb : Value) (w : World) (hA : ArgsB w w.heap.size A (Tm.len F) F) (hA' : (u8P Bs).R vb w) (hB : ∀ z ∈ Bs, z < 256) (hB63 : Bs.length ≤ 9223372036854775807) (hT : Tabs w) :
    Calls Tryd.prog 8 #[.slice A (Tm.len F) c, vb] w fun e w' => e = .returned (.bool true) ∧ Below w.heap.size w w' := by
  refine calls_of_wp Tryd.func8 ls_body ?_
  obtain ⟨v0, hv0⟩ : ∃ v : Value, v = .slice A (Tm.len F) c := ⟨_, rfl⟩
  obtain ⟨v1, hv1⟩ : ∃ v : Value, v = vb := ⟨_, rfl⟩
  rw [← hv0, ← hv1]
  have hk0 : (Kd.row F).R v0 w := ⟨A, c, hv0, hA⟩
  have hk1 : (Kd.sat (u8P Bs)).R v1 w := by rw [hv1]; exact hA'
  have hsN : (#[v0, v1] ++ Array.replicate (Tryd.f8.ntmps - #[v0, v1].size) undef : Array Value).size = 235 := by kernel_rfl
  have gs0 : (#[v0, v1] ++ Array.replicate (Tryd.f8.ntmps - #[v0, v1].size) undef : Array Value).getD 0 undef = v0 := by kernel_rfl
  have gs1 : (#[v0, v1] ++ Array.replicate (Tryd.f8.ntmps - #[v0, v1].size) undef : Array Value).getD 1 undef = v1 := by kernel_rfl
  generalize (#[v0, v1] ++ Array.replicate (Tryd.f8.ntmps - #[v0, v1].size) undef : Array Value) = tm at hsN gs0 gs1 ⊢
  refine wp_seq ?_
  refine ls0a_region F Bs  (w0 := w) ⟨hsN, rfl, Below.refl _ _, (slots_cons 0 (by rw [gs0]; exact hk0) (slots_cons 1 (by rw [gs1]; exact hk1) (slots_cons 999 (k0 := .tabs) hT slots_nil)))⟩ ?_
  intro a w1 h
  show Code.wp _ _ _ a w1
  refine wp_seq ?_
  refine ls1a_region F Bs  h ?_
  intro a w1 h
  obtain ⟨L, hL⟩ : ∃ L : Fo, L = Tm.takeF F 40 := ⟨_, rfl⟩
  rw [← hL] at h
  have hL40 : Tm.len L ≤ 40 := by rw [hL]; exact few_len F
  have hLn : Tm.len L ≤ 50000 := by omega
  show Code.wp _ _ _ a w1
  refine wp_seq ?_
  refine wp_seq ?_
  cases hv : Tm.allV L
  · refine ls2a_region L Bs hLn hv h ?_
    intro a w1 h
    show Code.wp _ _ _ a w1
    refine env_cond (b := true) rfl h ?_
    have h := h.keep [0, 1, 4, 999]
    show Code.wp _ _ _ a w1
    refine wp_seq ?_
    refine ls3a_region L Bs  h ?_
    intro a w1 h
    show Code.wp _ _ _ a w1
    refine wp_ret ?_
    (try simp only [then_ret, block_ret])
    refine law_out rfl (h.get 4 rfl) h.defers ⟨rfl, h.world⟩
  · refine ls2b_region L Bs hLn hv h ?_
    intro a w1 h
    show Code.wp _ _ _ a w1
    refine env_cond (b := false) rfl h ?_
    refine wp_skip ?_
    have h := h.keep [0, 1, 4, 999]
    show Code.wp _ _ _ a w1
    refine wp_seq ?_
    have hb0 := h.world
    obtain ⟨wz, rfl⟩ : ∃ wz : World, wz = w1 := ⟨_, rfl⟩
    have h := (h.since rfl).keep [0, 1, 998, 999]
    refine ls4a_region L Bs wz  h ?_
    intro a w1 h
    have h40 : Tm.takeF L 40 = L := by rw [hL]; exact few_few F
    rw [h40] at h
    show Code.wp _ _ _ a w1
    refine wp_seq ?_
    refine wp_seq ?_
    refine ls5a_region L Bs wz  h ?_
    intro a w1 h
    show Code.wp _ _ _ a w1
    refine wp_block ?_
    obtain ⟨nr, hnr⟩ : ∃ n, n = if 0 < Tm.len L then min Bs.length 60 else 0 := ⟨_, rfl⟩
    have h := h.keep [6, 5, 0, 1, 998, 999]
    refine wp_for (n := nr) (fun kk a w1 => ∃ T : Fo, (Tm.toL T).Perm (Tm.toL L) ∧ Hold 235 [(6, .val (.int .i64 ((kk : Nat) : Int))), (5, .sat (ownP T wz)), (0, .sat (oldP (.row L) wz)), (1, .sat (oldP (.sat (u8P Bs)) wz)), (998, .sat (oldP .tabs wz)), (999, .tabs)] wz a w1) ⟨_, List.Perm.refl _, h⟩ ?_ ?_
    · rintro kk a w1 hi ⟨T, hT, h⟩
      have hTl : Tm.len T = Tm.len L := by have := hT.length_eq; rwa [Tm.len_toL, Tm.len_toL] at this
      obtain ⟨hk1, hk2, hk3, hk4⟩ : kk < Bs.length ∧ kk < 60 ∧ 0 < Tm.len T ∧ Tm.len T ≤ 40 := by rw [hnr] at hi; split at hi <;> omega
      refine wp_seq ?_
      refine wp_seq ?_
      refine ls6a_region L Bs wz kk T hk1 hk2 hk3 hk4 h ?_
      intro a w1 h
      show Code.wp _ _ _ a w1
      refine env_cond (b := true) rfl h ?_
      refine wp_skip ?_
      have h := h.keep [6, 5, 0, 1, 998, 999]
      show Code.wp _ _ _ a w1
      refine wp_seq ?_
      refine wp_block ?_
      refine wp_seq ?_
      obtain ⟨z, hz⟩ : ∃ z, Bs[kk]? = some z := ⟨_, List.getElem?_eq_getElem hk1⟩
      have hz8 := hB z (List.mem_of_getElem? hz)
      refine ls8a_region L Bs wz kk T z hz hz8 hk1 hk2 hk3 hk4 h ?_
      intro a w1 h
      obtain ⟨ii, hii⟩ : ∃ n, n = kk % Tm.len T := ⟨_, rfl⟩
      obtain ⟨jj, hjj⟩ : ∃ n, n = z % Tm.len T := ⟨_, rfl⟩
      rw [← hii, ← hjj] at h
      have hi1 : ii < Tm.len T := by rw [hii]; exact Nat.mod_lt _ hk3
      have hi2 : jj < Tm.len T := by rw [hjj]; exact Nat.mod_lt _ hk3
      show Code.wp _ _ _ a w1
      refine ls9x_region L Bs wz kk T ii jj (by omega) hi1 hi2 (h.keep [5, 7, 8, 6, 0, 1, 998]) (fun _ t _ _ _ h => by cases t <;> exact h) ?_
      intro a w1 h
      show Code.wp _ _ _ a w1
      refine ls7a_region L Bs wz kk T ii jj hk2 h ?_
      intro a w1 h
      exact ⟨_, (exch_perm T hi1 hi2).trans hT, h.keep [6, 5, 0, 1, 998, 999]⟩
    · rintro a w1 ⟨T, hT, h⟩
      have hTl : Tm.len T = Tm.len L := by have := hT.length_eq; rwa [Tm.len_toL, Tm.len_toL] at this
      refine wp_seq ?_
      refine wp_seq ?_
      rcases Nat.lt_or_ge nr Bs.length with g1 | g1
      rotate_left
      · refine ls6b_region L Bs wz T nr g1 h ?_
        intro a w1 h
        show Code.wp _ _ _ a w1
        refine env_cond (b := false) rfl h ?_
        refine wp_exit ?_
        have h := h.keep [5, 0, 998, 999]
        show Code.wp _ _ _ a w1
        refine wp_seq ?_
        have h : Hold 235 [(0, .row L), (5, .row T), (999, .tabs)] wz a w1 := ⟨h.size, h.defers, h.world, slots_cons 0 (oldP.to (h.get 0 rfl)) (slots_cons 5 (ownP.to (h.get 5 rfl)) (slots_cons 999 (h.get 999 rfl) slots_nil))⟩
        have hTn : Tm.len T ≤ 50000 := by omega
        obtain ⟨S, G, hS, hG, f1, f2, f3, f4, f5, f6, hSv, hS2, hGv, hG2, hGl, hGc, hSc, hLm⟩ := sorted_facts hv hT
        have hSn : Tm.len S ≤ 50000 := by rw [hS]; exact Nat.le_trans (sortR_len L) hLn
        have hGn : Tm.len G ≤ 50000 := by omega
        refine ls10a_region L T hLn h ?_
        intro a w1 h
        rw [← hS, f1] at h
        show Code.wp _ _ _ a w1
        refine wp_seq ?_
        refine ls11a_region L T S hLn h ?_
        intro a w1 h
        rw [← hG, f2] at h
        show Code.wp _ _ _ a w1
        refine wp_seq ?_
        refine ls12a_region L T S G hTn h ?_
        intro a w1 h
        rw [f3, ← hS, f1] at h
        show Code.wp _ _ _ a w1
        refine wp_seq ?_
        refine ls13a_region L T S G hTn h ?_
        intro a w1 h
        rw [f4, ← hG, f2] at h
        show Code.wp _ _ _ a w1
        refine wp_seq ?_
        refine ls14a_region L T S G hGn h ?_
        intro a w1 h
        rw [f5, f6] at h
        show Code.wp _ _ _ a w1
        refine wp_seq ?_
        refine wp_seq ?_
        refine ls15a_region L T S G hGl h ?_
        intro a w1 h
        show Code.wp _ _ _ a w1
        refine env_cond (b := false) rfl h ?_
        refine wp_skip ?_
        have h := h.keep [0, 9, 11, 13, 15, 17, 999]
        show Code.wp _ _ _ a w1
        refine wp_seq ?_
        refine wp_seq ?_
        have hSS := Tm.sameRows_refl hSv
        have hGG := Tm.sameRows_refl hGv
        refine ls17a_region L T S G hSn hGn hSS hGG h ?_
        intro a w1 h
        show Code.wp _ _ _ a w1
        refine env_cond (b := false) rfl h ?_
        refine wp_skip ?_
        have h := h.keep [0, 9, 11, 999]
        show Code.wp _ _ _ a w1
        refine wp_seq ?_
        refine wp_seq ?_
        refine ls19a_region L T S G  h ?_
        intro a w1 h
        show Code.wp _ _ _ a w1
        refine wp_block ?_
        have h := h.keep [19, 0, 11, 9, 999]
        refine wp_for (n := (Tm.len L)) (fun kk a w1 => Hold 235 [(19, .val (.int .i64 ((kk : Nat) : Int))), (0, .row L), (11, .row G), (9, .row S), (999, .tabs)] wz a w1) h ?_ ?_
        · intro kk a w1 hi h
          refine wp_seq ?_
          refine wp_seq ?_
          refine ls20a_region L T S G kk hi h ?_
          intro a w1 h
          show Code.wp _ _ _ a w1
          refine env_cond (b := true) rfl h ?_
          refine wp_skip ?_
          have h := h.keep [19, 0, 11, 9, 999]
          show Code.wp _ _ _ a w1
          refine wp_seq ?_
          refine wp_block ?_
          refine wp_seq ?_
          obtain ⟨p1, l1, r1, d1⟩ := Tm.drop_at (F := L) (k := kk) hi
          have hc1 := hGc p1 l1
          have hc2 := hSc p1 l1 (List.mem_of_getElem? (Tm.toL_at d1))
          refine ls22a_region L T S G kk p1 l1 r1 hLn hSn hGn d1 hc1 hc2 h ?_
          intro a w1 h
          show Code.wp _ _ _ a w1
          refine env_cond (b := false) rfl h ?_
          refine wp_skip ?_
          have h := h.keep [19, 0, 11, 9, 999]
          show Code.wp _ _ _ a w1
          refine ls21a_region L T S G kk hLn hi h ?_
          intro a w1 h
          exact h.keep [19, 0, 11, 9, 999]
        · intro a w1 h
          refine wp_seq ?_
          refine wp_seq ?_
          refine ls20b_region L T S G  h ?_
          intro a w1 h
          show Code.wp _ _ _ a w1
          refine env_cond (b := false) rfl h ?_
          refine wp_exit ?_
          have h := h.keep [0, 11, 9, 999]
          show Code.wp _ _ _ a w1
          refine wp_seq ?_
          refine wp_seq ?_
          refine ls24a_region L T S G  h ?_
          intro a w1 h
          show Code.wp _ _ _ a w1
          refine wp_block ?_
          have h := h.keep [20, 0, 11, 9, 999]
          refine wp_for (n := (Tm.len G)) (fun kk a w1 => Hold 235 [(20, .val (.int .i64 ((kk : Nat) : Int))), (0, .row L), (11, .row G), (9, .row S), (999, .tabs)] wz a w1) h ?_ ?_
          · intro kk a w1 hi h
            refine wp_seq ?_
            refine wp_seq ?_
            refine ls25a_region L T S G kk hi h ?_
            intro a w1 h
            show Code.wp _ _ _ a w1
            refine env_cond (b := true) rfl h ?_
            refine wp_skip ?_
            have h := h.keep [20, 0, 11, 9, 999]
            show Code.wp _ _ _ a w1
            refine wp_seq ?_
            refine wp_block ?_
            refine wp_seq ?_
            rcases Nat.eq_zero_or_pos kk with h0 | h0
            · refine ls27a_region L T S G kk h0 h ?_
              intro a w1 h
              show Code.wp _ _ _ a w1
              refine env_cond (b := false) rfl h ?_
              refine wp_skip ?_
              have h := h.keep [20, 0, 11, 9, 999]
              show Code.wp _ _ _ a w1
              refine ls26a_region L T S G kk hGn hi h ?_
              intro a w1 h
              exact h.keep [20, 0, 11, 9, 999]
            · obtain ⟨j, rfl⟩ : ∃ j, kk = j + 1 := ⟨kk - 1, by omega⟩
              obtain ⟨p1, l1, r1, d1⟩ := Tm.drop_at (F := G) (k := (j + 1) - 1) (by omega)
              obtain ⟨p2, l2, r2, d2⟩ := Tm.drop_at (F := G) (k := j + 1) hi
              have hcv := le_at hGv hG2 d1 d2
              refine ls27b_region L T S G (j + 1) j p1 l1 r1 p2 l2 r2 hGn hi d1 d2 hcv h ?_
              intro a w1 h
              show Code.wp _ _ _ a w1
              refine env_cond (b := false) rfl h ?_
              refine wp_skip ?_
              have h := h.keep [20, 0, 11, 9, 999]
              show Code.wp _ _ _ a w1
              refine ls26a_region L T S G (j + 1) hGn hi h ?_
              intro a w1 h
              exact h.keep [20, 0, 11, 9, 999]
          · intro a w1 h
            refine wp_seq ?_
            refine wp_seq ?_
            refine ls25b_region L T S G  h ?_
            intro a w1 h
            show Code.wp _ _ _ a w1
            refine env_cond (b := false) rfl h ?_
            refine wp_exit ?_
            have h := h.keep [0, 9, 999]
            show Code.wp _ _ _ a w1
            refine wp_seq ?_
            refine wp_seq ?_
            refine ls29a_region L T S G  h ?_
            intro a w1 h
            show Code.wp _ _ _ a w1
            refine wp_block ?_
            have h := h.keep [21, 0, 9, 999]
            refine wp_for (n := (Tm.len S)) (fun kk a w1 => Hold 235 [(21, .val (.int .i64 ((kk : Nat) : Int))), (0, .row L), (9, .row S), (999, .tabs)] wz a w1) h ?_ ?_
            · intro kk a w1 hi h
              refine wp_seq ?_
              refine wp_seq ?_
              refine ls30a_region L T S G kk hi h ?_
              intro a w1 h
              show Code.wp _ _ _ a w1
              refine env_cond (b := true) rfl h ?_
              refine wp_skip ?_
              have h := h.keep [21, 0, 9, 999]
              show Code.wp _ _ _ a w1
              refine wp_seq ?_
              refine wp_block ?_
              refine wp_seq ?_
              refine wp_seq ?_
              rcases Nat.eq_zero_or_pos kk with h0 | h0
              · refine ls32a_region L T S G kk h0 h ?_
                intro a w1 h
                show Code.wp _ _ _ a w1
                refine env_cond (b := false) rfl h ?_
                refine wp_skip ?_
                have h := h.keep [21, 0, 9, 999]
                show Code.wp _ _ _ a w1
                refine wp_seq ?_
                obtain ⟨q1, m1, s1, e1⟩ := Tm.drop_at (F := S) (k := kk) hi
                have hq := rank_here hSv hS2 hi e1
                have hcz := hLm q1 m1 (List.mem_of_getElem? (Tm.toL_at e1))
                refine ls34a_region L T S G kk q1 m1 s1 hSn e1 h ?_
                intro a w1 h
                rw [hq.1, hq.2] at h
                show Code.wp _ _ _ a w1
                refine wp_seq ?_
                refine ls35a_region L T S G kk q1 m1 s1 hLn hSn e1 hcz h ?_
                intro a w1 h
                show Code.wp _ _ _ a w1
                refine env_cond (b := false) rfl h ?_
                refine wp_skip ?_
                have h := h.keep [21, 0, 9, 999]
                show Code.wp _ _ _ a w1
                refine ls31a_region L T S G kk q1 m1 s1 hSn hi h ?_
                intro a w1 h
                exact h.keep [21, 0, 9, 999]
              · obtain ⟨j, rfl⟩ : ∃ j, kk = j + 1 := ⟨kk - 1, by omega⟩
                obtain ⟨p1, l1, r1, d1⟩ := Tm.drop_at (F := S) (k := (j + 1) - 1) (by omega)
                obtain ⟨p2, l2, r2, d2⟩ := Tm.drop_at (F := S) (k := j + 1) hi
                have hcv := lt_at hSv hS2 d1 d2
                refine ls32b_region L T S G (j + 1) j p1 l1 r1 p2 l2 r2 hSn hi d1 d2 hcv h ?_
                intro a w1 h
                show Code.wp _ _ _ a w1
                refine env_cond (b := false) rfl h ?_
                refine wp_skip ?_
                have h := h.keep [21, 0, 9, 999]
                show Code.wp _ _ _ a w1
                refine wp_seq ?_
                obtain ⟨q1, m1, s1, e1⟩ := Tm.drop_at (F := S) (k := (j + 1)) hi
                have hq := rank_here hSv hS2 hi e1
                have hcz := hLm q1 m1 (List.mem_of_getElem? (Tm.toL_at e1))
                refine ls34a_region L T S G (j + 1) q1 m1 s1 hSn e1 h ?_
                intro a w1 h
                rw [hq.1, hq.2] at h
                show Code.wp _ _ _ a w1
                refine wp_seq ?_
                refine ls35a_region L T S G (j + 1) q1 m1 s1 hLn hSn e1 hcz h ?_
                intro a w1 h
                show Code.wp _ _ _ a w1
                refine env_cond (b := false) rfl h ?_
                refine wp_skip ?_
                have h := h.keep [21, 0, 9, 999]
                show Code.wp _ _ _ a w1
                refine ls31a_region L T S G (j + 1) q1 m1 s1 hSn hi h ?_
                intro a w1 h
                exact h.keep [21, 0, 9, 999]
            · intro a w1 h
              refine wp_seq ?_
              refine wp_seq ?_
              refine ls30b_region L T S G  h ?_
              intro a w1 h
              show Code.wp _ _ _ a w1
              refine env_cond (b := false) rfl h ?_
              refine wp_exit ?_
              have h := h.keep [999]
              show Code.wp _ _ _ a w1
              refine wp_seq ?_
              refine ls37a_region L T S G  h ?_
              intro a w1 h
              show Code.wp _ _ _ a w1
              refine wp_ret ?_
              (try simp only [then_ret, block_ret])
              refine law_out rfl (h.get 4 rfl) h.defers ⟨rfl, hb0.trans (h.world.mono hb0.size)⟩
      rcases Nat.lt_or_ge nr 60 with g2 | g2
      rotate_left
      · refine ls6c_region L Bs wz T nr g1 g2 h ?_
        intro a w1 h
        show Code.wp _ _ _ a w1
        refine env_cond (b := false) rfl h ?_
        refine wp_exit ?_
        have h := h.keep [5, 0, 998, 999]
        show Code.wp _ _ _ a w1
        refine wp_seq ?_
        have h : Hold 235 [(0, .row L), (5, .row T), (999, .tabs)] wz a w1 := ⟨h.size, h.defers, h.world, slots_cons 0 (oldP.to (h.get 0 rfl)) (slots_cons 5 (ownP.to (h.get 5 rfl)) (slots_cons 999 (h.get 999 rfl) slots_nil))⟩
        have hTn : Tm.len T ≤ 50000 := by omega
        obtain ⟨S, G, hS, hG, f1, f2, f3, f4, f5, f6, hSv, hS2, hGv, hG2, hGl, hGc, hSc, hLm⟩ := sorted_facts hv hT
        have hSn : Tm.len S ≤ 50000 := by rw [hS]; exact Nat.le_trans (sortR_len L) hLn
        have hGn : Tm.len G ≤ 50000 := by omega
        refine ls10a_region L T hLn h ?_
        intro a w1 h
        rw [← hS, f1] at h
        show Code.wp _ _ _ a w1
        refine wp_seq ?_
        refine ls11a_region L T S hLn h ?_
        intro a w1 h
        rw [← hG, f2] at h
        show Code.wp _ _ _ a w1
        refine wp_seq ?_
        refine ls12a_region L T S G hTn h ?_
        intro a w1 h
        rw [f3, ← hS, f1] at h
        show Code.wp _ _ _ a w1
        refine wp_seq ?_
        refine ls13a_region L T S G hTn h ?_
        intro a w1 h
        rw [f4, ← hG, f2] at h
        show Code.wp _ _ _ a w1
        refine wp_seq ?_
        refine ls14a_region L T S G hGn h ?_
        intro a w1 h
        rw [f5, f6] at h
        show Code.wp _ _ _ a w1
        refine wp_seq ?_
        refine wp_seq ?_
        refine ls15a_region L T S G hGl h ?_
        intro a w1 h
        show Code.wp _ _ _ a w1
        refine env_cond (b := false) rfl h ?_
        refine wp_skip ?_
        have h := h.keep [0, 9, 11, 13, 15, 17, 999]
        show Code.wp _ _ _ a w1
        refine wp_seq ?_
        refine wp_seq ?_
        have hSS := Tm.sameRows_refl hSv
        have hGG := Tm.sameRows_refl hGv
        refine ls17a_region L T S G hSn hGn hSS hGG h ?_
        intro a w1 h
        show Code.wp _ _ _ a w1
        refine env_cond (b := false) rfl h ?_
        refine wp_skip ?_
        have h := h.keep [0, 9, 11, 999]
        show Code.wp _ _ _ a w1
        refine wp_seq ?_
        refine wp_seq ?_
        refine ls19a_region L T S G  h ?_
        intro a w1 h
        show Code.wp _ _ _ a w1
        refine wp_block ?_
        have h := h.keep [19, 0, 11, 9, 999]
        refine wp_for (n := (Tm.len L)) (fun kk a w1 => Hold 235 [(19, .val (.int .i64 ((kk : Nat) : Int))), (0, .row L), (11, .row G), (9, .row S), (999, .tabs)] wz a w1) h ?_ ?_
        · intro kk a w1 hi h
          refine wp_seq ?_
          refine wp_seq ?_
          refine ls20a_region L T S G kk hi h ?_
          intro a w1 h
          show Code.wp _ _ _ a w1
          refine env_cond (b := true) rfl h ?_
          refine wp_skip ?_
          have h := h.keep [19, 0, 11, 9, 999]
          show Code.wp _ _ _ a w1
          refine wp_seq ?_
          refine wp_block ?_
          refine wp_seq ?_
          obtain ⟨p1, l1, r1, d1⟩ := Tm.drop_at (F := L) (k := kk) hi
          have hc1 := hGc p1 l1
          have hc2 := hSc p1 l1 (List.mem_of_getElem? (Tm.toL_at d1))
          refine ls22a_region L T S G kk p1 l1 r1 hLn hSn hGn d1 hc1 hc2 h ?_
          intro a w1 h
          show Code.wp _ _ _ a w1
          refine env_cond (b := false) rfl h ?_
          refine wp_skip ?_
          have h := h.keep [19, 0, 11, 9, 999]
          show Code.wp _ _ _ a w1
          refine ls21a_region L T S G kk hLn hi h ?_
          intro a w1 h
          exact h.keep [19, 0, 11, 9, 999]
        · intro a w1 h
          refine wp_seq ?_
          refine wp_seq ?_
          refine ls20b_region L T S G  h ?_
          intro a w1 h
          show Code.wp _ _ _ a w1
          refine env_cond (b := false) rfl h ?_
          refine wp_exit ?_
          have h := h.keep [0, 11, 9, 999]
          show Code.wp _ _ _ a w1
          refine wp_seq ?_
          refine wp_seq ?_
          refine ls24a_region L T S G  h ?_
          intro a w1 h
          show Code.wp _ _ _ a w1
          refine wp_block ?_
          have h := h.keep [20, 0, 11, 9, 999]
          refine wp_for (n := (Tm.len G)) (fun kk a w1 => Hold 235 [(20, .val (.int .i64 ((kk : Nat) : Int))), (0, .row L), (11, .row G), (9, .row S), (999, .tabs)] wz a w1) h ?_ ?_
          · intro kk a w1 hi h
            refine wp_seq ?_
            refine wp_seq ?_
            refine ls25a_region L T S G kk hi h ?_
            intro a w1 h
            show Code.wp _ _ _ a w1
            refine env_cond (b := true) rfl h ?_
            refine wp_skip ?_
            have h := h.keep [20, 0, 11, 9, 999]
            show Code.wp _ _ _ a w1
            refine wp_seq ?_
            refine wp_block ?_
            refine wp_seq ?_
            rcases Nat.eq_zero_or_pos kk with h0 | h0
            · refine ls27a_region L T S G kk h0 h ?_
              intro a w1 h
              show Code.wp _ _ _ a w1
              refine env_cond (b := false) rfl h ?_
              refine wp_skip ?_
              have h := h.keep [20, 0, 11, 9, 999]
              show Code.wp _ _ _ a w1
              refine ls26a_region L T S G kk hGn hi h ?_
              intro a w1 h
              exact h.keep [20, 0, 11, 9, 999]
            · obtain ⟨j, rfl⟩ : ∃ j, kk = j + 1 := ⟨kk - 1, by omega⟩
              obtain ⟨p1, l1, r1, d1⟩ := Tm.drop_at (F := G) (k := (j + 1) - 1) (by omega)
              obtain ⟨p2, l2, r2, d2⟩ := Tm.drop_at (F := G) (k := j + 1) hi
              have hcv := le_at hGv hG2 d1 d2
              refine ls27b_region L T S G (j + 1) j p1 l1 r1 p2 l2 r2 hGn hi d1 d2 hcv h ?_
              intro a w1 h
              show Code.wp _ _ _ a w1
              refine env_cond (b := false) rfl h ?_
              refine wp_skip ?_
              have h := h.keep [20, 0, 11, 9, 999]
              show Code.wp _ _ _ a w1
              refine ls26a_region L T S G (j + 1) hGn hi h ?_
              intro a w1 h
              exact h.keep [20, 0, 11, 9, 999]
          · intro a w1 h
            refine wp_seq ?_
            refine wp_seq ?_
            refine ls25b_region L T S G  h ?_
            intro a w1 h
            show Code.wp _ _ _ a w1
            refine env_cond (b := false) rfl h ?_
            refine wp_exit ?_
            have h := h.keep [0, 9, 999]
            show Code.wp _ _ _ a w1
            refine wp_seq ?_
            refine wp_seq ?_
            refine ls29a_region L T S G  h ?_
            intro a w1 h
            show Code.wp _ _ _ a w1
            refine wp_block ?_
            have h := h.keep [21, 0, 9, 999]
            refine wp_for (n := (Tm.len S)) (fun kk a w1 => Hold 235 [(21, .val (.int .i64 ((kk : Nat) : Int))), (0, .row L), (9, .row S), (999, .tabs)] wz a w1) h ?_ ?_
            · intro kk a w1 hi h
              refine wp_seq ?_
              refine wp_seq ?_
              refine ls30a_region L T S G kk hi h ?_
              intro a w1 h
              show Code.wp _ _ _ a w1
              refine env_cond (b := true) rfl h ?_
              refine wp_skip ?_
              have h := h.keep [21, 0, 9, 999]
              show Code.wp _ _ _ a w1
              refine wp_seq ?_
              refine wp_block ?_
              refine wp_seq ?_
              refine wp_seq ?_
              rcases Nat.eq_zero_or_pos kk with h0 | h0
              · refine ls32a_region L T S G kk h0 h ?_
                intro a w1 h
                show Code.wp _ _ _ a w1
                refine env_cond (b := false) rfl h ?_
                refine wp_skip ?_
                have h := h.keep [21, 0, 9, 999]
                show Code.wp _ _ _ a w1
                refine wp_seq ?_
                obtain ⟨q1, m1, s1, e1⟩ := Tm.drop_at (F := S) (k := kk) hi
                have hq := rank_here hSv hS2 hi e1
                have hcz := hLm q1 m1 (List.mem_of_getElem? (Tm.toL_at e1))
                refine ls34a_region L T S G kk q1 m1 s1 hSn e1 h ?_
                intro a w1 h
                rw [hq.1, hq.2] at h
                show Code.wp _ _ _ a w1
                refine wp_seq ?_
                refine ls35a_region L T S G kk q1 m1 s1 hLn hSn e1 hcz h ?_
                intro a w1 h
                show Code.wp _ _ _ a w1
                refine env_cond (b := false) rfl h ?_
                refine wp_skip ?_
                have h := h.keep [21, 0, 9, 999]
                show Code.wp _ _ _ a w1
                refine ls31a_region L T S G kk q1 m1 s1 hSn hi h ?_
                intro a w1 h
                exact h.keep [21, 0, 9, 999]
              · obtain ⟨j, rfl⟩ : ∃ j, kk = j + 1 := ⟨kk - 1, by omega⟩
                obtain ⟨p1, l1, r1, d1⟩ := Tm.drop_at (F := S) (k := (j + 1) - 1) (by omega)
                obtain ⟨p2, l2, r2, d2⟩ := Tm.drop_at (F := S) (k := j + 1) hi
                have hcv := lt_at hSv hS2 d1 d2
                refine ls32b_region L T S G (j + 1) j p1 l1 r1 p2 l2 r2 hSn hi d1 d2 hcv h ?_
                intro a w1 h
                show Code.wp _ _ _ a w1
                refine env_cond (b := false) rfl h ?_
                refine wp_skip ?_
                have h := h.keep [21, 0, 9, 999]
                show Code.wp _ _ _ a w1
                refine wp_seq ?_
                obtain ⟨q1, m1, s1, e1⟩ := Tm.drop_at (F := S) (k := (j + 1)) hi
                have hq := rank_here hSv hS2 hi e1
                have hcz := hLm q1 m1 (List.mem_of_getElem? (Tm.toL_at e1))
                refine ls34a_region L T S G (j + 1) q1 m1 s1 hSn e1 h ?_
                intro a w1 h
                rw [hq.1, hq.2] at h
                show Code.wp _ _ _ a w1
                refine wp_seq ?_
                refine ls35a_region L T S G (j + 1) q1 m1 s1 hLn hSn e1 hcz h ?_
                intro a w1 h
                show Code.wp _ _ _ a w1
                refine env_cond (b := false) rfl h ?_
                refine wp_skip ?_
                have h := h.keep [21, 0, 9, 999]
                show Code.wp _ _ _ a w1
                refine ls31a_region L T S G (j + 1) q1 m1 s1 hSn hi h ?_
                intro a w1 h
                exact h.keep [21, 0, 9, 999]
            · intro a w1 h
              refine wp_seq ?_
              refine wp_seq ?_
              refine ls30b_region L T S G  h ?_
              intro a w1 h
              show Code.wp _ _ _ a w1
              refine env_cond (b := false) rfl h ?_
              refine wp_exit ?_
              have h := h.keep [999]
              show Code.wp _ _ _ a w1
              refine wp_seq ?_
              refine ls37a_region L T S G  h ?_
              intro a w1 h
              show Code.wp _ _ _ a w1
              refine wp_ret ?_
              (try simp only [then_ret, block_ret])
              refine law_out rfl (h.get 4 rfl) h.defers ⟨rfl, hb0.trans (h.world.mono hb0.size)⟩
      · have g3 : ¬ 0 < Tm.len T := by rw [hnr] at g1 g2; split at g1 <;> simp_all <;> omega
        refine ls6d_region L Bs wz T nr g1 g2 g3 h ?_
        intro a w1 h
        show Code.wp _ _ _ a w1
        refine env_cond (b := false) rfl h ?_
        refine wp_exit ?_
        have h := h.keep [5, 0, 998, 999]
        show Code.wp _ _ _ a w1
        refine wp_seq ?_
        have h : Hold 235 [(0, .row L), (5, .row T), (999, .tabs)] wz a w1 := ⟨h.size, h.defers, h.world, slots_cons 0 (oldP.to (h.get 0 rfl)) (slots_cons 5 (ownP.to (h.get 5 rfl)) (slots_cons 999 (h.get 999 rfl) slots_nil))⟩
        have hTn : Tm.len T ≤ 50000 := by omega
        obtain ⟨S, G, hS, hG, f1, f2, f3, f4, f5, f6, hSv, hS2, hGv, hG2, hGl, hGc, hSc, hLm⟩ := sorted_facts hv hT
        have hSn : Tm.len S ≤ 50000 := by rw [hS]; exact Nat.le_trans (sortR_len L) hLn
        have hGn : Tm.len G ≤ 50000 := by omega
        refine ls10a_region L T hLn h ?_
        intro a w1 h
        rw [← hS, f1] at h
        show Code.wp _ _ _ a w1
        refine wp_seq ?_
        refine ls11a_region L T S hLn h ?_
        intro a w1 h
        rw [← hG, f2] at h
        show Code.wp _ _ _ a w1
        refine wp_seq ?_
        refine ls12a_region L T S G hTn h ?_
        intro a w1 h
        rw [f3, ← hS, f1] at h
        show Code.wp _ _ _ a w1
        refine wp_seq ?_
        refine ls13a_region L T S G hTn h ?_
        intro a w1 h
        rw [f4, ← hG, f2] at h
        show Code.wp _ _ _ a w1
        refine wp_seq ?_
        refine ls14a_region L T S G hGn h ?_
        intro a w1 h
        rw [f5, f6] at h
        show Code.wp _ _ _ a w1
        refine wp_seq ?_
        refine wp_seq ?_
        refine ls15a_region L T S G hGl h ?_
        intro a w1 h
        show Code.wp _ _ _ a w1
        refine env_cond (b := false) rfl h ?_
        refine wp_skip ?_
        have h := h.keep [0, 9, 11, 13, 15, 17, 999]
        show Code.wp _ _ _ a w1
        refine wp_seq ?_
        refine wp_seq ?_
        have hSS := Tm.sameRows_refl hSv
        have hGG := Tm.sameRows_refl hGv
        refine ls17a_region L T S G hSn hGn hSS hGG h ?_
        intro a w1 h
        show Code.wp _ _ _ a w1
        refine env_cond (b := false) rfl h ?_
        refine wp_skip ?_
        have h := h.keep [0, 9, 11, 999]
        show Code.wp _ _ _ a w1
        refine wp_seq ?_
        refine wp_seq ?_
        refine ls19a_region L T S G  h ?_
        intro a w1 h
        show Code.wp _ _ _ a w1
        refine wp_block ?_
        have h := h.keep [19, 0, 11, 9, 999]
        refine wp_for (n := (Tm.len L)) (fun kk a w1 => Hold 235 [(19, .val (.int .i64 ((kk : Nat) : Int))), (0, .row L), (11, .row G), (9, .row S), (999, .tabs)] wz a w1) h ?_ ?_
        · intro kk a w1 hi h
          refine wp_seq ?_
          refine wp_seq ?_
          refine ls20a_region L T S G kk hi h ?_
          intro a w1 h
          show Code.wp _ _ _ a w1
          refine env_cond (b := true) rfl h ?_
          refine wp_skip ?_
          have h := h.keep [19, 0, 11, 9, 999]
          show Code.wp _ _ _ a w1
          refine wp_seq ?_
          refine wp_block ?_
          refine wp_seq ?_
          obtain ⟨p1, l1, r1, d1⟩ := Tm.drop_at (F := L) (k := kk) hi
          have hc1 := hGc p1 l1
          have hc2 := hSc p1 l1 (List.mem_of_getElem? (Tm.toL_at d1))
          refine ls22a_region L T S G kk p1 l1 r1 hLn hSn hGn d1 hc1 hc2 h ?_
          intro a w1 h
          show Code.wp _ _ _ a w1
          refine env_cond (b := false) rfl h ?_
          refine wp_skip ?_
          have h := h.keep [19, 0, 11, 9, 999]
          show Code.wp _ _ _ a w1
          refine ls21a_region L T S G kk hLn hi h ?_
          intro a w1 h
          exact h.keep [19, 0, 11, 9, 999]
        · intro a w1 h
          refine wp_seq ?_
          refine wp_seq ?_
          refine ls20b_region L T S G  h ?_
          intro a w1 h
          show Code.wp _ _ _ a w1
          refine env_cond (b := false) rfl h ?_
          refine wp_exit ?_
          have h := h.keep [0, 11, 9, 999]
          show Code.wp _ _ _ a w1
          refine wp_seq ?_
          refine wp_seq ?_
          refine ls24a_region L T S G  h ?_
          intro a w1 h
          show Code.wp _ _ _ a w1
          refine wp_block ?_
          have h := h.keep [20, 0, 11, 9, 999]
          refine wp_for (n := (Tm.len G)) (fun kk a w1 => Hold 235 [(20, .val (.int .i64 ((kk : Nat) : Int))), (0, .row L), (11, .row G), (9, .row S), (999, .tabs)] wz a w1) h ?_ ?_
          · intro kk a w1 hi h
            refine wp_seq ?_
            refine wp_seq ?_
            refine ls25a_region L T S G kk hi h ?_
            intro a w1 h
            show Code.wp _ _ _ a w1
            refine env_cond (b := true) rfl h ?_
            refine wp_skip ?_
            have h := h.keep [20, 0, 11, 9, 999]
            show Code.wp _ _ _ a w1
            refine wp_seq ?_
            refine wp_block ?_
            refine wp_seq ?_
            rcases Nat.eq_zero_or_pos kk with h0 | h0
            · refine ls27a_region L T S G kk h0 h ?_
              intro a w1 h
              show Code.wp _ _ _ a w1
              refine env_cond (b := false) rfl h ?_
              refine wp_skip ?_
              have h := h.keep [20, 0, 11, 9, 999]
              show Code.wp _ _ _ a w1
              refine ls26a_region L T S G kk hGn hi h ?_
              intro a w1 h
              exact h.keep [20, 0, 11, 9, 999]
            · obtain ⟨j, rfl⟩ : ∃ j, kk = j + 1 := ⟨kk - 1, by omega⟩
              obtain ⟨p1, l1, r1, d1⟩ := Tm.drop_at (F := G) (k := (j + 1) - 1) (by omega)
              obtain ⟨p2, l2, r2, d2⟩ := Tm.drop_at (F := G) (k := j + 1) hi
              have hcv := le_at hGv hG2 d1 d2
              refine ls27b_region L T S G (j + 1) j p1 l1 r1 p2 l2 r2 hGn hi d1 d2 hcv h ?_
              intro a w1 h
              show Code.wp _ _ _ a w1
              refine env_cond (b := false) rfl h ?_
              refine wp_skip ?_
              have h := h.keep [20, 0, 11, 9, 999]
              show Code.wp _ _ _ a w1
              refine ls26a_region L T S G (j + 1) hGn hi h ?_
              intro a w1 h
              exact h.keep [20, 0, 11, 9, 999]
          · intro a w1 h
            refine wp_seq ?_
            refine wp_seq ?_
            refine ls25b_region L T S G  h ?_
            intro a w1 h
            show Code.wp _ _ _ a w1
            refine env_cond (b := false) rfl h ?_
            refine wp_exit ?_
            have h := h.keep [0, 9, 999]
            show Code.wp _ _ _ a w1
            refine wp_seq ?_
            refine wp_seq ?_
            refine ls29a_region L T S G  h ?_
            intro a w1 h
            show Code.wp _ _ _ a w1
            refine wp_block ?_
            have h := h.keep [21, 0, 9, 999]
            refine wp_for (n := (Tm.len S)) (fun kk a w1 => Hold 235 [(21, .val (.int .i64 ((kk : Nat) : Int))), (0, .row L), (9, .row S), (999, .tabs)] wz a w1) h ?_ ?_
            · intro kk a w1 hi h
              refine wp_seq ?_
              refine wp_seq ?_
              refine ls30a_region L T S G kk hi h ?_
              intro a w1 h
              show Code.wp _ _ _ a w1
              refine env_cond (b := true) rfl h ?_
              refine wp_skip ?_
              have h := h.keep [21, 0, 9, 999]
              show Code.wp _ _ _ a w1
              refine wp_seq ?_
              refine wp_block ?_
              refine wp_seq ?_
              refine wp_seq ?_
              rcases Nat.eq_zero_or_pos kk with h0 | h0
              · refine ls32a_region L T S G kk h0 h ?_
                intro a w1 h
                show Code.wp _ _ _ a w1
                refine env_cond (b := false) rfl h ?_
                refine wp_skip ?_
                have h := h.keep [21, 0, 9, 999]
                show Code.wp _ _ _ a w1
                refine wp_seq ?_
                obtain ⟨q1, m1, s1, e1⟩ := Tm.drop_at (F := S) (k := kk) hi
                have hq := rank_here hSv hS2 hi e1
                have hcz := hLm q1 m1 (List.mem_of_getElem? (Tm.toL_at e1))
                refine ls34a_region L T S G kk q1 m1 s1 hSn e1 h ?_
                intro a w1 h
                rw [hq.1, hq.2] at h
                show Code.wp _ _ _ a w1
                refine wp_seq ?_
                refine ls35a_region L T S G kk q1 m1 s1 hLn hSn e1 hcz h ?_
                intro a w1 h
                show Code.wp _ _ _ a w1
                refine env_cond (b := false) rfl h ?_
                refine wp_skip ?_
                have h := h.keep [21, 0, 9, 999]
                show Code.wp _ _ _ a w1
                refine ls31a_region L T S G kk q1 m1 s1 hSn hi h ?_
                intro a w1 h
                exact h.keep [21, 0, 9, 999]
              · obtain ⟨j, rfl⟩ : ∃ j, kk = j + 1 := ⟨kk - 1, by omega⟩
                obtain ⟨p1, l1, r1, d1⟩ := Tm.drop_at (F := S) (k := (j + 1) - 1) (by omega)
                obtain ⟨p2, l2, r2, d2⟩ := Tm.drop_at (F := S) (k := j + 1) hi
                have hcv := lt_at hSv hS2 d1 d2
                refine ls32b_region L T S G (j + 1) j p1 l1 r1 p2 l2 r2 hSn hi d1 d2 hcv h ?_
                intro a w1 h
                show Code.wp _ _ _ a w1
                refine env_cond (b := false) rfl h ?_
                refine wp_skip ?_
                have h := h.keep [21, 0, 9, 999]
                show Code.wp _ _ _ a w1
                refine wp_seq ?_
                obtain ⟨q1, m1, s1, e1⟩ := Tm.drop_at (F := S) (k := (j + 1)) hi
                have hq := rank_here hSv hS2 hi e1
                have hcz := hLm q1 m1 (List.mem_of_getElem? (Tm.toL_at e1))
                refine ls34a_region L T S G (j + 1) q1 m1 s1 hSn e1 h ?_
                intro a w1 h
                rw [hq.1, hq.2] at h
                show Code.wp _ _ _ a w1
                refine wp_seq ?_
                refine ls35a_region L T S G (j + 1) q1 m1 s1 hLn hSn e1 hcz h ?_
                intro a w1 h
                show Code.wp _ _ _ a w1
                refine env_cond (b := false) rfl h ?_
                refine wp_skip ?_
                have h := h.keep [21, 0, 9, 999]
                show Code.wp _ _ _ a w1
                refine ls31a_region L T S G (j + 1) q1 m1 s1 hSn hi h ?_
                intro a w1 h
                exact h.keep [21, 0, 9, 999]
            · intro a w1 h
              refine wp_seq ?_
              refine wp_seq ?_
              refine ls30b_region L T S G  h ?_
              intro a w1 h
              show Code.wp _ _ _ a w1
              refine env_cond (b := false) rfl h ?_
              refine wp_exit ?_
              have h := h.keep [999]
              show Code.wp _ _ _ a w1
              refine wp_seq ?_
              refine ls37a_region L T S G  h ?_
              intro a w1 h
              show Code.wp _ _ _ a w1
              refine wp_ret ?_
              (try simp only [then_ret, block_ret])
              refine law_out rfl (h.get 4 rfl) h.defers ⟨rfl, hb0.trans (h.world.mono hb0.size)⟩
end Go.Proofs.YtcjakmafojbhlaaDoor
