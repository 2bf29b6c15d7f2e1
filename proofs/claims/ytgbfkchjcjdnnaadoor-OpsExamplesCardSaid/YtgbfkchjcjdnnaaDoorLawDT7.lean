/-
  The walks of OpsDefault and OpsTypes: they return true.
-/
import Derived.Test.YtgbfkchjcjdnnaaDoorAwake7
import Derived.Test.YtgbfkchjcjdnnaaDoorRDef7
namespace Go.Proofs.YtgbfkchjcjdnnaaDoor
set_option linter.unusedVariables false
set_option linter.unusedSimpArgs false
open Go.RowKit Q

theorem def_good : goodB defL = true := by kernel_rfl
theorem def_41 : defL.length = 41 := rfl

set_option maxHeartbeats 2000000 in
theorem walk_default (w : World) (hT : Tabs w) :
    Calls Tryd.prog 4 #[] w fun e w' => e = .returned (.bool true) ∧ Below w.heap.size w w' := by
  have hD := default_any w hT
  have hR : ∀ W : World, Calls Tryd.prog 22 #[] W fun e w' => (∃ A c, e = .returned (.slice A 41 c) ∧ OpsIn w' w'.heap.size A 41 defL) ∧ Below W.heap.size W w' := fun W => rdefault_any W
  have hS : ∀ (A A' : Option Addr) (c c' : Nat) (W : World), OpsIn W W.heap.size A 41 defL → OpsIn W W.heap.size A' 41 defL → Calls Tryd.prog 21 #[.slice A 41 c, .slice A' 41 c'] W fun e w' => e = .returned (.bool true) ∧ Below W.heap.size W w' := fun A A' c c' W h h' => by
    have := same_any A A' 41 41 c c' defL defL W (by omega) (by omega) h h'
    rwa [show sameB defL defL = true from decide_eq_true rfl] at this
  have hV : ∀ (A : Option Addr) (W : World), Below w.heap.size w W → OpsIn W W.heap.size A 41 defL → Calls Tryd.prog 23 #[.slice A 41 41] W fun e w' => e = .returned (.bool true) ∧ Below W.heap.size W w' := fun A W hW ho => by
    have := valid_any A 41 41 defL W (hT.below hW) (by omega) ho
    rwa [def_good] at this
  have hA : ∀ W : World, Below w.heap.size w W → Calls Tryd.prog 11 #[] W fun e w' => e = .returned (.bool true) ∧ Below W.heap.size W w' := fun W hW => awake_true W (hT.below hW)
  have HD := Lib.hid hD
  have HR := Lib.hid hR
  have HS := Lib.hid hS
  have HV := Lib.hid hV
  have HA := Lib.hid hA
  clear hD hR hS hV hA hT
  go_enter Tryd.func4, Tryd.ntmps4
  go_wp2_with fail
  refine HD.out.mono ?_
  rintro e w1 ⟨⟨A, rfl, ho⟩, hb⟩
  have HO := Lib.hid ho
  have HB := Lib.hid hb
  clear ho hb
  go_wp2_with fail
  refine (HR.out _).mono ?_
  rintro e w2 ⟨⟨A2, c2, rfl, ho2⟩, hb⟩
  have HO2 := Lib.hid ho2
  have HO' := Lib.hid (HO.out.on hb hb.size)
  have HB2 := Lib.hid (HB.out.trans (hb.mono HB.out.size))
  clear ho2 hb
  go_wp2_with fail
  refine (HS.out _ _ _ _ _ HO'.out HO2.out).mono ?_
  rintro e w3 ⟨rfl, hb⟩
  have HO3 := Lib.hid (HO'.out.on hb hb.size)
  have HB3 := Lib.hid (HB2.out.trans (hb.mono HB2.out.size))
  clear hb
  go_wp2_with fail
  refine (HV.out _ _ HB3.out HO3.out).mono ?_
  rintro e w4 ⟨rfl, hb⟩
  have HB4 := Lib.hid (HB3.out.trans (hb.mono HB3.out.size))
  clear hb
  go_wp2_with fail
  refine (HA.out _ HB4.out).mono ?_
  rintro e w5 ⟨rfl, hb⟩
  go_wp2_with fail
  go_ret
  exact ⟨rfl, HB4.out.trans (hb.mono HB4.out.size)⟩

set_option maxHeartbeats 4000000 in
theorem walk_types (s : ByteArray) (t p ty : Int) (nm : ByteArray) (w : World) (hT : Tabs w) (hNM : Nams w) :
    Calls Tryd.prog 7 #[.agg #[.string s, .int .i64 t, .int .i64 p], .int .i64 ty, .string nm] w fun e w' => e = .returned (.bool true) ∧ Below w.heap.size w w' := by
  have HB0 := Lib.hid ((Below.refl w.heap.size w).alloc (Nat.le_refl _) (.cells #[.string s, .int .i64 t, .int .i64 p] 26))
  have b0 : (w.alloc (.cells #[.string s, .int .i64 t, .int .i64 p] 26)).cell? ⟨w.heap.size, 0, none⟩ = some (.string s) := cell_new w _ _ 0
  have b1 : (w.alloc (.cells #[.string s, .int .i64 t, .int .i64 p] 26)).cell? ⟨w.heap.size, 1, none⟩ = some (.int .i64 t) := cell_new w _ _ 1
  have b2 : (w.alloc (.cells #[.string s, .int .i64 t, .int .i64 p] 26)).cell? ⟨w.heap.size, 2, none⟩ = some (.int .i64 p) := cell_new w _ _ 2
  have hsz : w.heap.size < (w.alloc (.cells #[.string s, .int .i64 t, .int .i64 p] 26)).heap.size := by simp
  have hS := fun W => sides_any s t p W
  have hS' := fun W => rsides_any s t p W
  have hN := fun (W : World) (hW : Below w.heap.size w W) => typeName_any ty W (hT.below hW) (hNM.below hW)
  have hN' := fun W => rtypeName_any ty W
  have hO := fun (W : World) (hW : Below w.heap.size w W) => typeOf_any nm W (hNM.below hW)
  have hO' := fun W => rtypeOf_any nm W
  have hA : ∀ W : World, Below w.heap.size w W → Calls Tryd.prog 11 #[] W fun e w' => e = .returned (.bool true) ∧ Below W.heap.size W w' := fun W hW => awake_true W (hT.below hW)
  unfold SidesEnd at hS hS'
  unfold NameEnd at hN hN'
  unfold TypeEnd at hO hO'
  obtain ⟨x, hx⟩ : ∃ x, x = (sidesM t p).1 := ⟨_, rfl⟩
  obtain ⟨y, hy⟩ : ∃ x, x = (sidesM t p).2 := ⟨_, rfl⟩
  obtain ⟨u, hu⟩ : ∃ x, x = (nameM ty).1 := ⟨_, rfl⟩
  obtain ⟨v, hv⟩ : ∃ x, x = (nameM ty).2 := ⟨_, rfl⟩
  rw [← hx, ← hy] at hS hS'
  rw [← hu, ← hv] at hN hN'
  have HS := Lib.hid hS
  have HS' := Lib.hid hS'
  have HN := Lib.hid hN
  have HN' := Lib.hid hN'
  have HO := Lib.hid hO
  have HO' := Lib.hid hO'
  have HA := Lib.hid hA
  clear hS hS' hN hN' hO hO' hA hx hy hu hv hT hNM
  go_enter Tryd.func7, Tryd.ntmps7
  go_wp2_with fail
  refine (HS.out _).mono ?_
  rintro e w1 ⟨rfl, hb⟩
  have HB1 := Lib.hid (HB0.out.trans (hb.mono HB0.out.size))
  have c0 := (hb.cell (p := ⟨w.heap.size, 0, none⟩) hsz).trans b0
  have c1 := (hb.cell (p := ⟨w.heap.size, 1, none⟩) hsz).trans b1
  have c2 := (hb.cell (p := ⟨w.heap.size, 2, none⟩) hsz).trans b2
  clear hb b0 b1 b2 hsz
  go_wp2_with fail
  refine (HS'.out _).mono ?_
  rintro e w2 ⟨rfl, hb⟩
  have HB2 := Lib.hid (HB1.out.trans (hb.mono HB1.out.size))
  clear hb c0 c1 c2
  go_wp2_with fail
  refine (HN.out _ HB2.out).mono ?_
  rintro e w3 ⟨rfl, rfl⟩
  go_wp2_with fail
  refine (HN'.out _).mono ?_
  rintro e w4 ⟨rfl, hb⟩
  have HB4 := Lib.hid (HB2.out.trans (hb.mono HB2.out.size))
  clear hb
  go_wp2_with fail
  refine (HO.out _ HB4.out).mono ?_
  rintro e w5 ⟨⟨n, ok, hn, rfl⟩, rfl⟩
  have H1 := Lib.hid hn
  clear hn
  go_wp2_with fail
  refine (HO'.out _).mono ?_
  rintro e w6 ⟨⟨n', ok', hn', rfl⟩, hb⟩
  obtain ⟨rfl, rfl⟩ := H1.out.uniq hn'
  have HB6 := Lib.hid (HB4.out.trans (hb.mono HB4.out.size))
  clear hb hn' H1
  go_wp2_with fail
  refine (HA.out _ HB6.out).mono ?_
  rintro e w7 ⟨rfl, hb⟩
  go_wp2_with fail
  go_ret
  exact ⟨rfl, HB6.out.trans (hb.mono HB6.out.size)⟩
end Go.Proofs.YtgbfkchjcjdnnaaDoor
