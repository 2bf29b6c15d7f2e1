/-
  slices.Insert of one operator, in a table of the call's own that has room.
-/
import Derived.Test.YtgbfkchjcjdnnaaDoorDelete7
namespace Go.Proofs.YtgbfkchjcjdnnaaDoor
set_option linter.unusedVariables false
set_option linter.unusedSimpArgs false
open Go.RowKit Q

set_option maxHeartbeats 2000000 in
set_option maxRecDepth 100000 in
theorem insert_end (g cap vb : Nat) (nm : ByteArray) (x y : Int) (L : List Ent) (w : World) (h : Tab w g cap L) (hc : L.length + 1 ≤ cap) (hcap : cap ≤ 2000)
    (hv : w.heap[vb]? = some (.cells #[.string nm, .int .i64 x, .int .i64 y] 26 (0, 0))) :
    Calls Tryd.prog 41 #[.slice (some ⟨g, 0, none⟩) L.length cap, .int .i64 L.length, .slice (some ⟨vb, 0, none⟩) 1 1] w fun e w' =>
      e = .returned (.slice (some ⟨g, 0, none⟩) (L.length + 1) cap) ∧ Tab w' g cap (L ++ [(nm, x, y)]) ∧ Below g w w' := by
  obtain ⟨i0, hi0, hz0, hz1, hz2⟩ := info_parts op_info
  obtain ⟨cur, h1, h2, h3, h4⟩ := h
  obtain ⟨n, hn⟩ : ∃ n, n = L.length := ⟨_, rfl⟩
  rw [← hn] at hc h3 h4 ⊢
  have HN := Lib.hid hn
  clear hn
  have H1 := Lib.hid h1
  have H2 := Lib.hid h2
  have H4 := Lib.hid h4
  have HV := Lib.hid hv
  clear h1 h2 h4 hv
  have s2 : Hid (0 < 1 → ∃ ad : Addr, (some ⟨vb, 0, none⟩ : Option Addr) = some ad ∧ ∀ j v, [Value.string nm, Value.int .i64 x, Value.int .i64 y][j]? = some v → w.cell? (ad.add j) = some v) := by
    intro _
    refine ⟨_, rfl, fun j v hj => ?_⟩
    rw [add_plain, Nat.zero_add]
    simp only [World.cell?, HV.out]
    simpa using hj
  go_enter Tryd.func41, Tryd.ntmps41
  go_wp2_with (at_builtin; refine wpList_append_tab rfl (.tmp 23) (.tmp 24) 23 rfl 26 i0 3 (by decide) Tryd.underlying23 hi0 hz1 g n cap rfl cur 26 H1.out (some ⟨vb, 0, none⟩) 1 1 rfl [.string nm, .int .i64 x, .int .i64 y] rfl s2.out rfl (by omega) H2.out (by intro v hv; simp at hv; rcases hv with rfl | rfl | rfl <;> rfl) g w (Below.refl _ _) (Nat.le_refl _) ?_; intro w1 hg1 hb1)
  go_ret
  refine ⟨rfl, ⟨_, hg1.out, ?_, ?_, ?_⟩, hb1.out⟩
  · rw [length_splice _ _ _ (by have := H2.out; simp; omega)]
    exact H2.out
  · simp; have := HN.out; omega
  · have hcur := H2.out
    have hnn := HN.out
    rw [List.length_append, ← hnn, cellsOf_append, ← H4.out]
    unfold splice
    simp only [List.length_cons, List.length_nil]
    rw [← List.append_assoc, List.take_append_of_le_length (by simp; omega), List.take_of_length_le (by simp; omega)]
    rfl

set_option maxHeartbeats 2000000 in
set_option maxRecDepth 100000 in
theorem insert_shift (g cap vb i : Nat) (nm : ByteArray) (x y : Int) (L : List Ent) (w : World) (h : Tab w g cap L) (hi : i < L.length) (hc : L.length + 1 ≤ cap) (hcap : cap ≤ 2000) (hne : vb ≠ g)
    (hv : w.heap[vb]? = some (.cells #[.string nm, .int .i64 x, .int .i64 y] 26 (0, 0))) :
    Calls Tryd.prog 41 #[.slice (some ⟨g, 0, none⟩) L.length cap, .int .i64 i, .slice (some ⟨vb, 0, none⟩) 1 1] w fun e w' =>
      e = .returned (.slice (some ⟨g, 0, none⟩) (L.length + 1) cap) ∧ Tab w' g cap (L.take i ++ (nm, x, y) :: L.drop i) ∧ Below g w w' := by
  obtain ⟨i0, hi0, hz0, hz1, hz2⟩ := info_parts op_info
  obtain ⟨cur, h1, h2, h3, h4⟩ := h
  obtain ⟨n, hn⟩ : ∃ n, n = L.length := ⟨_, rfl⟩
  rw [← hn] at hi hc h3 h4 ⊢
  have HN := Lib.hid hn
  clear hn
  have H1 := Lib.hid h1
  have H2 := Lib.hid h2
  have H4 := Lib.hid h4
  have HV := Lib.hid hv
  clear h1 h2 h4 hv
  have hin : ((i : Int) == (n : Int)) = false := by rw [beq_eq_false_iff_ne]; omega
  have hci : ¬ cap = i := by omega
  have hci1 : ¬ cap = i + 1 := by omega
  have hov : ∀ lb cb, (callFunc 55 #[.slice (some ⟨vb, 0, none⟩) 1 1, .slice (some ⟨g, (i + 1) * 3, none⟩) lb cb]).run Tryd.prog w = .ok (.value (.bool false)) w := fun lb cb => by
    rw [run_callFunc_extern Tryd.func55 (by kernel_rfl) (by kernel_rfl) (by kernel_rfl) (e := Extern.SlicesOverlaps.overlaps #[23, 23] #[4]) (by kernel_rfl),
      Lib.run_overlaps_apart w 23 4 26 Tryd.underlying23 3 Tryd.sizeOf26 ⟨vb, 0, none⟩ ⟨g, (i + 1) * 3, none⟩ 1 1 lb cb hne 26 26 3 (cap * 3)
        (by simp [World.shape?, HV.out]) (by simp [World.shape?, H1.out, H2.out]) (by omega) (frozen_of_cells HV.out _) (frozen_of_cells HV.out _)]
    rfl
  obtain ⟨cs, hcs⟩ : ∃ cs, cs = cellsOf (L.drop i) := ⟨_, rfl⟩
  have s1 : Hid (cs.length = (n - i) * 3) := by
    show cs.length = _
    rw [hcs, cellsOf_length, List.length_drop, HN.out]
  have s2 : Hid (0 < cs.length → ∃ ad : Addr, (some ⟨g, i * 3, none⟩ : Option Addr) = some ad ∧ ∀ j v, cs[j]? = some v → w.drew.cell? (ad.add j) = some v) := by
    intro _
    refine ⟨_, rfl, fun j v hv => ?_⟩
    have hj : j < (n - i) * 3 := by
      have := (List.getElem?_eq_some_iff.1 hv).1
      have := s1.out
      omega
    rw [hcs, ← cellsOf_drop, List.getElem?_drop, ← H4.out, List.getElem?_take_of_lt (by omega)] at hv
    rw [add_plain]
    show w.cell? _ = _
    rw [cell_of_cells H1.out]
    exact hv
  have s3 : Hid (∀ v ∈ cs, v.oneCell' = true) := by rw [hcs]; exact cellsOf_one _
  have s4 : Hid (w.drew.heap[g]? = some (.cells cur.toArray 26 (0, 0))) := H1.out
  have s5 : Hid (Below g w w.drew) := (Below.refl g w).drew
  have s6 : Hid (cs.length = Nat.min (n + 1 - i) (n + 1 - (i + 1)) * 3) := by
    show cs.length = _
    rw [s1.out]
    simp only [Nat.min_def]
    split <;> omega
  have HCS := Lib.hid hcs
  clear hcs
  have hw1 : IntKind.i64.wrap ((i : Int) + 1) = (i : Int) + 1 := by rw [IntKind.wrap_i64]; omega
  have hp0 : (0 : Int) ≤ (i : Int) + 1 := by omega
  have hp1 : (i : Int) + 1 ≤ (n : Int) + 1 := by omega
  have hp2 : ((i : Int) + 1).toNat = i + 1 := by omega
  have hp3 : (i : Int) ≤ (n : Int) + 1 := by omega
  have hp4 : i ≤ n + 1 := by omega
  go_enter Tryd.func41, Tryd.ntmps41
  go_wp2_with (simp only [hov])
  go_region_law (refine step_copy_tab rfl (.tmp 73) (.tmp 76) 23 23 rfl 26 Tryd.underlying23 3 (by decide) (by rw [hi0]; simp [hz1]) (some ⟨g, (i + 1) * 3, none⟩) (some ⟨g, i * 3, none⟩) (n + 1 - (i + 1)) (cap - (i + 1)) (n + 1 - i) (cap - i) (by simp [Act.eval, Act.put]) (by simp [Act.eval, Act.put]) g ((i + 1) * 3) cur 26 s4.out cs s6.out (fun h => ⟨rfl, s2.out h⟩) (by have := s1.out; have := H2.out; omega) s3.out g w s5.out (Nat.le_refl _) ?_; intro v1 w1 hg1 hb1 ho1)
  have hlen1 : Hid ((splice cur ((i + 1) * 3) cs).length = cap * 3) := by
    show (splice cur ((i + 1) * 3) cs).length = _
    rw [length_splice _ _ _ (by have := s1.out; have := H2.out; omega)]
    exact H2.out
  have hvb : Hid (w1.heap[vb]? = some (.cells #[.string nm, .int .i64 x, .int .i64 y] 26 (0, 0))) := (ho1.out vb hne).trans HV.out
  have t1 : Hid (∃ ad : Addr, (some ⟨vb, 0, none⟩ : Option Addr) = some ad ∧ ∀ j v, [Value.string nm, Value.int .i64 x, Value.int .i64 y][j]? = some v → w1.cell? (ad.add j) = some v) := by
    refine ⟨_, rfl, fun j v hj => ?_⟩
    rw [add_plain, Nat.zero_add]
    simp only [World.cell?, hvb.out]
    simpa using hj
  have t2 : Hid ([Value.string nm, Value.int .i64 x, Value.int .i64 y].length = Nat.min 1 (n + 1 - i) * 3) := by
    show [Value.string nm, Value.int .i64 x, Value.int .i64 y].length = _
    simp only [List.length_cons, List.length_nil, Nat.min_def]
    split <;> omega
  go_wp2_with (refine wpList_copy_tab rfl (.tmp 80) (.tmp 81) 23 23 rfl 26 Tryd.underlying23 3 (by decide) (by rw [hi0]; simp [hz1]) (some ⟨g, i * 3, none⟩) (some ⟨vb, 0, none⟩) (n + 1 - i) (cap - i) 1 1 rfl rfl g (i * 3) (splice cur ((i + 1) * 3) cs) 26 hg1.out [.string nm, .int .i64 x, .int .i64 y] t2.out (fun _ => ⟨rfl, t1.out⟩) (by have := hlen1.out; simp; omega) (by intro v hv; simp at hv; rcases hv with rfl | rfl | rfl <;> rfl) g w hb1.out (Nat.le_refl _) ?_; intro v2 w2 hg2 hb2 ho2)
  go_ret
  refine ⟨rfl, ⟨_, hg2.out, ?_, ?_, ?_⟩, hb2.out⟩
  · rw [length_splice _ _ _ (by have := hlen1.out; simp; omega)]
    exact hlen1.out
  · simp; have := HN.out; omega
  · have hcur := H2.out
    have hnn := HN.out
    have hcl := s1.out
    have e0 : (L.take i ++ (nm, x, y) :: L.drop i).length = n + 1 := by simp; omega
    have e1 : (splice cur ((i + 1) * 3) cs).take (i * 3) = cellsOf (L.take i) := by
      unfold splice
      rw [List.take_append_of_le_length (by simp; omega), List.take_take, Nat.min_eq_left (by omega), ← cellsOf_take, ← H4.out, List.take_take, Nat.min_eq_left (by omega)]
    have e2 : ((splice cur ((i + 1) * 3) cs).drop (i * 3 + 3)).take ((n - i) * 3) = cs := by
      unfold splice
      rw [List.drop_append_of_le_length (by simp; omega), List.drop_of_length_le (by simp; omega), List.nil_append, List.take_append_of_le_length (by omega), List.take_of_length_le (by omega)]
    rw [e0, cellsOf_append]
    show (splice (splice cur ((i + 1) * 3) cs) (i * 3) [Value.string nm, Value.int .i64 x, Value.int .i64 y]).take ((n + 1) * 3) = cellsOf (L.take i) ++ (Value.string nm :: Value.int .i64 x :: Value.int .i64 y :: cellsOf (L.drop i))
    rw [← HCS.out]
    rw [show splice (splice cur ((i + 1) * 3) cs) (i * 3) [Value.string nm, Value.int .i64 x, Value.int .i64 y] = (splice cur ((i + 1) * 3) cs).take (i * 3) ++ ([Value.string nm, Value.int .i64 x, Value.int .i64 y] ++ (splice cur ((i + 1) * 3) cs).drop (i * 3 + 3)) from rfl]
    rw [e1, List.take_append, List.take_of_length_le (by rw [cellsOf_length]; simp; omega)]
    congr 1
    rw [cellsOf_length, List.length_take, Nat.min_eq_left (by omega), show (n + 1) * 3 - i * 3 = (n - i) * 3 + 1 + 1 + 1 from by omega]
    show Value.string nm :: Value.int .i64 x :: Value.int .i64 y :: ((splice cur ((i + 1) * 3) cs).drop (i * 3 + 3)).take ((n - i) * 3) = _
    rw [e2]

end Go.Proofs.YtgbfkchjcjdnnaaDoor
