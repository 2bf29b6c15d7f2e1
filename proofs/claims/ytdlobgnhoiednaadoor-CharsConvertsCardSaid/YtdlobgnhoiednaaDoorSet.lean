/-
  Set of package chars returns the table in which the character is mapped as asked, for any slice of at most 1,000 pairs and any integers.
-/
import Derived.Test.YtdlobgnhoiednaaDoorInsert
import Derived.Test.YtdlobgnhoiednaaDoorConvert
import Derived.Laws.MakeOwn
namespace Go.Proofs.YtdlobgnhoiednaaDoor
set_option linter.unusedVariables false
set_option linter.unusedSimpArgs false
open Go.RowKit

/-- The table in which a is mapped to b. -/
def setP (L : List (Int × Int)) (a b : Int) : List (Int × Int) := (L.filter fun p => decide (p.1 < a)) ++ ((if a = b then [] else [(a, b)]) ++ L.filter fun p => decide (a < p.1))
def setOk (L : List (Int × Int)) (a b : Int) : Bool := goodB L && Ch.isCh a && Ch.isCh b

theorem mem_fs {L : List (Int × Int)} {p : Int × Int} {i k : Nat} (h : p ∈ (L.drop i).take k) : ∃ j, i ≤ j ∧ j < i + k ∧ j < L.length ∧ p = L.getD j (0, 0) := by
  obtain ⟨j, hj, rfl⟩ := List.getElem_of_mem h
  simp at hj
  refine ⟨i + j, by omega, by omega, by omega, ?_⟩
  rw [getD_at (by omega)]
  simp
theorem low_part {L : List (Int × Int)} {a : Int} {i : Nat} (h : IsPos L a i) : (L.filter fun p => decide (p.1 < a)) = L.take i := by
  rw [← List.take_append_drop i L, List.filter_append, List.take_append_drop]
  have e1 : ((L.take i).filter fun p => decide (p.1 < a)) = L.take i := by
    rw [List.filter_eq_self]
    intro p hp
    obtain ⟨j, _, h1, h2, rfl⟩ := mem_fs (i := 0) (k := i) (by simpa using hp)
    simp only [decide_eq_true_eq]
    exact h.2.1 j (by omega)
  have e2 : ((L.drop i).filter fun p => decide (p.1 < a)) = [] := by
    rw [List.filter_eq_nil_iff]
    intro p hp
    have hp' : p ∈ (L.drop i).take L.length := by rw [List.take_of_length_le (by rw [List.length_drop]; omega)]; exact hp
    obtain ⟨j, h0, h1, h2, rfl⟩ := mem_fs hp'
    have := h.2.2 j h0 h2
    unfold fs at this
    simp only [decide_eq_true_eq]
    omega
  rw [e1, e2, List.append_nil]
theorem high_part {L : List (Int × Int)} {a : Int} {i k : Nat} (h : IsPos L a i) (hk : k = if hitB L a i then i + 1 else i) (hs : Sorted L) : (L.filter fun p => decide (a < p.1)) = L.drop k := by
  rw [← List.take_append_drop k L, List.filter_append, List.take_append_drop]
  have e1 : ((L.take k).filter fun p => decide (a < p.1)) = [] := by
    rw [List.filter_eq_nil_iff]
    intro p hp
    obtain ⟨j, _, h1, h2, rfl⟩ := mem_fs (i := 0) (k := k) (by simpa using hp)
    simp only [decide_eq_true_eq]
    by_cases hji : j < i
    · have := h.2.1 j hji
      unfold fs at this
      omega
    · cases hh : hitB L a i
      · rw [hh] at hk; simp at hk; omega
      · rw [hh] at hk
        simp at hk
        have hyes : i < L.length ∧ fs L i = a := of_decide_eq_true hh
        obtain rfl : j = i := by omega
        have := hyes.2
        unfold fs at this
        omega
  have e2 : ((L.drop k).filter fun p => decide (a < p.1)) = L.drop k := by
    rw [List.filter_eq_self]
    intro p hp
    have hp' : p ∈ (L.drop k).take L.length := by rw [List.take_of_length_le (by rw [List.length_drop]; omega)]; exact hp
    obtain ⟨j, h0, h1, h2, rfl⟩ := mem_fs hp'
    simp only [decide_eq_true_eq]
    show a < fs L j
    cases hh : hitB L a i
    · rw [hh] at hk
      simp at hk
      have hno : ¬ (i < L.length ∧ fs L i = a) := of_decide_eq_false hh
      have h3 := h.2.2 i (Nat.le_refl _) (by omega)
      by_cases hij : j = i
      · subst hij
        have : fs L j ≠ a := fun e => hno ⟨h2, e⟩
        omega
      · have := hs i j (by omega) h2
        omega
    · rw [hh] at hk
      simp at hk
      have hyes : i < L.length ∧ fs L i = a := of_decide_eq_true hh
      have := hs i j (by omega) h2
      omega
  rw [e1, e2, List.nil_append]
theorem setP_eq {L : List (Int × Int)} {a b : Int} {i : Nat} (h : IsPos L a i) (hs : Sorted L) :
    setP L a b = L.take i ++ ((if a = b then [] else [(a, b)]) ++ L.drop (if hitB L a i then i + 1 else i)) := by
  unfold setP
  rw [low_part h, high_part h rfl hs]

theorem erase_insert {L : List (Int × Int)} {i : Nat} (h : i < L.length) (p : Int × Int) : (L.eraseIdx i).take i ++ p :: (L.eraseIdx i).drop i = L.take i ++ ([p] ++ L.drop (i + 1)) := by
  have hl : (L.take i).length = i := by rw [List.length_take]; omega
  rw [List.eraseIdx_eq_take_drop_succ, List.take_append_of_le_length (by omega), List.take_take, Nat.min_self, List.drop_append_of_le_length (by omega), List.drop_of_length_le (by omega)]
  rfl

theorem insert_any (g cap vb i : Nat) (x y : Int) (L : List (Int × Int)) (w : World) (h : Tab w g cap L) (hi : i ≤ L.length) (hc : L.length + 1 ≤ cap) (hcap : cap ≤ 2000) (hne : vb ≠ g)
    (hv : w.heap[vb]? = some (.cells #[.int .i64 x, .int .i64 y] 30 (0, 0))) :
    Calls Tryd.prog 33 #[.slice (some ⟨g, 0, none⟩) L.length cap, .int .i64 i, .slice (some ⟨vb, 0, none⟩) 1 1] w fun e w' =>
      e = .returned (.slice (some ⟨g, 0, none⟩) (L.length + 1) cap) ∧ Tab w' g cap (L.take i ++ (x, y) :: L.drop i) ∧ Below g w w' := by
  by_cases h0 : i = L.length
  · subst h0
    have e : L.take L.length ++ (x, y) :: L.drop L.length = L ++ [(x, y)] := by simp
    rw [e]
    exact insert_end g cap vb x y L w h hc hcap hv
  · exact insert_shift g cap vb i x y L w h (by omega) hc hcap hne hv

theorem setOk_no {L : List (Int × Int)} {a b : Int} (h : setOk L a b = false) : goodB L = false ∨ (goodB L = true ∧ Ch.isCh a = false) ∨ (goodB L = true ∧ Ch.isCh a = true ∧ Ch.isCh b = false) := by
  unfold setOk at h
  cases h1 : goodB L <;> cases h2 : Ch.isCh a <;> cases h3 : Ch.isCh b <;> simp [h1, h2, h3] at h ⊢
theorem setOk_yes {L : List (Int × Int)} {a b : Int} (h : setOk L a b = true) : goodB L = true ∧ Ch.isCh a = true ∧ Ch.isCh b = true := by
  unfold setOk at h
  simp only [Bool.and_eq_true] at h
  exact ⟨h.1.1, h.1.2, h.2⟩

set_option maxHeartbeats 1000000 in
theorem set_bad (A : Option Addr) (n cap : Nat) (a b : Int) (L : List (Int × Int)) (w : World) (hn : n ≤ 1000) (h : PairsIn w w.heap.size A n L) (hok : setOk L a b = false) :
    Calls Tryd.prog 15 #[.slice A n cap, .int .i64 a, .int .i64 b] w fun e w' => e = .returned (.tuple #[.slice none 0 0, .int .i64 1]) ∧ Below w.heap.size w w' := by
  have HP := Lib.hid h
  clear h
  rcases setOk_no hok with hg | ⟨hg, h1⟩ | ⟨hg, h1, h2⟩
  · clear hok
    go_enter Tryd.func15, Tryd.ntmps15
    go_wp2_with fail
    refine (valid_any A n cap L _ hn HP.out).mono ?_
    rintro e w1 ⟨rfl, hb1⟩
    go_wp2_with fail
    go_ret2
    exact ⟨rfl, hb1⟩
  · clear hok
    go_enter Tryd.func15, Tryd.ntmps15
    go_wp2_with fail
    refine (valid_any A n cap L _ hn HP.out).mono ?_
    rintro e w1 ⟨rfl, hb1⟩
    go_wp2_with fail
    refine (isChar_any _ _).mono ?_
    rintro e w2 ⟨rfl, rfl⟩
    go_wp2_with fail
    go_ret2
    exact ⟨rfl, hb1⟩
  · clear hok
    go_enter Tryd.func15, Tryd.ntmps15
    go_wp2_with fail
    refine (valid_any A n cap L _ hn HP.out).mono ?_
    rintro e w1 ⟨rfl, hb1⟩
    go_wp2_with fail
    refine (isChar_any _ _).mono ?_
    rintro e w2 ⟨rfl, rfl⟩
    go_wp2_with fail
    refine (isChar_any _ _).mono ?_
    rintro e w2 ⟨rfl, rfl⟩
    go_wp2_with fail
    go_ret2
    exact ⟨rfl, hb1⟩

theorem run_make_rowN {P : Program} (t e : TypeId) (i : TypeInfo) (z : Value) (ht : P.underlying t = some (.slice e)) (hi : P.info? e = some i) (hz : i.zero = some z)
    (kl kc : IntKind) (n c : Nat) (hnc : n ≤ c) (hbytes : i.bytes * c ≤ 281474976710656) (h63 : c ≤ 9223372036854775807) (w : World) :
    (Instr.makeSlice t (.int kl (n : Int)) (.int kc (c : Int))).run P w = .ok (.slice (some ⟨w.heap.size, 0, none⟩) n c) (w.alloc (.cells (madeCells z.cells (c * i.size)) e)) := by
  have hb : (i.bytes : Int) * (c : Int) ≤ 281474976710656 := by
    have h : ((i.bytes * c : Nat) : Int) ≤ 281474976710656 := by omega
    rwa [Int.natCast_mul] at h
  have hr := run_make (P := P) w t e i z ht hi hz kl kc n c (by omega) (by omega) hb (by omega)
  simp only [Int.toNat_natCast] at hr
  exact hr

/-- What Set leaves where it does not fail. -/
def SetEnd (w w' : World) (M : List (Int × Int)) (c : Nat) (e : Ending) : Prop :=
  ∃ g, e = .returned (.tuple #[.slice (some ⟨g, 0, none⟩) M.length c, .int .i64 0]) ∧ Tab w' g c M ∧ w.heap.size ≤ g

set_option maxHeartbeats 2000000 in
theorem set_good (A : Option Addr) (cap : Nat) (a b : Int) (L : List (Int × Int)) (w : World) (hn : L.length ≤ 1000) (h : PairsIn w w.heap.size A L.length L) (hok : setOk L a b = true) :
    Calls Tryd.prog 15 #[.slice A L.length cap, .int .i64 a, .int .i64 b] w fun e w' => SetEnd w w' (setP L a b) (L.length + 1) e ∧ Below w.heap.size w w' := by
  obtain ⟨i0, hi0, hz0, hz1, hz2⟩ := info_parts pair_info
  obtain ⟨hg, h1, h2⟩ := setOk_yes hok
  clear hok
  have HP := Lib.hid h
  clear h
  have HS := Lib.hid (goodB_iff.1 hg).sorted
  obtain ⟨cur0, hcur0⟩ : ∃ cur0 : List Value, cur0.toArray = madeCells (Value.agg #[.int .i64 0, .int .i64 0]).cells ((L.length + 1) * i0.size) := ⟨_, Array.toArray_toList⟩
  have hmk : ∀ W : World, (Instr.makeSlice 31 (.int .i64 (L.length : Int)) (.int .i64 ((L.length : Int) + 1))).run Tryd.prog W = .ok (.slice (some ⟨W.heap.size, 0, none⟩) L.length (L.length + 1)) (W.alloc (.cells cur0.toArray 30)) := fun W => by
    rw [hcur0]
    exact run_make_rowN 31 30 i0 _ Tryd.underlying31 hi0 hz0 .i64 .i64 L.length (L.length + 1) (by omega) (by rw [hz2]; omega) (by omega) W
  have hc0 : Hid (cur0.length = (L.length + 1) * 2) := by
    show cur0.length = _
    have : cur0.toArray.size = (L.length + 1) * 2 := by rw [hcur0, hz1]; simp [madeCells]
    simpa using this
  clear hcur0
  go_enter Tryd.func15, Tryd.ntmps15
  go_wp2_with fail
  refine (valid_any A L.length cap L _ hn HP.out).mono ?_
  rintro e w1 ⟨rfl, hb1⟩
  go_wp2_with fail
  refine (isChar_any _ _).mono ?_
  rintro e w2 ⟨rfl, rfl⟩
  go_wp2_with fail
  refine (isChar_any _ _).mono ?_
  rintro e w2 ⟨rfl, rfl⟩
  go_wp2_with fail
  refine (position_any A L.length cap a L _ hn ((HP.out.below hb1).more hb1.size) HS.out).mono ?_
  rintro e w2 ⟨⟨i, hi, rfl⟩, hb2⟩
  have HI := Lib.hid hi
  have HB := Lib.hid (hb1.trans (hb2.mono hb1.size))
  clear hb1 hb2 hi
  have hheap : Hid ((w2.alloc (.cells cur0.toArray 30)).heap[w2.heap.size]? = some (.cells cur0.toArray 30 (0, 0))) := heap_alloc_new w2 _
  have hbel : Hid (Below w2.heap.size w2 (w2.alloc (.cells cur0.toArray 30))) := (Below.refl _ _).alloc (Nat.le_refl _) _
  have hcl : Hid ((cellsOf L).length = Nat.min L.length L.length * 2) := by
    show (cellsOf L).length = _
    rw [cellsOf_length]
    exact congrArg (· * 2) (Nat.min_self _).symm
  have hsrc : Hid (0 < (cellsOf L).length → ∃ ad, A = some ad ∧ ∀ j v, (cellsOf L)[j]? = some v → (w2.alloc (.cells cur0.toArray 30)).cell? (ad.add j) = some v) := by
    intro hpos
    obtain ⟨b0, off, rfl, hb0, hcell⟩ := HP.out.cells (by rw [cellsOf_length] at hpos; omega)
    refine ⟨_, rfl, fun j v hv => ?_⟩
    rw [add_plain, World.cell?_alloc_lt _ _ _ (by have := HB.out.size; show b0 < _; omega)]
    exact (HB.out.cell hb0).trans (PairsIn.cell rfl hcell j v hv)
  have hpe := Lib.hid (setP_eq (b := b) HI.out HS.out)
  have hsz := Lib.hid HB.out.size
  have hib : i ≤ L.length := HI.out.1
  by_cases hab : a = b
  · have hb1 : (a != b) = false := by rw [bne_eq_false_iff_eq]; exact hab
    have HAB := Lib.hid hab
    clear hab
    cases hh : hitB L a i
    · have HH := Lib.hid hh
      go_wp2_with (refine wpList_copy_tab rfl (.tmp 35) (.tmp 36) 31 31 rfl 30 Tryd.underlying31 2 (by decide) (by rw [hi0]; simp [hz1]) (some ⟨w2.heap.size, 0, none⟩) A L.length (L.length + 1) L.length cap rfl rfl w2.heap.size 0 cur0 30 hheap.out (cellsOf L) hcl.out (fun h => ⟨rfl, hsrc.out h⟩) (by have := hc0.out; rw [cellsOf_length]; omega) (cellsOf_one _) w2.heap.size w2 hbel.out (Nat.le_refl _) ?_; intro v3 w3 hg3 hb3 ho3)
      have ht3 : Hid (Tab w3 w2.heap.size (L.length + 1) L) := by
        refine ⟨_, hg3.out, ?_, by omega, ?_⟩
        · rw [length_splice _ _ _ (by have := hc0.out; rw [cellsOf_length]; omega)]
          exact hc0.out
        · unfold splice
          rw [List.take_zero, List.nil_append, List.take_append_of_le_length (by rw [cellsOf_length]; omega), List.take_of_length_le (by rw [cellsOf_length]; omega)]
      go_ret2
      have hM : setP L a b = L := by
        rw [hpe.out, if_pos HAB.out, HH.out]
        simp
      rw [hM]
      exact ⟨⟨w2.heap.size, rfl, ht3.out, hsz.out⟩, HB.out.trans (hb3.out.mono hsz.out)⟩
    · have hil : Hid (i < L.length) := (of_decide_eq_true hh : i < L.length ∧ fs L i = a).1
      have HH := Lib.hid hh
      go_wp2_with (refine wpList_copy_tab rfl (.tmp 35) (.tmp 36) 31 31 rfl 30 Tryd.underlying31 2 (by decide) (by rw [hi0]; simp [hz1]) (some ⟨w2.heap.size, 0, none⟩) A L.length (L.length + 1) L.length cap rfl rfl w2.heap.size 0 cur0 30 hheap.out (cellsOf L) hcl.out (fun h => ⟨rfl, hsrc.out h⟩) (by have := hc0.out; rw [cellsOf_length]; omega) (cellsOf_one _) w2.heap.size w2 hbel.out (Nat.le_refl _) ?_; intro v3 w3 hg3 hb3 ho3)
      have ht3 : Hid (Tab w3 w2.heap.size (L.length + 1) L) := by
        refine ⟨_, hg3.out, ?_, by omega, ?_⟩
        · rw [length_splice _ _ _ (by have := hc0.out; rw [cellsOf_length]; omega)]
          exact hc0.out
        · unfold splice
          rw [List.take_zero, List.nil_append, List.take_append_of_le_length (by rw [cellsOf_length]; omega), List.take_of_length_le (by rw [cellsOf_length]; omega)]
      refine (delete_tab w2.heap.size (L.length + 1) i L w3 ht3.out hil.out (Nat.le_refl _) (by omega)).mono ?_
      rintro e w4 ⟨rfl, ht4, hb4⟩
      have HT := Lib.hid ht4
      have HB4 := Lib.hid hb4
      clear ht4 hb4
      go_wp2_with fail
      go_ret2
      have hM : setP L a b = L.eraseIdx i := by
        rw [hpe.out, if_pos HAB.out, HH.out, List.eraseIdx_eq_take_drop_succ]
        simp
      have hlen : (L.eraseIdx i).length = L.length - 1 := List.length_eraseIdx_of_lt hil.out
      rw [hM]
      exact ⟨⟨w2.heap.size, by rw [hlen]; rfl, HT.out, hsz.out⟩, HB.out.trans ((hb3.out.trans HB4.out).mono hsz.out)⟩
  · have hb1 : (a != b) = true := by rw [bne_iff_ne]; exact hab
    have HAB := Lib.hid hab
    clear hab
    cases hh : hitB L a i
    · have HH := Lib.hid hh
      go_wp2_with (refine wpList_copy_tab rfl (.tmp 35) (.tmp 36) 31 31 rfl 30 Tryd.underlying31 2 (by decide) (by rw [hi0]; simp [hz1]) (some ⟨w2.heap.size, 0, none⟩) A L.length (L.length + 1) L.length cap rfl rfl w2.heap.size 0 cur0 30 hheap.out (cellsOf L) hcl.out (fun h => ⟨rfl, hsrc.out h⟩) (by have := hc0.out; rw [cellsOf_length]; omega) (cellsOf_one _) w2.heap.size w2 hbel.out (Nat.le_refl _) ?_; intro v3 w3 hg3 hb3 ho3)
      have ht3 : Hid (Tab w3 w2.heap.size (L.length + 1) L) := by
        refine ⟨_, hg3.out, ?_, by omega, ?_⟩
        · rw [length_splice _ _ _ (by have := hc0.out; rw [cellsOf_length]; omega)]
          exact hc0.out
        · unfold splice
          rw [List.take_zero, List.nil_append, List.take_append_of_le_length (by rw [cellsOf_length]; omega), List.take_of_length_le (by rw [cellsOf_length]; omega)]
      have ht5 : Hid (Tab (w3.alloc (.cells #[.int .i64 a, .int .i64 b] 30)) w2.heap.size (L.length + 1) L) := ht3.out.keep (Below.heap_alloc _ _ _ ht3.out.lt)
      refine (insert_any w2.heap.size (L.length + 1) w3.heap.size i a b L _ ht5.out hib (Nat.le_refl _) (by omega) (by have := ht3.out.lt; omega) (heap_alloc_new _ _)).mono ?_
      rintro e w6 ⟨rfl, ht6, hb6⟩
      have HT := Lib.hid ht6
      have HB6 := Lib.hid hb6
      clear ht6 hb6
      go_wp2_with fail
      go_ret2
      have hM : setP L a b = L.take i ++ (a, b) :: L.drop i := by
        rw [hpe.out, if_neg HAB.out, HH.out]
        simp
      have hlen : (L.take i ++ (a, b) :: L.drop i).length = L.length + 1 := by simp; omega
      rw [hM]
      exact ⟨⟨w2.heap.size, by rw [hlen]; rfl, HT.out, hsz.out⟩, HB.out.trans ((hb3.out.trans (((Below.refl _ _).alloc (Nat.le_of_lt ht3.out.lt) _).trans HB6.out)).mono hsz.out)⟩
    · have hil : Hid (i < L.length) := (of_decide_eq_true hh : i < L.length ∧ fs L i = a).1
      have HH := Lib.hid hh
      go_wp2_with (refine wpList_copy_tab rfl (.tmp 35) (.tmp 36) 31 31 rfl 30 Tryd.underlying31 2 (by decide) (by rw [hi0]; simp [hz1]) (some ⟨w2.heap.size, 0, none⟩) A L.length (L.length + 1) L.length cap rfl rfl w2.heap.size 0 cur0 30 hheap.out (cellsOf L) hcl.out (fun h => ⟨rfl, hsrc.out h⟩) (by have := hc0.out; rw [cellsOf_length]; omega) (cellsOf_one _) w2.heap.size w2 hbel.out (Nat.le_refl _) ?_; intro v3 w3 hg3 hb3 ho3)
      have ht3 : Hid (Tab w3 w2.heap.size (L.length + 1) L) := by
        refine ⟨_, hg3.out, ?_, by omega, ?_⟩
        · rw [length_splice _ _ _ (by have := hc0.out; rw [cellsOf_length]; omega)]
          exact hc0.out
        · unfold splice
          rw [List.take_zero, List.nil_append, List.take_append_of_le_length (by rw [cellsOf_length]; omega), List.take_of_length_le (by rw [cellsOf_length]; omega)]
      refine (delete_tab w2.heap.size (L.length + 1) i L w3 ht3.out hil.out (Nat.le_refl _) (by omega)).mono ?_
      rintro e w4 ⟨rfl, ht4, hb4⟩
      have HT := Lib.hid ht4
      have HB4 := Lib.hid hb4
      clear ht4 hb4
      go_wp2_with fail
      have hlen : (L.eraseIdx i).length = L.length - 1 := List.length_eraseIdx_of_lt hil.out
      have ht5 : Hid (Tab (w4.alloc (.cells #[.int .i64 a, .int .i64 b] 30)) w2.heap.size (L.length + 1) (L.eraseIdx i)) := HT.out.keep (Below.heap_alloc _ _ _ HT.out.lt)
      have hins := insert_any w2.heap.size (L.length + 1) w4.heap.size i a b (L.eraseIdx i) _ ht5.out (by rw [hlen]; have := hil.out; omega) (by rw [hlen]; omega) (by omega) (by have := HT.out.lt; omega) (heap_alloc_new _ _)
      rw [hlen] at hins
      refine hins.mono ?_
      clear hins
      rintro e w6 ⟨rfl, ht6, hb6⟩
      have HT6 := Lib.hid ht6
      have HB6 := Lib.hid hb6
      have HLEN := Lib.hid hlen
      clear ht6 hb6 hlen
      go_wp2_with fail
      go_ret2
      have hM : setP L a b = (L.eraseIdx i).take i ++ (a, b) :: (L.eraseIdx i).drop i := by
        rw [hpe.out, if_neg HAB.out, HH.out, erase_insert hil.out]
        rfl
      have hlen2 : ((L.eraseIdx i).take i ++ (a, b) :: (L.eraseIdx i).drop i).length = L.length - 1 + 1 := by simp [HLEN.out]; have := hil.out; omega
      rw [hM]
      exact ⟨⟨w2.heap.size, by rw [hlen2]; rfl, HT6.out, hsz.out⟩, HB.out.trans ((hb3.out.trans (HB4.out.trans (((Below.refl _ _).alloc (Nat.le_of_lt HT.out.lt) _).trans HB6.out))).mono hsz.out)⟩

end Go.Proofs.YtdlobgnhoiednaaDoor
