/-
  Set of package ops returns the table with the operator set, or the error that the chapter defines, for any slice, integers and name.
-/
import Derived.Test.YtgbfkchjcjdnnaaDoorMay7
import Derived.Laws.MakeOwn
namespace Go.Proofs.YtgbfkchjcjdnnaaDoor
set_option linter.unusedVariables false
set_option linter.unusedSimpArgs false
open Go.RowKit Q

theorem run_make_rowN {P : Program} (t e : TypeId) (i : TypeInfo) (z : Value) (ht : P.underlying t = some (.slice e)) (hi : P.info? e = some i) (hz : i.zero = some z)
    (kl kc : IntKind) (n c : Nat) (hnc : n ≤ c) (hbytes : i.bytes * c ≤ 281474976710656) (h63 : c ≤ 9223372036854775807) (w : World) :
    (Instr.makeSlice t (.int kl (n : Int)) (.int kc (c : Int))).run P w = .ok (.slice (some ⟨w.heap.size, 0, none⟩) n c) (w.alloc (.cells (madeCells z.cells (c * i.size)) e)) := by
  have hb : (i.bytes : Int) * (c : Int) ≤ 281474976710656 := by
    have h : ((i.bytes * c : Nat) : Int) ≤ 281474976710656 := by omega
    rwa [Int.natCast_mul] at h
  have hr := run_make (P := P) w t e i z ht hi hz kl kc n c (by omega) (by omega) hb (by omega)
  simp only [Int.toNat_natCast] at hr
  exact hr
theorem insert_any (g cap vb i : Nat) (nm : ByteArray) (x y : Int) (L : List Ent) (w : World) (h : Tab w g cap L) (hi : i ≤ L.length) (hc : L.length + 1 ≤ cap) (hcap : cap ≤ 2000) (hne : vb ≠ g)
    (hv : w.heap[vb]? = some (.cells #[.string nm, .int .i64 x, .int .i64 y] 26 (0, 0))) :
    Calls Tryd.prog 41 #[.slice (some ⟨g, 0, none⟩) L.length cap, .int .i64 i, .slice (some ⟨vb, 0, none⟩) 1 1] w fun e w' =>
      e = .returned (.slice (some ⟨g, 0, none⟩) (L.length + 1) cap) ∧ Tab w' g cap (L.take i ++ (nm, x, y) :: L.drop i) ∧ Below g w w' := by
  by_cases h0 : i = L.length
  · subst h0
    have e : L.take L.length ++ (nm, x, y) :: L.drop L.length = L ++ [(nm, x, y)] := by simp
    rw [e]
    exact insert_end g cap vb nm x y L w h hc hcap hv
  · exact insert_shift g cap vb i nm x y L w h (by omega) hc hcap hne hv
theorem erase_insert {L : List Ent} {i : Nat} (h : i < L.length) (p : Ent) : (L.eraseIdx i).take i ++ p :: (L.eraseIdx i).drop i = L.take i ++ p :: L.drop (i + 1) := by
  have hl : (L.take i).length = i := by rw [List.length_take]; omega
  rw [List.eraseIdx_eq_take_drop_succ, List.take_append_of_le_length (by omega), List.take_take, Nat.min_self, List.drop_append_of_le_length (by omega), List.drop_of_length_le (by omega)]
  rfl

theorem argB_no {L : List Ent} {p t : Int} {nm : ByteArray} (h : argB L p t nm = false) : goodB L = false ∨ (goodB L = true ∧ prB p = false) ∨ (goodB L = true ∧ prB p = true ∧ cls t = 0) ∨ (goodB L = true ∧ prB p = true ∧ cls t ≠ 0 ∧ ¬ nm.size ≤ 100) := by
  unfold argB at h
  cases h1 : goodB L <;> cases h2 : prB p <;> by_cases h3 : cls t = 0 <;> by_cases h4 : nm.size ≤ 100 <;> simp_all
theorem argB_yes {L : List Ent} {p t : Int} {nm : ByteArray} (h : argB L p t nm = true) : goodB L = true ∧ prB p = true ∧ cls t ≠ 0 ∧ nm.size ≤ 100 := by
  unfold argB at h
  simp only [Bool.and_eq_true, decide_eq_true_eq] at h
  exact ⟨h.1.1.1, h.1.1.2, h.1.2, h.2⟩

set_option maxHeartbeats 2000000 in
theorem set_arg (A : Option Addr) (n cap : Nat) (p t : Int) (nm : ByteArray) (L : List Ent) (w : World) (hT : Tabs w) (hm : n ≤ 9223372036854775807) (h : OpsIn w w.heap.size A n L) (hok : argB L p t nm = false) :
    Calls Tryd.prog 15 #[.slice A n cap, .int .i64 p, .int .i64 t, .string nm] w fun e w' => e = .returned (.tuple #[.slice none 0 0, .int .i64 1]) ∧ Below w.heap.size w w' := by
  have hC : ∀ W : World, Tabs W → Calls Tryd.prog 36 #[.int .i64 t] W fun e w' => e = .returned (.int .i64 (cls t)) ∧ W = w' := fun W h => class_any t W h
  have hV := valid_any A n cap L w hT hm h
  have hP : ∀ W : World, Calls Tryd.prog 35 #[.int .i64 p] W fun e w' => e = .returned (.bool (prB p)) ∧ W = w' := fun W => prio_any p W
  have hN : ∀ W : World, Calls Tryd.prog 37 #[.string nm] W fun e w' => e = .returned (.bool (decide (nm.size ≤ 100))) ∧ W = w' := fun W => name_any nm W
  have HT := Lib.hid hT
  rcases argB_no hok with h1 | ⟨h1, h2⟩ | ⟨h1, h2, h3⟩ | ⟨h1, h2, h3, h4⟩
  · rw [h1] at hV
    have HV := Lib.hid hV
    have HC := Lib.hid hC
    clear hV hC hP hN hT h hok h1
    go_enter Tryd.func15, Tryd.ntmps15
    go_wp2_with fail
    refine (HC.out _ HT.out).mono ?_
    rintro e w1 ⟨rfl, rfl⟩
    go_wp2_with fail
    refine HV.out.mono ?_
    rintro e w1 ⟨rfl, hb1⟩
    go_wp2_with fail
    go_ret2
    exact ⟨rfl, hb1⟩
  · rw [h1] at hV
    rw [h2] at hP
    have HV := Lib.hid hV
    have HC := Lib.hid hC
    have HP := Lib.hid hP
    clear hV hC hP hN hT h hok h1 h2
    go_enter Tryd.func15, Tryd.ntmps15
    go_wp2_with fail
    refine (HC.out _ HT.out).mono ?_
    rintro e w1 ⟨rfl, rfl⟩
    go_wp2_with fail
    refine HV.out.mono ?_
    rintro e w1 ⟨rfl, hb1⟩
    go_wp2_with fail
    refine (HP.out _).mono ?_
    rintro e w2 ⟨rfl, rfl⟩
    go_wp2_with fail
    go_ret2
    exact ⟨rfl, hb1⟩
  · rw [h1] at hV
    rw [h2] at hP
    rw [h3] at hC
    have HV := Lib.hid hV
    have HC := Lib.hid hC
    have HP := Lib.hid hP
    clear hV hC hP hN hT h hok h1 h2 h3
    go_enter Tryd.func15, Tryd.ntmps15
    go_wp2_with fail
    refine (HC.out _ HT.out).mono ?_
    rintro e w1 ⟨rfl, rfl⟩
    go_wp2_with fail
    refine HV.out.mono ?_
    rintro e w1 ⟨rfl, hb1⟩
    go_wp2_with fail
    refine (HP.out _).mono ?_
    rintro e w2 ⟨rfl, rfl⟩
    go_wp2_with fail
    go_ret2
    exact ⟨rfl, hb1⟩
  · rw [h1] at hV
    rw [h2] at hP
    obtain ⟨c, hc⟩ : ∃ c, c = cls t := ⟨_, rfl⟩
    rw [← hc] at hC h3
    rw [decide_eq_false h4] at hN
    have hcb : (c == 0) = false := by rw [beq_eq_false_iff_ne]; exact h3
    have HV := Lib.hid hV
    have HC := Lib.hid hC
    have HP := Lib.hid hP
    have HN := Lib.hid hN
    clear hV hC hP hN hT h hok h1 h2 h3 h4 hc
    go_enter Tryd.func15, Tryd.ntmps15
    go_wp2_with fail
    refine (HC.out _ HT.out).mono ?_
    rintro e w1 ⟨rfl, rfl⟩
    go_wp2_with fail
    refine HV.out.mono ?_
    rintro e w1 ⟨rfl, hb1⟩
    go_wp2_with fail
    refine (HP.out _).mono ?_
    rintro e w2 ⟨rfl, rfl⟩
    go_wp2_with fail
    refine (HN.out _).mono ?_
    rintro e w2 ⟨rfl, rfl⟩
    go_wp2_with fail
    go_ret2
    exact ⟨rfl, hb1⟩

set_option maxHeartbeats 2000000 in
theorem set_state (A : Option Addr) (n cap : Nat) (p t : Int) (nm : ByteArray) (L : List Ent) (w : World) (hT : Tabs w) (hm : n ≤ 9223372036854775807) (h : OpsIn w w.heap.size A n L) (hok : argB L p t nm = true) (hmay : mayB L p (cls t) nm = false) :
    Calls Tryd.prog 15 #[.slice A n cap, .int .i64 p, .int .i64 t, .string nm] w fun e w' => e = .returned (.tuple #[.slice none 0 0, .int .i64 5]) ∧ Below w.heap.size w w' := by
  have hC : ∀ W : World, Tabs W → Calls Tryd.prog 36 #[.int .i64 t] W fun e w' => e = .returned (.int .i64 (cls t)) ∧ W = w' := fun W h => class_any t W h
  have hV := valid_any A n cap L w hT hm h
  have hP : ∀ W : World, Calls Tryd.prog 35 #[.int .i64 p] W fun e w' => e = .returned (.bool (prB p)) ∧ W = w' := fun W => prio_any p W
  have hN : ∀ W : World, Calls Tryd.prog 37 #[.string nm] W fun e w' => e = .returned (.bool (decide (nm.size ≤ 100))) ∧ W = w' := fun W => name_any nm W
  have HT := Lib.hid hT
  obtain ⟨h1, h2, h3, h4⟩ := argB_yes hok
  have hn : n ≤ 100 := by have := (goodB_iff.1 h1).1; have := h.len; omega
  obtain ⟨c, hc⟩ : ∃ c, c = cls t := ⟨_, rfl⟩
  rw [h1] at hV
  rw [h2] at hP
  rw [← hc] at hC h3
  rw [decide_eq_true h4] at hN
  have hcb : (c == 0) = false := by rw [beq_eq_false_iff_ne]; exact h3
  have hM : ∀ W : World, Below w.heap.size w W → Calls Tryd.prog 38 #[.slice A n cap, .int .i64 p, .int .i64 c, .string nm] W fun e w' => e = .returned (.bool (mayB L p c nm)) ∧ Below W.heap.size W w' :=
    fun W hW => maySet_any A n cap p c nm L W (hT.below hW) h1 (h.on hW hW.size)
  have hF : ∀ W : World, Below w.heap.size w W → Calls Tryd.prog 39 #[.slice A n cap, .string nm, .int .i64 c] W fun e w' => PosEnd L nm c e ∧ Below W.heap.size W w' :=
    fun W hW => find_any A n cap nm c L W (hT.below hW) hn (h.on hW hW.size) (goodB_iff.1 h1).sorted
  rw [← hc] at hmay
  rw [hmay] at hM
  have HV := Lib.hid hV
  have HC := Lib.hid hC
  have HP := Lib.hid hP
  have HN := Lib.hid hN
  have HM := Lib.hid hM
  clear hV hC hP hN hM hF hT h hok h1 h2 h3 h4 hc hmay
  go_enter Tryd.func15, Tryd.ntmps15
  go_wp2_with fail
  refine (HC.out _ HT.out).mono ?_
  rintro e w1 ⟨rfl, rfl⟩
  go_wp2_with fail
  refine HV.out.mono ?_
  rintro e w1 ⟨rfl, hb1⟩
  go_wp2_with fail
  refine (HP.out _).mono ?_
  rintro e w2 ⟨rfl, rfl⟩
  go_wp2_with fail
  refine (HN.out _).mono ?_
  rintro e w2 ⟨rfl, rfl⟩
  go_wp2_with fail
  refine (HM.out _ hb1).mono ?_
  rintro e w2 ⟨rfl, hb2⟩
  have HB2 := Lib.hid (hb1.trans (hb2.mono hb1.size))
  clear hb1 hb2
  go_wp2_with fail
  go_ret2
  exact ⟨rfl, HB2.out⟩

set_option maxHeartbeats 2000000 in
theorem set_full (A : Option Addr) (n cap : Nat) (p t : Int) (nm : ByteArray) (L : List Ent) (w : World) (hT : Tabs w) (hm : n ≤ 9223372036854775807) (h : OpsIn w w.heap.size A n L) (hok : argB L p t nm = true) (hmay : mayB L p (cls t) nm = true) (hfull : fullB L p (cls t) nm = true) :
    Calls Tryd.prog 15 #[.slice A n cap, .int .i64 p, .int .i64 t, .string nm] w fun e w' => e = .returned (.tuple #[.slice none 0 0, .int .i64 13]) ∧ Below w.heap.size w w' := by
  have hC : ∀ W : World, Tabs W → Calls Tryd.prog 36 #[.int .i64 t] W fun e w' => e = .returned (.int .i64 (cls t)) ∧ W = w' := fun W h => class_any t W h
  have hV := valid_any A n cap L w hT hm h
  have hP : ∀ W : World, Calls Tryd.prog 35 #[.int .i64 p] W fun e w' => e = .returned (.bool (prB p)) ∧ W = w' := fun W => prio_any p W
  have hN : ∀ W : World, Calls Tryd.prog 37 #[.string nm] W fun e w' => e = .returned (.bool (decide (nm.size ≤ 100))) ∧ W = w' := fun W => name_any nm W
  have HT := Lib.hid hT
  obtain ⟨h1, h2, h3, h4⟩ := argB_yes hok
  have hn : n ≤ 100 := by have := (goodB_iff.1 h1).1; have := h.len; omega
  obtain ⟨c, hc⟩ : ∃ c, c = cls t := ⟨_, rfl⟩
  rw [h1] at hV
  rw [h2] at hP
  rw [← hc] at hC h3
  rw [decide_eq_true h4] at hN
  have hcb : (c == 0) = false := by rw [beq_eq_false_iff_ne]; exact h3
  have hM : ∀ W : World, Below w.heap.size w W → Calls Tryd.prog 38 #[.slice A n cap, .int .i64 p, .int .i64 c, .string nm] W fun e w' => e = .returned (.bool (mayB L p c nm)) ∧ Below W.heap.size W w' :=
    fun W hW => maySet_any A n cap p c nm L W (hT.below hW) h1 (h.on hW hW.size)
  have hF : ∀ W : World, Below w.heap.size w W → Calls Tryd.prog 39 #[.slice A n cap, .string nm, .int .i64 c] W fun e w' => PosEnd L nm c e ∧ Below W.heap.size W w' :=
    fun W hW => find_any A n cap nm c L W (hT.below hW) hn (h.on hW hW.size) (goodB_iff.1 h1).sorted
  have HS := Lib.hid (goodB_iff.1 h1).sorted
  rw [← hc] at hmay hfull
  rw [hmay] at hM
  unfold fullB at hfull
  simp only [Bool.and_eq_true, decide_eq_true_eq] at hfull
  obtain ⟨⟨hp0, hno⟩, hl⟩ := hfull
  have hn100 : n = 100 := by have := h.len; omega
  have HV := Lib.hid hV
  have HC := Lib.hid hC
  have HP := Lib.hid hP
  have HN := Lib.hid hN
  have HM := Lib.hid hM
  have HF := Lib.hid hF
  have HNO := Lib.hid hno
  clear hV hC hP hN hM hF hT h hok h1 h2 h3 h4 hc hmay hno
  subst hn100
  go_enter Tryd.func15, Tryd.ntmps15
  go_wp2_with fail
  refine (HC.out _ HT.out).mono ?_
  rintro e w1 ⟨rfl, rfl⟩
  go_wp2_with fail
  refine HV.out.mono ?_
  rintro e w1 ⟨rfl, hb1⟩
  go_wp2_with fail
  refine (HP.out _).mono ?_
  rintro e w2 ⟨rfl, rfl⟩
  go_wp2_with fail
  refine (HN.out _).mono ?_
  rintro e w2 ⟨rfl, rfl⟩
  go_wp2_with fail
  refine (HM.out _ hb1).mono ?_
  rintro e w2 ⟨rfl, hb2⟩
  have HB2 := Lib.hid (hb1.trans (hb2.mono hb1.size))
  clear hb1 hb2
  go_wp2_with fail
  refine (HF.out _ HB2.out).mono ?_
  rintro e w3 ⟨⟨i, hi, rfl⟩, hb3⟩
  have HI := Lib.hid hi
  have HB3 := Lib.hid (HB2.out.trans (hb3.mono HB2.out.size))
  clear hi hb3
  have hh : hitB L nm c i = false := by
    have h5 := findM_pos HI.out HS.out
    have h6 := HNO.out
    rw [h5] at h6
    cases hx : hitB L nm c i
    · rfl
    · rw [hx] at h6; cases h6
  rw [hh]
  clear hh
  go_wp2_with fail
  go_ret2
  exact ⟨rfl, HB3.out⟩

/-- What Set leaves where it does not fail. -/
def SetEnd (w w' : World) (M : List Ent) (c : Nat) (e : Ending) : Prop :=
  ∃ g, e = .returned (.tuple #[.slice (some ⟨g, 0, none⟩) M.length c, .int .i64 0]) ∧ Tab w' g c M ∧ w.heap.size ≤ g

set_option maxHeartbeats 4000000 in
theorem set_good (A : Option Addr) (cap : Nat) (p t : Int) (nm : ByteArray) (L : List Ent) (w : World) (hT : Tabs w) (h : OpsIn w w.heap.size A L.length L)
    (hok : argB L p t nm = true) (hmay : mayB L p (cls t) nm = true) (hfull : fullB L p (cls t) nm = false) :
    Calls Tryd.prog 15 #[.slice A L.length cap, .int .i64 p, .int .i64 t, .string nm] w fun e w' => SetEnd w w' (setM L p t nm) (L.length + 1) e ∧ Below w.heap.size w w' := by
  obtain ⟨i0, hi0, hz0, hz1, hz2⟩ := info_parts op_info
  have hm : L.length ≤ 9223372036854775807 := by have := (goodB_iff.1 (argB_yes hok).1).1; omega
  have hC : ∀ W : World, Tabs W → Calls Tryd.prog 36 #[.int .i64 t] W fun e w' => e = .returned (.int .i64 (cls t)) ∧ W = w' := fun W h => class_any t W h
  have hV := valid_any A L.length cap L w hT hm h
  have hP : ∀ W : World, Calls Tryd.prog 35 #[.int .i64 p] W fun e w' => e = .returned (.bool (prB p)) ∧ W = w' := fun W => prio_any p W
  have hN : ∀ W : World, Calls Tryd.prog 37 #[.string nm] W fun e w' => e = .returned (.bool (decide (nm.size ≤ 100))) ∧ W = w' := fun W => name_any nm W
  have HT := Lib.hid hT
  obtain ⟨h1, h2, h3, h4⟩ := argB_yes hok
  have hn : L.length ≤ 100 := (goodB_iff.1 h1).1
  obtain ⟨c, hc⟩ : ∃ c, c = cls t := ⟨_, rfl⟩
  rw [h1] at hV
  rw [h2] at hP
  rw [← hc] at hC h3
  rw [decide_eq_true h4] at hN
  have hcb : (c == 0) = false := by rw [beq_eq_false_iff_ne]; exact h3
  have hM : ∀ W : World, Below w.heap.size w W → Calls Tryd.prog 38 #[.slice A L.length cap, .int .i64 p, .int .i64 c, .string nm] W fun e w' => e = .returned (.bool (mayB L p c nm)) ∧ Below W.heap.size W w' :=
    fun W hW => maySet_any A L.length cap p c nm L W (hT.below hW) h1 (h.on hW hW.size)
  have hF : ∀ W : World, Below w.heap.size w W → Calls Tryd.prog 39 #[.slice A L.length cap, .string nm, .int .i64 c] W fun e w' => PosEnd L nm c e ∧ Below W.heap.size W w' :=
    fun W hW => find_any A L.length cap nm c L W (hT.below hW) hn (h.on hW hW.size) (goodB_iff.1 h1).sorted
  have HS := Lib.hid (goodB_iff.1 h1).sorted
  have HPR := Lib.hid h2
  have HSM := Lib.hid (show setM L p t nm = if 0 < p then withM (nm, t, p) (withoutM L c nm) else withoutM L c nm by rw [hc]; rfl)
  have HPOS := Lib.hid (fun i (hi : IsPos L nm c i) => (show withM (nm, t, p) (withoutM L c nm) = L.take i ++ (nm, t, p) :: L.drop (if hitB L nm c i then i + 1 else i) by rw [hc] at hi ⊢; exact setM_pos hi HS.out))
  rw [← hc] at hmay hfull
  rw [hmay] at hM
  obtain ⟨M, hMM⟩ : ∃ M, M = setM L p t nm := ⟨_, rfl⟩
  rw [← hMM] at HSM ⊢
  obtain ⟨cur0, hcur0⟩ : ∃ cur0 : List Value, cur0.toArray = madeCells (Value.agg #[.string ⟨#[]⟩, .int .i64 0, .int .i64 0]).cells ((L.length + 1) * i0.size) := ⟨_, Array.toArray_toList⟩
  have hmk : ∀ W : World, (Instr.makeSlice 23 (.int .i64 (L.length : Int)) (.int .i64 ((L.length : Int) + 1))).run Tryd.prog W = .ok (.slice (some ⟨W.heap.size, 0, none⟩) L.length (L.length + 1)) (W.alloc (.cells cur0.toArray 26)) := fun W => by
    rw [hcur0]
    exact run_make_rowN 23 26 i0 _ Tryd.underlying23 hi0 hz0 .i64 .i64 L.length (L.length + 1) (by omega) (by rw [hz2]; omega) (by omega) W
  have hc0 : Hid (cur0.length = (L.length + 1) * 3) := by
    show cur0.length = _
    have : cur0.toArray.size = (L.length + 1) * 3 := by rw [hcur0, hz1]; simp [madeCells]
    simpa using this
  have HV := Lib.hid hV
  have HC := Lib.hid hC
  have HP := Lib.hid hP
  have HN := Lib.hid hN
  have HM := Lib.hid hM
  have HF := Lib.hid hF
  have HO := Lib.hid h
  have HFU := Lib.hid hfull
  have hp1 : 0 ≤ p := by unfold prB at h2; simp only [Bool.and_eq_true, decide_eq_true_eq] at h2; exact h2.1
  clear hV hC hP hN hM hF hT h hok h1 h2 h3 h4 hc hmay hcur0 hMM hfull
  go_enter Tryd.func15, Tryd.ntmps15
  go_wp2_with fail
  refine (HC.out _ HT.out).mono ?_
  rintro e w1 ⟨rfl, rfl⟩
  go_wp2_with fail
  refine HV.out.mono ?_
  rintro e w1 ⟨rfl, hb1⟩
  go_wp2_with fail
  refine (HP.out _).mono ?_
  rintro e w2 ⟨rfl, rfl⟩
  go_wp2_with fail
  refine (HN.out _).mono ?_
  rintro e w2 ⟨rfl, rfl⟩
  go_wp2_with fail
  refine (HM.out _ hb1).mono ?_
  rintro e w2 ⟨rfl, hb2⟩
  have HB2 := Lib.hid (hb1.trans (hb2.mono hb1.size))
  clear hb1 hb2
  go_wp2_with fail
  refine (HF.out _ HB2.out).mono ?_
  rintro e w3 ⟨⟨i, hi, rfl⟩, hb3⟩
  have HI := Lib.hid hi
  have HB3 := Lib.hid (HB2.out.trans (hb3.mono HB2.out.size))
  clear hi hb3
  have hheap : Hid ((w3.alloc (.cells cur0.toArray 26)).heap[w3.heap.size]? = some (.cells cur0.toArray 26 (0, 0))) := heap_alloc_new w3 _
  have hbel : Hid (Below w3.heap.size w3 (w3.alloc (.cells cur0.toArray 26))) := (Below.refl _ _).alloc (Nat.le_refl _) _
  have hcl : Hid ((cellsOf L).length = Nat.min L.length L.length * 3) := by
    show (cellsOf L).length = _
    rw [cellsOf_length]
    exact congrArg (· * 3) (Nat.min_self _).symm
  have hsrc : Hid (0 < (cellsOf L).length → ∃ ad, A = some ad ∧ ∀ j v, (cellsOf L)[j]? = some v → (w3.alloc (.cells cur0.toArray 26)).cell? (ad.add j) = some v) := by
    intro hpos
    obtain ⟨b0, off, rfl, hb0, hcell⟩ := HO.out.cells (by rw [cellsOf_length] at hpos; omega)
    refine ⟨_, rfl, fun j v hv => ?_⟩
    rw [add_plain, World.cell?_alloc_lt _ _ _ (by have := HB3.out.size; show b0 < _; omega)]
    exact (HB3.out.cell hb0).trans (OpsIn.cell rfl hcell j v hv)
  have hib : i ≤ L.length := HI.out.1
  by_cases hp : p = 0
  · subst hp
    have HME := Lib.hid (show M = L.take i ++ L.drop (if hitB L nm c i then i + 1 else i) by rw [HSM.out, if_neg (by omega)]; exact withoutM_pos HI.out HS.out)
    cases hh : hitB L nm c i
    · have HH := Lib.hid hh
      clear hh
      go_wp2_with (refine wpList_copy_tab rfl (.tmp 62) (.tmp 63) 23 23 rfl 26 Tryd.underlying23 3 (by decide) (by rw [hi0]; simp [hz1]) (some ⟨w3.heap.size, 0, none⟩) A L.length (L.length + 1) L.length cap rfl rfl w3.heap.size 0 cur0 26 hheap.out (cellsOf L) hcl.out (fun h => ⟨rfl, hsrc.out h⟩) (by have := hc0.out; rw [cellsOf_length]; omega) (cellsOf_one _) w3.heap.size w3 hbel.out (Nat.le_refl _) ?_; intro v4 w4 hg4 hb4 ho4)
      have ht4 : Hid (Tab w4 w3.heap.size (L.length + 1) L) := by
        refine ⟨_, hg4.out, ?_, by omega, ?_⟩
        · rw [length_splice _ _ _ (by have := hc0.out; rw [cellsOf_length]; omega)]
          exact hc0.out
        · unfold splice
          rw [List.take_zero, List.nil_append, List.take_append_of_le_length (by rw [cellsOf_length]; omega), List.take_of_length_le (by rw [cellsOf_length]; omega)]
      have HB4 := Lib.hid (HB3.out.trans (hb4.out.mono HB3.out.size))
      go_ret2
      have hM : M = L := by
        rw [HME.out, HH.out]
        simp
      rw [hM]
      exact ⟨⟨w3.heap.size, rfl, ht4.out, HB3.out.size⟩, HB4.out⟩
    · have hil : Hid (i < L.length) := (of_decide_eq_true hh : i < L.length ∧ _).1
      have HH := Lib.hid hh
      clear hh
      go_wp2_with (refine wpList_copy_tab rfl (.tmp 62) (.tmp 63) 23 23 rfl 26 Tryd.underlying23 3 (by decide) (by rw [hi0]; simp [hz1]) (some ⟨w3.heap.size, 0, none⟩) A L.length (L.length + 1) L.length cap rfl rfl w3.heap.size 0 cur0 26 hheap.out (cellsOf L) hcl.out (fun h => ⟨rfl, hsrc.out h⟩) (by have := hc0.out; rw [cellsOf_length]; omega) (cellsOf_one _) w3.heap.size w3 hbel.out (Nat.le_refl _) ?_; intro v4 w4 hg4 hb4 ho4)
      have ht4 : Hid (Tab w4 w3.heap.size (L.length + 1) L) := by
        refine ⟨_, hg4.out, ?_, by omega, ?_⟩
        · rw [length_splice _ _ _ (by have := hc0.out; rw [cellsOf_length]; omega)]
          exact hc0.out
        · unfold splice
          rw [List.take_zero, List.nil_append, List.take_append_of_le_length (by rw [cellsOf_length]; omega), List.take_of_length_le (by rw [cellsOf_length]; omega)]
      have HB4 := Lib.hid (HB3.out.trans (hb4.out.mono HB3.out.size))
      refine (delete_tab w3.heap.size (L.length + 1) i L w4 ht4.out hil.out (Nat.le_refl _) (by omega)).mono ?_
      rintro e w5 ⟨rfl, ht5, hb5⟩
      have HT5 := Lib.hid ht5
      have HB5 := Lib.hid (HB4.out.trans (hb5.mono HB3.out.size))
      clear ht5 hb5
      go_wp2_with fail
      go_ret2
      have hM : M = L.eraseIdx i := by
        rw [HME.out, HH.out, List.eraseIdx_eq_take_drop_succ]
        rfl
      have hlen : (L.eraseIdx i).length = L.length - 1 := List.length_eraseIdx_of_lt hil.out
      rw [hM]
      exact ⟨⟨w3.heap.size, by rw [hlen]; rfl, HT5.out, HB3.out.size⟩, HB5.out⟩
  · have hpp : 0 < p := by omega
    have HME := Lib.hid (show M = L.take i ++ (nm, t, p) :: L.drop (if hitB L nm c i then i + 1 else i) by rw [HSM.out, if_pos hpp]; exact HPOS.out i HI.out)
    cases hh : hitB L nm c i
    · have HH := Lib.hid hh
      have hl100 : ¬ (L.length : Int) = 100 := by
        intro he
        have h5 := HFU.out
        unfold fullB at h5
        rw [findM_pos HI.out HS.out, hh, decide_eq_true hpp, decide_eq_true (show L.length = 100 by omega)] at h5
        cases h5
      have hlb : ((L.length : Int) == 100) = false := by rw [beq_eq_false_iff_ne]; exact hl100
      clear hh hl100
      go_wp2_with (refine wpList_copy_tab rfl (.tmp 62) (.tmp 63) 23 23 rfl 26 Tryd.underlying23 3 (by decide) (by rw [hi0]; simp [hz1]) (some ⟨w3.heap.size, 0, none⟩) A L.length (L.length + 1) L.length cap rfl rfl w3.heap.size 0 cur0 26 hheap.out (cellsOf L) hcl.out (fun h => ⟨rfl, hsrc.out h⟩) (by have := hc0.out; rw [cellsOf_length]; omega) (cellsOf_one _) w3.heap.size w3 hbel.out (Nat.le_refl _) ?_; intro v4 w4 hg4 hb4 ho4)
      have ht4 : Hid (Tab w4 w3.heap.size (L.length + 1) L) := by
        refine ⟨_, hg4.out, ?_, by omega, ?_⟩
        · rw [length_splice _ _ _ (by have := hc0.out; rw [cellsOf_length]; omega)]
          exact hc0.out
        · unfold splice
          rw [List.take_zero, List.nil_append, List.take_append_of_le_length (by rw [cellsOf_length]; omega), List.take_of_length_le (by rw [cellsOf_length]; omega)]
      have HB4 := Lib.hid (HB3.out.trans (hb4.out.mono HB3.out.size))
      have ht5 : Hid (Tab (w4.alloc (.cells #[.string nm, .int .i64 t, .int .i64 p] 26)) w3.heap.size (L.length + 1) L) := ht4.out.keep (Below.heap_alloc _ _ _ ht4.out.lt)
      refine (insert_any w3.heap.size (L.length + 1) w4.heap.size i nm t p L _ ht5.out hib (Nat.le_refl _) (by omega) (by have := ht4.out.lt; omega) (heap_alloc_new _ _)).mono ?_
      rintro e w6 ⟨rfl, ht6, hb6⟩
      have HT6 := Lib.hid ht6
      have HB6 := Lib.hid hb6
      clear ht6 hb6
      go_wp2_with fail
      go_ret2
      have hM : M = L.take i ++ (nm, t, p) :: L.drop i := by
        rw [HME.out, HH.out]
        rfl
      have hlen : (L.take i ++ (nm, t, p) :: L.drop i).length = L.length + 1 := by simp; omega
      rw [hM]
      exact ⟨⟨w3.heap.size, by rw [hlen]; rfl, HT6.out, HB3.out.size⟩, HB3.out.trans ((hb4.out.trans (((Below.refl _ _).alloc (Nat.le_of_lt ht4.out.lt) _).trans HB6.out)).mono HB3.out.size)⟩
    · have hil : Hid (i < L.length) := (of_decide_eq_true hh : i < L.length ∧ _).1
      have HH := Lib.hid hh
      clear hh
      go_wp2_with (refine wpList_copy_tab rfl (.tmp 62) (.tmp 63) 23 23 rfl 26 Tryd.underlying23 3 (by decide) (by rw [hi0]; simp [hz1]) (some ⟨w3.heap.size, 0, none⟩) A L.length (L.length + 1) L.length cap rfl rfl w3.heap.size 0 cur0 26 hheap.out (cellsOf L) hcl.out (fun h => ⟨rfl, hsrc.out h⟩) (by have := hc0.out; rw [cellsOf_length]; omega) (cellsOf_one _) w3.heap.size w3 hbel.out (Nat.le_refl _) ?_; intro v4 w4 hg4 hb4 ho4)
      have ht4 : Hid (Tab w4 w3.heap.size (L.length + 1) L) := by
        refine ⟨_, hg4.out, ?_, by omega, ?_⟩
        · rw [length_splice _ _ _ (by have := hc0.out; rw [cellsOf_length]; omega)]
          exact hc0.out
        · unfold splice
          rw [List.take_zero, List.nil_append, List.take_append_of_le_length (by rw [cellsOf_length]; omega), List.take_of_length_le (by rw [cellsOf_length]; omega)]
      have HB4 := Lib.hid (HB3.out.trans (hb4.out.mono HB3.out.size))
      refine (delete_tab w3.heap.size (L.length + 1) i L w4 ht4.out hil.out (Nat.le_refl _) (by omega)).mono ?_
      rintro e w5 ⟨rfl, ht5, hb5⟩
      have HT5 := Lib.hid ht5
      have HB5 := Lib.hid hb5
      clear ht5 hb5
      go_wp2_with fail
      have hlen : (L.eraseIdx i).length = L.length - 1 := List.length_eraseIdx_of_lt hil.out
      have ht6 : Hid (Tab (w5.alloc (.cells #[.string nm, .int .i64 t, .int .i64 p] 26)) w3.heap.size (L.length + 1) (L.eraseIdx i)) := HT5.out.keep (Below.heap_alloc _ _ _ HT5.out.lt)
      have hins := insert_any w3.heap.size (L.length + 1) w5.heap.size i nm t p (L.eraseIdx i) _ ht6.out (by rw [hlen]; have := hil.out; omega) (by rw [hlen]; omega) (by omega) (by have := HT5.out.lt; omega) (heap_alloc_new _ _)
      rw [hlen] at hins
      refine hins.mono ?_
      clear hins
      rintro e w6 ⟨rfl, ht6, hb6⟩
      have HT6 := Lib.hid ht6
      have HB6 := Lib.hid hb6
      have HLEN := Lib.hid hlen
      clear ht6 hb6 hlen
      go_wp2_with fail
      go_ret2
      have hM : M = (L.eraseIdx i).take i ++ (nm, t, p) :: (L.eraseIdx i).drop i := by
        rw [HME.out, HH.out, erase_insert hil.out]
        rfl
      have hlen2 : ((L.eraseIdx i).take i ++ (nm, t, p) :: (L.eraseIdx i).drop i).length = L.length - 1 + 1 := by simp [HLEN.out]; have := hil.out; omega
      rw [hM]
      exact ⟨⟨w3.heap.size, by rw [hlen2]; rfl, HT6.out, HB3.out.size⟩, HB3.out.trans ((hb4.out.trans (HB5.out.trans (((Below.refl _ _).alloc (Nat.le_of_lt HT5.out.lt) _).trans HB6.out))).mono HB3.out.size)⟩
end Go.Proofs.YtgbfkchjcjdnnaaDoor
