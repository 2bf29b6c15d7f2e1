/-
  Same and Set of the reference; Set of package ops and of the reference say the same.
-/
import Derived.Test.YtgbfkchjcjdnnaaDoorWith7
namespace Go.Proofs.YtgbfkchjcjdnnaaDoor
set_option linter.unusedVariables false
set_option linter.unusedSimpArgs false
open Go.RowKit Q

/-! ### Same -/
def sameB (L M : List Ent) : Bool := decide (L = M)
theorem same_of {L M : List Ent} (hl : L.length = M.length) (h : ∀ j, j < L.length → ent L j = ent M j) : L = M := by
  apply List.ext_getElem hl
  intro j h1 h2
  have := h j h1
  rwa [ent_at h1, ent_at h2] at this
theorem guardOff : Tryd.prog.eqGuardType Tryd.prog.depth 26 = false := by kernel_rfl
theorem dec3 (s s' : ByteArray) (t t' p p' : Int) : decide ((s, t, p) = (s', t', p')) = (s.toList == s'.toList && (t == t' && p == p')) := by
  rw [eqC, Bool.eq_iff_iff]
  simp only [decide_eq_true_eq, Bool.and_eq_true, beq_iff_eq, Prod.mk.injEq]
theorem neq_op (s s' : ByteArray) (t t' p p' : Int) (w : World) : (binOp .neq 26 (.agg #[.string s, .int .i64 t, .int .i64 p]) (.agg #[.string s', .int .i64 t', .int .i64 p'])).run Tryd.prog w = .ok (.bool (!decide ((s, t, p) = (s', t', p')))) w := by
  have u3 := Tryd.underlying3
  have a3 := Tryd.isAgg3
  have z3 := Tryd.sizeOf3
  have u9 := Tryd.underlying9
  have a9 := Tryd.isAgg9
  have z9 := Tryd.sizeOf9
  have hS : Tryd.prog.underlying 26 = some (.struct (Tryd.prog.fieldsOf 26)) := by kernel_rfl
  have hp : Tryd.prog.stoodInHeld 26 = false := by kernel_rfl
  rw [run_neq_struct, show (10000 : Nat) = 9999 + 1 from rfl, run_equalIn_agg w 9999 26 _ _ hS hp, dec3]
  simp only [Program.fieldsOf, Tryd.underlying26]
  go_simp
  cases h0 : (s.toList == s'.toList) <;> by_cases h1 : t = t' <;> by_cases h2 : p = p' <;> simp_all
theorem eq_op (s s' : ByteArray) (t t' p p' : Int) (w : World) : (binOp .eql 26 (.agg #[.string s, .int .i64 t, .int .i64 p]) (.agg #[.string s', .int .i64 t', .int .i64 p'])).run Tryd.prog w = .ok (.bool (decide ((s, t, p) = (s', t', p')))) w := by
  have u3 := Tryd.underlying3
  have a3 := Tryd.isAgg3
  have z3 := Tryd.sizeOf3
  have u9 := Tryd.underlying9
  have a9 := Tryd.isAgg9
  have z9 := Tryd.sizeOf9
  have hS : Tryd.prog.underlying 26 = some (.struct (Tryd.prog.fieldsOf 26)) := by kernel_rfl
  have hp : Tryd.prog.stoodInHeld 26 = false := by kernel_rfl
  rw [run_eql_struct, show (10000 : Nat) = 9999 + 1 from rfl, run_equalIn_agg w 9999 26 _ _ hS hp, dec3]
  simp only [Program.fieldsOf, Tryd.underlying26]
  go_simp
  cases h0 : (s.toList == s'.toList) <;> by_cases h1 : t = t' <;> by_cases h2 : p = p' <;> simp_all

set_option maxHeartbeats 2000000 in
theorem same_any (A A' : Option Addr) (n n' cap cap' : Nat) (L M : List Ent) (w : World) (hn : n ≤ 1000) (hn' : n' ≤ 1000) (hL : OpsIn w w.heap.size A n L) (hM : OpsIn w w.heap.size A' n' M) :
    Calls Tryd.prog 21 #[.slice A n cap, .slice A' n' cap'] w fun e w' => e = .returned (.bool (sameB L M)) ∧ Below w.heap.size w w' := by
  have HL := Lib.hid hL
  have HM := Lib.hid hM
  clear hL hM
  by_cases hne : n = n'
  · subst hne
    go_enter Tryd.func21, Tryd.ntmps21
    go_wp2_with fail
    go_loopw [5] (fun i wr => ∃ k : Nat, k ≤ n ∧ i = .int .i64 k ∧ (∀ j, j < k → ent L j = ent M j) ∧ Below w.heap.size w wr) (fun i _ => n - (intOf i).toNat)
    case atStart => exact ⟨0, Nat.zero_le _, rfl, fun j hj => absurd hj (by omega), Below.refl _ _⟩
    case round =>
      obtain ⟨k, hk, rfl, heq, hq⟩ := hrel
      have HQ := Lib.hid hq
      have HE := Lib.hid heq
      clear hq heq
      by_cases hlt : k < n
      · obtain ⟨b, off, rfl, hb, hcell⟩ := HL.out.cells (by omega)
        obtain ⟨b', off', rfl, hb', hcell'⟩ := HM.out.cells (by omega)
        have h1 := (HQ.out.cell (p := ⟨b, off + k * 3, none⟩) hb).trans (hcell k hlt).1
        have h2 := (HQ.out.cell (p := ⟨b, off + k * 3 + 1, none⟩) hb).trans (hcell k hlt).2.1
        have h3 := (HQ.out.cell (p := ⟨b, off + k * 3 + 2, none⟩) hb).trans (hcell k hlt).2.2
        have g1 := (HQ.out.cell (p := ⟨b', off' + k * 3, none⟩) hb').trans (hcell' k hlt).1
        have g2 := (HQ.out.cell (p := ⟨b', off' + k * 3 + 1, none⟩) hb').trans (hcell' k hlt).2.1
        have g3 := (HQ.out.cell (p := ⟨b', off' + k * 3 + 2, none⟩) hb').trans (hcell' k hlt).2.2
        have hm := guardOff
        obtain ⟨⟨x0, x1, x2⟩, hx⟩ : ∃ x, x = ent L k := ⟨_, rfl⟩
        obtain ⟨⟨y0, y1, y2⟩, hy⟩ : ∃ x, x = ent M k := ⟨_, rfl⟩
        rw [← hx] at h1 h2 h3
        rw [← hy] at g1 g2 g3
        have HXX := Lib.hid hx
        have HYY := Lib.hid hy
        simp only at h1 h2 h3 g1 g2 g3
        clear hcell hcell' hx hy
        have hnq := neq_op x0 y0 x1 y1 x2 y2
        by_cases hx : (x0, x1, x2) = (y0, y1, y2)
        · rw [decide_eq_true hx] at hnq
          have HX := Lib.hid hx
          clear hx
          go_wp2_with fail
          go_quiet (fail)
          go_wp2_with fail
          refine ⟨⟨k + 1, by omega, by go_num, fun j hj => ?_, below_drewN HQ.out _⟩, by simp [intOf]; omega⟩
          by_cases hjk : j = k
          · subst hjk; rw [← HXX.out, ← HYY.out]; exact HX.out
          · exact HE.out j (by omega)
        · rw [decide_eq_false hx] at hnq
          have hs : sameB L M = false := decide_eq_false fun h => hx (by rw [HXX.out, HYY.out, h])
          have HS := Lib.hid hs
          clear hx hs
          go_wp2_with fail
          go_quiet (fail)
          go_wp2_with fail
          go_ret
          exact ⟨by rw [HS.out]; rfl, below_drewN HQ.out _⟩
      · have hs : sameB L M = true := decide_eq_true (same_of (HL.out.len.trans HM.out.len.symm) fun j hj => HE.out j (by have := HL.out.len; omega))
        have HS := Lib.hid hs
        clear hs
        go_wp2_with fail
        go_ret
        exact ⟨by rw [HS.out]; rfl, HQ.out⟩
  · have hs : sameB L M = false := decide_eq_false fun h => hne (by rw [← HL.out.len, ← HM.out.len, h])
    have HS := Lib.hid hs
    clear hs
    have hb : ((n : Int) != (n' : Int)) = true := by rw [bne_iff_ne]; omega
    go_enter Tryd.func21, Tryd.ntmps21
    go_wp2_with fail
    go_ret
    exact ⟨by rw [HS.out]; rfl, Below.refl _ _⟩

/-! ### the lengths of what is set -/
theorem exists_pos {L : List Ent} (hs : Sorted L) (nm : ByteArray) (c : Int) : ∃ i, IsPos L nm c i := by
  have h : ∀ m, m ≤ L.length → (∀ j, j < m → cmpE (ent L j) nm c < 0) ∨ ∃ i, IsPos L nm c i := by
    intro m
    induction m with
    | zero => exact fun _ => .inl fun j hj => absurd hj (by omega)
    | succ m ih =>
      intro hm
      rcases ih (by omega) with h | h
      · by_cases hneg : cmpE (ent L m) nm c < 0
        · refine .inl fun j hj => ?_
          by_cases hjm : j = m
          · subst hjm; exact hneg
          · exact h j (by omega)
        · refine .inr ⟨m, by omega, h, fun j h1 h2 => ?_⟩
          by_cases hjm : j = m
          · subst hjm; omega
          · have h3 := hs m j (by omega) h2
            have h4 := keyE_neg (ent L m) (ent L j)
            obtain ⟨f1, f2, f3, f4⟩ := keyE_fit (ent L j) (ent L m) nm c
            by_cases h0 : cmpE (ent L m) nm c = 0
            · have := f3 h0; omega
            · have := f4 (by omega) (by omega); omega
      · exact .inr h
  rcases h L.length (Nat.le_refl _) with h | h
  · exact ⟨L.length, Nat.le_refl _, h, fun j h1 h2 => absurd h1 (by omega)⟩
  · exact h
theorem without_len {L : List Ent} (hs : Sorted L) (nm : ByteArray) (c : Int) : (withoutM L c nm).length + (if (findM L c nm).isSome then 1 else 0) = L.length := by
  obtain ⟨i, hi⟩ := exists_pos hs nm c
  rw [withoutM_pos hi hs, findM_pos hi hs]
  have h1 := hi.1
  cases hh : hitB L nm c i
  · simp <;> omega
  · have h2 : i < L.length := (of_decide_eq_true hh : i < L.length ∧ _).1
    simp; omega
theorem setM_len {L : List Ent} (hs : Sorted L) (nm : ByteArray) (t p : Int) : (setM L p t nm).length + (if (findM L (cls t) nm).isSome then 1 else 0) = L.length + (if 0 < p then 1 else 0) := by
  have h := without_len hs nm (cls t)
  unfold setM
  by_cases hp : 0 < p
  · rw [if_pos hp, if_pos hp, withM_len]; omega
  · rw [if_neg hp, if_neg hp]; omega
theorem full_iff {L : List Ent} (hs : Sorted L) (hl : L.length ≤ 100) (nm : ByteArray) (t p : Int) : fullB L p (cls t) nm = decide (100 < (setM L p t nm).length) := by
  have h := setM_len hs nm t p
  unfold fullB
  rw [Bool.eq_iff_iff, Bool.and_eq_true, Bool.and_eq_true, decide_eq_true_eq, decide_eq_true_eq, decide_eq_true_eq]
  cases hf : findM L (cls t) nm
  · rw [hf] at h
    by_cases hp : 0 < p
    · rw [if_pos hp] at h
      simp at h ⊢
      omega
    · rw [if_neg hp] at h
      simp at h ⊢
      omega
  · rw [hf] at h
    by_cases hp : 0 < p
    · rw [if_pos hp] at h
      simp at h ⊢
      omega
    · rw [if_neg hp] at h
      simp at h ⊢
      omega
theorem good_find {L : List Ent} (hg : goodB L = true) {c : Int} {nm : ByteArray} {e : Ent} (h : findM L c nm = some e) : okE e = true ∧ cls e.2.1 = c ∧ e.1 = nm := by
  unfold findM at h
  have h1 := List.mem_of_find?_eq_some h
  have h2 := List.find?_some h
  obtain ⟨j, hj, rfl⟩ := List.getElem_of_mem h1
  have h3 := ((goodB_iff.1 hg).2 j hj).1
  rw [ent_at hj] at h3
  unfold isB at h2
  simp only [Bool.and_eq_true, decide_eq_true_eq] at h2
  exact ⟨h3, h2.1, h2.2⟩
theorem find_zero {L : List Ent} (hg : goodB L = true) (nm : ByteArray) : findM L 0 nm = none := by
  cases h : findM L 0 nm
  · rfl
  · obtain ⟨h1, h2, _⟩ := good_find hg h
    exact absurd h2 (okE_cls h1)
theorem find_bar {L : List Ent} (hg : goodB L = true) : findM L 3 sBar = none := by
  cases h : findM L 3 sBar with
  | none => rfl
  | some e =>
    obtain ⟨h1, h2, h3⟩ := good_find hg h
    unfold okE at h1
    rw [h3, if_neg (by decide), if_pos rfl, h2] at h1
    simp at h1

/-- What Set returns, of package ops and of the reference. -/
def ResEnd (w' : World) (L : List Ent) (p t : Int) (nm : ByteArray) (e : Ending) : Prop :=
  ∃ A c, e = .returned (.tuple #[.slice A (resM L p t nm).length c, .int .i64 (errM L p t nm)]) ∧ OpsIn w' w'.heap.size A (resM L p t nm).length (resM L p t nm)
theorem res_bad {w' : World} {L : List Ent} {p t : Int} {nm : ByteArray} {e : Ending} {z : Int} (hz : errM L p t nm = z) (h0 : z ≠ 0) (he : e = .returned (.tuple #[.slice none 0 0, .int .i64 z])) : ResEnd w' L p t nm e := by
  have hr : resM L p t nm = [] := by unfold resM; rw [hz, if_neg h0]
  unfold ResEnd
  rw [hr, hz]
  exact ⟨none, 0, he, OpsIn.nil _ _ _⟩
theorem err_arg {L : List Ent} {p t : Int} {nm : ByteArray} (h : argB L p t nm = false) : errM L p t nm = 1 := by unfold errM; rw [h]; rfl
theorem err_state {L : List Ent} {p t : Int} {nm : ByteArray} (h : argB L p t nm = true) (h2 : mayB L p (cls t) nm = false) : errM L p t nm = 5 := by unfold errM; rw [h, h2]; rfl
theorem err_full {L : List Ent} {p t : Int} {nm : ByteArray} (h : argB L p t nm = true) (h2 : mayB L p (cls t) nm = true) (h3 : fullB L p (cls t) nm = true) : errM L p t nm = 13 := by unfold errM; rw [h, h2, h3]; rfl
theorem err_ok {L : List Ent} {p t : Int} {nm : ByteArray} (h : argB L p t nm = true) (h2 : mayB L p (cls t) nm = true) (h3 : fullB L p (cls t) nm = false) : errM L p t nm = 0 ∧ resM L p t nm = setM L p t nm := by
  have he : errM L p t nm = 0 := by unfold errM; rw [h, h2, h3]; rfl
  exact ⟨he, by unfold resM; rw [he, if_pos rfl]⟩

theorem set_any (A : Option Addr) (n cap : Nat) (p t : Int) (nm : ByteArray) (L : List Ent) (w : World) (hT : Tabs w) (hm : n ≤ 9223372036854775807) (h : OpsIn w w.heap.size A n L) :
    Calls Tryd.prog 15 #[.slice A n cap, .int .i64 p, .int .i64 t, .string nm] w fun e w' => ResEnd w' L p t nm e ∧ Below w.heap.size w w' := by
  cases h1 : argB L p t nm
  · exact (set_arg A n cap p t nm L w hT hm h h1).mono fun e w' ⟨he, hb⟩ => ⟨res_bad (err_arg h1) (by decide) he, hb⟩
  · cases h2 : mayB L p (cls t) nm
    · exact (set_state A n cap p t nm L w hT hm h h1 h2).mono fun e w' ⟨he, hb⟩ => ⟨res_bad (err_state h1 h2) (by decide) he, hb⟩
    · cases h3 : fullB L p (cls t) nm
      · obtain ⟨e1, e2⟩ := err_ok h1 h2 h3
        have hl := h.len
        subst hl
        refine (set_good A cap p t nm L w hT h h1 h2 h3).mono fun e w' ⟨⟨g, he, ht, hg⟩, hb⟩ => ⟨?_, hb⟩
        unfold ResEnd
        rw [e1, e2]
        exact ⟨_, _, he, ht.ops ht.lt⟩
      · exact (set_full A n cap p t nm L w hT hm h h1 h2 h3).mono fun e w' ⟨he, hb⟩ => ⟨res_bad (err_full h1 h2 h3) (by decide) he, hb⟩
end Go.Proofs.YtgbfkchjcjdnnaaDoor
