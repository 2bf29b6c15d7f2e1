/-
  Tables that the reference builds: Clone, without, with and put; Same.
-/
import Derived.Test.YtgbfkchjcjdnnaaDoorRFind7
import Derived.Laws.AppendOwnNone
namespace Go.Proofs.YtgbfkchjcjdnnaaDoor
set_option linter.unusedVariables false
set_option linter.unusedSimpArgs false
open Go.RowKit Q

theorem own_below {w w' : World} {base size n : Nat} {e : TypeId} {v : Value} {xs : List Value} (h : w.ownsRow base e size v n xs) (hb : Below w.heap.size w w') : w'.ownsRow base e size v n xs := by
  refine ⟨h.1, ?_⟩
  rcases h.2 with h0 | ⟨g, cap, cur, e1, e2, e3, e4⟩
  · exact .inl h0
  · refine .inr ⟨g, cap, cur, e1, e2, (hb.block g ?_).trans e3, e4⟩
    rcases Nat.lt_or_ge g w.heap.size with hlt | hge
    · exact hlt
    · rw [Array.getElem?_eq_none hge] at e3; cases e3
/-- A row of the call's own reads as operators. -/
theorem own_ops {w : World} {base n : Nat} {v : Value} {L : List Ent} (h : w.ownsRow base 26 3 v n (cellsOf L)) :
    ∃ A c, v = .slice A n c ∧ n ≤ c ∧ OpsIn w w.heap.size A n L := by
  have hlen : L.length = n := by have := h.1; rw [cellsOf_length] at this; omega
  rcases h.2 with ⟨rfl, rfl⟩ | ⟨g, cap, cur, rfl, hb, hg, hnc, hcm, hcs, htake⟩
  · have : L = [] := List.eq_nil_of_length_eq_zero hlen
    subst this
    exact ⟨none, 0, rfl, Nat.le_refl _, OpsIn.nil _ _ _⟩
  · have hlt : g < w.heap.size := by
      rcases Nat.lt_or_ge g w.heap.size with hlt | hge
      · exact hlt
      · rw [Array.getElem?_eq_none hge] at hg; cases hg
    have ht : Tab w g cap L := ⟨cur.toList, by simpa using hg, by simpa using hcs, by omega, by rw [hlen]; exact htake⟩
    subst hlen
    exact ⟨_, cap, rfl, hnc, ht.ops hlt⟩
/-- A new table is returned. -/
def OwnEnd (w' : World) (M : List Ent) (e : Ending) : Prop := ∃ A c, e = .returned (.slice A M.length c) ∧ M.length ≤ c ∧ OpsIn w' w'.heap.size A M.length M
theorem own_end {w : World} {base : Nat} {v : Value} {L : List Ent} (h : w.ownsRow base 26 3 v L.length (cellsOf L)) : OwnEnd w L (.returned v) := by
  obtain ⟨A, c, e, hc, ho⟩ := own_ops h
  exact ⟨A, c, by rw [e], hc, ho⟩

/-- An operator appended to a row of the call's own. -/
theorem wpList_append_ent {ops : Array Oper} {rest : List Oper} {o : Oper} {a : Act} {Q : Exit → Act → World → Prop} (hgd : o.guard = none) (s x : Operand)
    (ho : o.op = .call { callee := .builtin .append, args := #[s, x], argTypes := #[23, 23] }) (B : Nat) (w0 : World) (v : Value) (X : List Ent) (nm : ByteArray) (t p : Int) (hs : a.eval s = v) (W : World)
    (hown : W.ownsRow B 26 3 v X.length (cellsOf X)) (hb : Below B w0 W) (hB : B ≤ W.heap.size) (hX : X.length ≤ 2000) (hx : a.eval x = .slice (some ⟨W.heap.size, 0, none⟩) 1 1)
    (h : ∀ v' w', Hid (w'.ownsRow B 26 3 v' (X ++ [(nm, t, p)]).length (cellsOf (X ++ [(nm, t, p)]))) → Hid (Below B w0 w') → wpList Tryd.prog ops Q rest (a.put o.dst v') w') :
    wpList Tryd.prog ops Q (o :: rest) a (W.alloc (.cells #[.string nm, .int .i64 t, .int .i64 p] 26)) := by
  obtain ⟨i0, hi0, hz0, hz1, hz2⟩ := info_parts op_info
  have hnew : ∀ j u, [Value.string nm, .int .i64 t, .int .i64 p][j]? = some u → (W.alloc (.cells #[.string nm, .int .i64 t, .int .i64 p] 26)).cell? ((⟨W.heap.size, 0, none⟩ : Addr).add j) = some u := by
    intro j u hu
    rw [add_plain, Nat.zero_add, World.cell?_alloc_at _ _ _ _ rfl]
    simpa using hu
  refine wpList_append_own _ hgd s x 23 ho B 26 i0 (.agg #[.string ⟨#[]⟩, .int .i64 0, .int .i64 0]) 3 32 Tryd.underlying23 hi0 hz0 hz1 hz2 rfl (by decide) v X.length (cellsOf X) hs (hown.alloc _) ⟨W.heap.size, 0, none⟩ 1 1 [.string nm, .int .i64 t, .int .i64 p] hx rfl hnew (by intro v hv; simp at hv; rcases hv with rfl | rfl | rfl <;> rfl) (by unfold maxLen; omega) (by omega) (by simp; omega) ?_
  intro v' w' hown' hg' _
  refine h v' w' ?_ ((hb.alloc hB _).grown hg' (by simp; omega) fun q hq => (hown.lt q hq).1)
  show w'.ownsRow B 26 3 v' (X ++ [(nm, t, p)]).length (cellsOf (X ++ [(nm, t, p)]))
  rw [cellsOf_append, List.length_append]
  exact hown'

set_option maxHeartbeats 1000000 in
theorem clone_nil (w : World) :
    Calls Tryd.prog 24 #[.slice none 0 0] w fun e w' => OwnEnd w' [] e ∧ Below w.heap.size w w' := by
  obtain ⟨i0, hi0, hz0, hz1, hz2⟩ := info_parts op_info
  have hown : Hid ((w.alloc (.cells #[] 26)).ownsRow w.heap.size 26 3 (.slice (some ⟨w.heap.size, 0, none⟩) 0 0) 0 []) := World.ownsRow_made w #[] 0 (Nat.le_refl _) (by decide) rfl
  go_enter Tryd.func24, Tryd.ntmps24
  go_wp2_with (at_builtin; refine wpList_append_own_none rfl (.tmp 3) (.tmp 4) 23 rfl w.heap.size 26 i0 3 Tryd.underlying23 hi0 _ 0 [] rfl hown.out rfl ?_)
  go_ret
  exact ⟨⟨some ⟨w.heap.size, 0, none⟩, 0, rfl, Nat.le_refl _, OpsIn.nil _ _ _⟩, (Below.refl _ _).alloc (Nat.le_refl _) _⟩

set_option maxHeartbeats 1000000 in
theorem clone_some (a : Addr) (n cap : Nat) (L : List Ent) (w : World) (hn : n ≤ 1000) (h : OpsIn w w.heap.size (some a) n L) :
    Calls Tryd.prog 24 #[.slice (some a) n cap] w fun e w' => OwnEnd w' L e ∧ Below w.heap.size w w' := by
  obtain ⟨i0, hi0, hz0, hz1, hz2⟩ := info_parts op_info
  have hown : Hid ((w.alloc (.cells #[] 26)).ownsRow w.heap.size 26 3 (.slice (some ⟨w.heap.size, 0, none⟩) 0 0) 0 []) := World.ownsRow_made w #[] 0 (Nat.le_refl _) (by decide) rfl
  have hl : Hid ((cellsOf L).length = n * 3) := by show (cellsOf L).length = _; rw [cellsOf_length, h.len]
  have hsrc : Hid (∀ j u, (cellsOf L)[j]? = some u → (w.alloc (.cells #[] 26)).cell? (a.add j) = some u) := by
    intro j u hu
    have hpos : 0 < n := by
      have := (List.getElem?_eq_some_iff.1 hu).1
      rw [cellsOf_length, h.len] at this
      omega
    obtain ⟨b, off, he, hb, hc⟩ := h.cells hpos
    injection he with he
    subst he
    rw [add_plain, World.cell?_alloc_lt _ _ _ (by show b < _; omega)]
    exact OpsIn.cell h.len hc j u hu
  have hlen := Lib.hid h.len
  clear h
  go_enter Tryd.func24, Tryd.ntmps24
  go_wp2_with (at_builtin; refine wpList_append_own _ rfl (.tmp 3) (.tmp 4) 23 rfl w.heap.size 26 i0 (.agg #[.string ⟨#[]⟩, .int .i64 0, .int .i64 0]) 3 32 Tryd.underlying23 hi0 hz0 hz1 hz2 rfl (by decide) _ 0 [] rfl hown.out a n cap (cellsOf L) rfl hl.out hsrc.out (cellsOf_one _) (by unfold maxLen; omega) (by omega) (by simp) ?_; intro v1 w1 hown1 hg1 _)
  have hb1 : Below w.heap.size w w1 := ((Below.refl w.heap.size w).alloc (Nat.le_refl _) (.cells #[] 26)).grown hg1 (by simp) (fun k hk => by have e : some w.heap.size = some k := hk; injection e with e; omega)
  have HB1 := Lib.hid hb1
  have HO1 := Lib.hid hown1
  clear hown1 hg1 hb1
  go_wp2_with fail
  go_ret
  obtain ⟨A, c, hv, hc, hp⟩ := own_ops (n := n) (L := L) (by have := HO1.out; simpa using this)
  have hl2 := hlen.out
  subst hl2
  exact ⟨⟨A, c, by rw [← hv]; rfl, hc, hp⟩, HB1.out⟩
theorem clone_any (A : Option Addr) (n cap : Nat) (L : List Ent) (w : World) (hn : n ≤ 1000) (hA : A = none → n = 0 ∧ cap = 0) (h : OpsIn w w.heap.size A n L) :
    Calls Tryd.prog 24 #[.slice A n cap] w fun e w' => OwnEnd w' L e ∧ Below w.heap.size w w' := by
  cases A with
  | none =>
    obtain ⟨rfl, rfl⟩ := hA rfl
    have hL : L = [] := List.eq_nil_of_length_eq_zero h.len
    subst hL
    exact clone_nil w
  | some ad => exact clone_some ad n cap L w hn h

theorem drop_ent {L : List Ent} {k : Nat} (h : k < L.length) : L.drop k = ent L k :: L.drop (k + 1) := by rw [List.drop_eq_getElem_cons h, ent_at h]
theorem without_cons (e : Ent) (r : List Ent) (c : Int) (nm : ByteArray) : withoutM (e :: r) c nm = if isB c nm e then withoutM r c nm else e :: withoutM r c nm := by
  unfold withoutM
  cases h : isB c nm e <;> simp [List.filter, h]

set_option maxHeartbeats 2000000 in
theorem without_any (A : Option Addr) (n cap : Nat) (c : Int) (nm : ByteArray) (L : List Ent) (w : World) (hn : n ≤ 1000) (h : OpsIn w w.heap.size A n L) :
    Calls Tryd.prog 49 #[.slice A n cap, .int .i64 c, .string nm] w fun e w' => OwnEnd w' (withoutM L c nm) e ∧ Below w.heap.size w w' := by
  obtain ⟨M, hM⟩ : ∃ M, M = withoutM L c nm := ⟨_, rfl⟩
  rw [← hM]
  have HM := Lib.hid hM
  have HP := Lib.hid h
  have HL := Lib.hid h.len
  clear h hM
  go_enter Tryd.func49, Tryd.ntmps49
  go_wp2_with fail
  go_loopw [7, 8] (fun v i wr => ∃ (k : Nat) (X : List Ent), k ≤ n ∧ i = .int .i64 k ∧ wr.ownsRow w.heap.size 26 3 v X.length (cellsOf X) ∧ X.length ≤ k ∧ M = X ++ withoutM (L.drop k) c nm ∧ Below w.heap.size w wr) (fun _ i _ => n - (intOf i).toNat)
  case atStart => exact ⟨0, [], by omega, rfl, World.ownsRow_nil _ _ _ _, by simp, HM.out, Below.refl _ _⟩
  case round =>
    obtain ⟨k, X, hk, rfl, hown, hX, hMX, hb⟩ := hrel
    have HO := Lib.hid hown
    have HX := Lib.hid hMX
    have HB := Lib.hid hb
    clear hown hMX hb
    by_cases hlt : k < n
    · obtain ⟨b, off, rfl, hb', hc⟩ := HP.out.cells (by omega)
      have q0 := (HB.out.cell (p := ⟨b, off + k * 3, none⟩) hb').trans (hc k hlt).1
      have q1 := (HB.out.cell (p := ⟨b, off + k * 3 + 1, none⟩) hb').trans (hc k hlt).2.1
      have q2 := (HB.out.cell (p := ⟨b, off + k * 3 + 2, none⟩) hb').trans (hc k hlt).2.2
      have hdr := drop_ent (L := L) (k := k) (by have := HL.out; omega)
      have hwo := without_cons (ent L k) (L.drop (k + 1)) c nm
      rw [← hdr] at hwo
      obtain ⟨⟨x0, x1, x2⟩, hx⟩ : ∃ x, x = ent L k := ⟨_, rfl⟩
      rw [← hx] at q0 q1 q2 hwo
      have hi : isB c nm (x0, x1, x2) = (decide (cls x1 = c) && decide (x0 = nm)) := rfl
      rw [hi] at hwo
      have HW := Lib.hid hwo
      clear hc hx hdr hwo hi
      simp only at q0 q1 q2
      have hC := rclass_any x1 wr
      obtain ⟨d, hd⟩ : ∃ d, d = cls x1 := ⟨_, rfl⟩
      rw [← hd] at hC
      have HC := Lib.hid hC
      have HD := Lib.hid hd
      clear hC hd
      have hkk : (x0.toList == nm.toList) = decide (x0 = nm) := eqC x0 nm
      by_cases hdc : d = c
      · have hdb : (d == c) = true := by rw [beq_iff_eq]; exact hdc
        have hdn : (d != c) = false := by rw [bne_eq_false_iff_eq]; exact hdc
        by_cases hxn : x0 = nm
        · rw [decide_eq_true hxn] at hkk
          have hmm : M = X ++ withoutM (L.drop (k + 1)) c nm := by rw [HX.out, HW.out, ← HD.out, decide_eq_true hdc, decide_eq_true hxn]; rfl
          have HMM := Lib.hid hmm
          clear hxn hmm hdc
          go_wp2_with fail
          refine HC.out.mono ?_
          rintro e w2 ⟨rfl, rfl⟩
          go_wp2_with fail
          exact ⟨⟨k + 1, X, by omega, by go_num, HO.out, by omega, HMM.out, HB.out⟩, by simp [intOf]; omega⟩
        · rw [decide_eq_false hxn] at hkk
          have hmm : M = X ++ [(x0, x1, x2)] ++ withoutM (L.drop (k + 1)) c nm := by rw [HX.out, HW.out, decide_eq_false hxn, Bool.and_false, List.append_assoc]; rfl
          have HMM := Lib.hid hmm
          clear hxn hmm hdc
          go_wp2_with fail
          refine HC.out.mono ?_
          rintro e w2 ⟨rfl, rfl⟩
          go_wp2_with (at_builtin; refine wpList_append_ent rfl (.tmp 32) (.tmp 37) rfl w.heap.size w _ X x0 x1 x2 rfl wr HO.out HB.out HB.out.size (by omega) rfl ?_; intro v3 w3 hown3 hb3)
          exact ⟨⟨k + 1, X ++ [(x0, x1, x2)], by omega, by go_num, hown3.out, by simp; omega, HMM.out, hb3.out⟩, by simp [intOf]; omega⟩
      · have hdb : (d == c) = false := by rw [beq_eq_false_iff_ne]; exact hdc
        have hdn : (d != c) = true := by rw [bne_iff_ne]; exact hdc
        have hmm : M = X ++ [(x0, x1, x2)] ++ withoutM (L.drop (k + 1)) c nm := by rw [HX.out, HW.out, ← HD.out, decide_eq_false hdc, Bool.false_and, List.append_assoc]; rfl
        have HMM := Lib.hid hmm
        clear hmm hdc
        go_wp2_with fail
        refine HC.out.mono ?_
        rintro e w2 ⟨rfl, rfl⟩
        go_wp2_with (at_builtin; refine wpList_append_ent rfl (.tmp 32) (.tmp 37) rfl w.heap.size w _ X x0 x1 x2 rfl wr HO.out HB.out HB.out.size (by omega) rfl ?_; intro v3 w3 hown3 hb3)
        exact ⟨⟨k + 1, X ++ [(x0, x1, x2)], by omega, by go_num, hown3.out, by simp; omega, HMM.out, hb3.out⟩, by simp [intOf]; omega⟩
    · obtain rfl : k = n := by omega
      have hMX : M = X := by
        have := HX.out
        rw [List.drop_of_length_le (by have := HL.out; omega)] at this
        simpa [withoutM] using this
      have HMX := Lib.hid hMX
      clear hMX
      go_wp2_with fail
      go_ret
      rw [HMX.out]
      exact ⟨own_end HO.out, HB.out⟩
end Go.Proofs.YtgbfkchjcjdnnaaDoor
