/-
  with and put of the reference.
-/
import Derived.Test.YtgbfkchjcjdnnaaDoorOwn7
namespace Go.Proofs.YtgbfkchjcjdnnaaDoor
set_option linter.unusedVariables false
set_option linter.unusedSimpArgs false
open Go.RowKit Q

def restM (op : Ent) (dn : Bool) (R : List Ent) : List Ent := if dn then R else withM op R
theorem rest_done (op : Ent) (R : List Ent) : restM op true R = R := rfl
theorem rest_cons (op x : Ent) (R : List Ent) : restM op false (x :: R) = if befB op x then [op] ++ ([x] ++ restM op true R) else [x] ++ restM op false R := by
  show (if befB op x then op :: x :: R else x :: withM op R) = _
  rfl

set_option maxHeartbeats 4000000 in
theorem with_any (A : Option Addr) (n cap : Nat) (s : ByteArray) (t p : Int) (L : List Ent) (w : World) (hn : n ≤ 1000) (h : OpsIn w w.heap.size A n L) :
    Calls Tryd.prog 50 #[.slice A n cap, .agg #[.string s, .int .i64 t, .int .i64 p]] w fun e w' => OwnEnd w' (withM (s, t, p) L) e ∧ Below w.heap.size w w' := by
  have hm : Tryd.prog.follows .mixedOrders = true := by kernel_rfl
  have hbx : Below w.heap.size w (w.alloc (.cells #[.string s, .int .i64 t, .int .i64 p] 26)) := (Below.refl _ _).alloc (Nat.le_refl _) _
  have b0 : (w.alloc (.cells #[.string s, .int .i64 t, .int .i64 p] 26)).cell? ⟨w.heap.size, 0, none⟩ = some (.string s) := cell_new w _ _ 0
  have b1 : (w.alloc (.cells #[.string s, .int .i64 t, .int .i64 p] 26)).cell? ⟨w.heap.size, 1, none⟩ = some (.int .i64 t) := cell_new w _ _ 1
  have b2 : (w.alloc (.cells #[.string s, .int .i64 t, .int .i64 p] 26)).cell? ⟨w.heap.size, 2, none⟩ = some (.int .i64 p) := cell_new w _ _ 2
  have hsz : (w.alloc (.cells #[.string s, .int .i64 t, .int .i64 p] 26)).heap.size = w.heap.size + 1 := by simp
  have hP := h.on hbx hbx.size
  obtain ⟨M, hM⟩ : ∃ M, M = withM (s, t, p) L := ⟨_, rfl⟩
  rw [← hM]
  have HM := Lib.hid hM
  have HL := Lib.hid h.len
  clear h hM
  go_enter Tryd.func50, Tryd.ntmps50
  go_wp2_with fail
  obtain ⟨W0, hW0⟩ : ∃ W0, W0 = w.alloc (.cells #[.string s, .int .i64 t, .int .i64 p] 26) := ⟨_, rfl⟩
  rw [← hW0] at hbx b0 b1 b2 hsz hP ⊢
  obtain ⟨B, hB⟩ : ∃ B, B = W0.heap.size := ⟨_, rfl⟩
  obtain ⟨g, hg⟩ : ∃ g, g = w.heap.size := ⟨_, rfl⟩
  rw [← hB] at hsz hP
  rw [← hg] at b0 b1 b2 hsz hbx ⊢
  have HP := Lib.hid hP
  have HB0 := Lib.hid b0
  have HB1 := Lib.hid b1
  have HB2 := Lib.hid b2
  have HBX := Lib.hid hbx
  have HG := Lib.hid hg
  have HBB := Lib.hid hB
  clear hP b0 b1 b2 hbx hg hW0 hB
  have hgB : g < B := by omega
  go_loopw [5, 6, 7] (fun v d i wr => ∃ (k : Nat) (X : List Ent) (dn : Bool), k ≤ n ∧ d = .bool dn ∧ i = .int .i64 k ∧ wr.ownsRow B 26 3 v X.length (cellsOf X) ∧ X.length ≤ k + (if dn then 1 else 0) ∧ M = X ++ restM (s, t, p) dn (L.drop k) ∧ Below B W0 wr ∧ B ≤ wr.heap.size) (fun _ _ i _ => n - (intOf i).toNat)
  case atStart => exact ⟨0, [], false, by omega, rfl, rfl, World.ownsRow_nil _ _ _ _, by simp, HM.out, Below.refl _ _, by rw [HBB.out]; exact Nat.le_refl _⟩
  case round =>
    obtain ⟨k, X, dn, hk, rfl, rfl, hown, hX, hMX, hb, hsw⟩ := hrel
    have HO := Lib.hid hown
    have HX := Lib.hid hMX
    have HB := Lib.hid hb
    clear hown hMX hb
    by_cases hlt : k < n
    · obtain ⟨b, off, rfl, hb', hc⟩ := HP.out.cells (by omega)
      have q0 := (HB.out.cell (p := ⟨b, off + k * 3, none⟩) hb').trans (hc k hlt).1
      have q1 := (HB.out.cell (p := ⟨b, off + k * 3 + 1, none⟩) hb').trans (hc k hlt).2.1
      have q2 := (HB.out.cell (p := ⟨b, off + k * 3 + 2, none⟩) hb').trans (hc k hlt).2.2
      have hdr := drop_ent (L := L) (k := k) (by have := HL.out; omega)
      obtain ⟨⟨x0, x1, x2⟩, hx⟩ : ∃ x, x = ent L k := ⟨_, rfl⟩
      rw [← hx] at q0 q1 q2 hdr
      have hmx := HX.out
      rw [hdr] at hmx
      have HMX := Lib.hid hmx
      clear hc hx hdr hmx HX
      simp only at q0 q1 q2
      have hlb : b < wr.heap.size := Nat.lt_of_lt_of_le hb' hsw
      have hlg : g < wr.heap.size := Nat.lt_of_lt_of_le hgB hsw
      have p0 := (HB.out.cell (p := ⟨g, 0, none⟩) hgB).trans HB0.out
      have p1 := (HB.out.cell (p := ⟨g, 1, none⟩) hgB).trans HB1.out
      have p2 := (HB.out.cell (p := ⟨g, 2, none⟩) hgB).trans HB2.out
      have e0 : ∀ q : Bw wr, q.to.cell? ⟨b, off + k * 3, none⟩ = some (.string x0) := cell_bw hlb q0
      have e1 : ∀ q : Bw wr, q.to.cell? ⟨b, off + k * 3 + 1, none⟩ = some (.int .i64 x1) := cell_bw hlb q1
      have e2 : ∀ q : Bw wr, q.to.cell? ⟨b, off + k * 3 + 2, none⟩ = some (.int .i64 x2) := cell_bw hlb q2
      have f0 : ∀ q : Bw wr, q.to.cell? ⟨g, 0, none⟩ = some (.string s) := cell_bw hlg p0
      have f1 : ∀ q : Bw wr, q.to.cell? ⟨g, 1, none⟩ = some (.int .i64 t) := cell_bw hlg p1
      have f2 : ∀ q : Bw wr, q.to.cell? ⟨g, 2, none⟩ = some (.int .i64 p) := cell_bw hlg p2
      clear p0 p1 p2 q0 q1 q2
      cases dn
      · have hF : ∀ q : Bw wr, Calls Tryd.prog 48 #[.agg #[.string s, .int .i64 t, .int .i64 p], .agg #[.string x0, .int .i64 x1, .int .i64 x2]] q.to fun e' w' => e' = .returned (.bool (befB (s, t, p) (x0, x1, x2))) ∧ Below q.to.heap.size q.to w' := fun q => before_any (s, t, p) (x0, x1, x2) q.to
        obtain ⟨f, hf⟩ : ∃ f, f = befB (s, t, p) (x0, x1, x2) := ⟨_, rfl⟩
        rw [← hf] at hF
        have HFF := Lib.hid hf
        clear hf
        cases f
        · have HMM := Lib.hid (show M = X ++ [(x0, x1, x2)] ++ restM (s, t, p) false (L.drop (k + 1)) by rw [HMX.out, rest_cons, ← HFF.out, List.append_assoc]; rfl)
          go_wp2_with fail
          refine wp_region_bw hm (by kernel_rfl) ?_
          repeat (go_big_quiet_step (fail))
          go_big_quiet_step (exact calls_bw (hF _))
          repeat (go_big_quiet_step (fail))
          refine wpQuiet_nil ?_
          intro _ hw'
          obtain ⟨pq, hw''⟩ := hw'
          subst hw''
          have HOP := Lib.hid (own_below HO.out pq.ok)
          have hbp := HB.out.trans (pq.ok.mono hsw)
          have hsp : B ≤ pq.to.heap.size := Nat.le_trans hsw pq.ok.size
          have HBP := Lib.hid hbp
          have e0' := e0 pq
          have e1' := e1 pq
          have e2' := e2 pq
          have f0' := f0 pq
          have f1' := f1 pq
          have f2' := f2 pq
          clear e0 e1 e2 f0 f1 f2 hF hbp
          generalize pq.to = wq at HOP hsp HBP e0' e1' e2' f0' f1' f2' ⊢
          go_wp2_with (at_builtin; refine wpList_append_ent rfl (.tmp 28) (.tmp 33) rfl B W0 _ X x0 x1 x2 rfl wq HOP.out HBP.out hsp (by simp at hX; omega) rfl ?_; intro v3 w3 hown3 hb3)
          exact ⟨⟨k + 1, X ++ [(x0, x1, x2)], false, by omega, rfl, by go_num, hown3.out, by simp at hX ⊢; omega, HMM.out, hb3.out, by have := hb3.out.size; rw [← HBB.out] at this; exact this⟩, by simp [intOf]; omega⟩
        · have HMM := Lib.hid (show M = X ++ [(s, t, p)] ++ [(x0, x1, x2)] ++ restM (s, t, p) true (L.drop (k + 1)) by rw [HMX.out, rest_cons, ← HFF.out, List.append_assoc, List.append_assoc]; rfl)
          go_wp2_with fail
          refine wp_region_bw hm (by kernel_rfl) ?_
          repeat (go_big_quiet_step (fail))
          go_big_quiet_step (exact calls_bw (hF _))
          repeat (go_big_quiet_step (fail))
          refine wpQuiet_nil ?_
          intro _ hw'
          obtain ⟨pq, hw''⟩ := hw'
          subst hw''
          have HOP := Lib.hid (own_below HO.out pq.ok)
          have hbp := HB.out.trans (pq.ok.mono hsw)
          have hsp : B ≤ pq.to.heap.size := Nat.le_trans hsw pq.ok.size
          have HBP := Lib.hid hbp
          have f0' := f0 pq
          have f1' := f1 pq
          have f2' := f2 pq
          have hrow : ∀ W, Below B W0 W → W.cell? ⟨b, off + k * 3, none⟩ = some (.string x0) ∧ W.cell? ⟨b, off + k * 3 + 1, none⟩ = some (.int .i64 x1) ∧ W.cell? ⟨b, off + k * 3 + 2, none⟩ = some (.int .i64 x2) := fun W hW => ⟨((hW.cell hb').trans (HBP.out.cell (p := ⟨b, off + k * 3, none⟩) hb').symm).trans (e0 pq), ((hW.cell hb').trans (HBP.out.cell (p := ⟨b, off + k * 3 + 1, none⟩) hb').symm).trans (e1 pq), ((hW.cell hb').trans (HBP.out.cell (p := ⟨b, off + k * 3 + 2, none⟩) hb').symm).trans (e2 pq)⟩
          have HROW := Lib.hid hrow
          clear e0 e1 e2 f0 f1 f2 hF hbp hrow
          generalize pq.to = wq at HOP hsp HBP f0' f1' f2' ⊢
          go_wp2_with (first
            | (at_builtin; refine wpList_append_ent rfl (.tmp 24) (.tmp 26) rfl B W0 _ X s t p rfl wq HOP.out HBP.out hsp (by simp at hX; omega) rfl ?_; intro v3 w3 hown3 hb3; have e0' := (HROW.out w3 hb3.out).1; have e1' := (HROW.out w3 hb3.out).2.1; have e2' := (HROW.out w3 hb3.out).2.2; have hs3 : B ≤ w3.heap.size := (by have := hb3.out.size; rw [← HBB.out] at this; exact this))
            | (at_builtin; refine wpList_append_ent rfl (.tmp 28) (.tmp 33) rfl B W0 _ (X ++ [(s, t, p)]) x0 x1 x2 rfl w3 hown3.out hb3.out hs3 (by simp at hX ⊢; omega) rfl ?_; intro v4 w4 hown4 hb4))
          exact ⟨⟨k + 1, X ++ [(s, t, p)] ++ [(x0, x1, x2)], true, by omega, rfl, by go_num, hown4.out, by simp at hX ⊢; omega, HMM.out, hb4.out, by have := hb4.out.size; rw [← HBB.out] at this; exact this⟩, by simp [intOf]; omega⟩
      · have HMM := Lib.hid (show M = X ++ [(x0, x1, x2)] ++ restM (s, t, p) true (L.drop (k + 1)) by rw [HMX.out, rest_done, List.append_assoc]; rfl)
        go_wp2_with fail
        refine wp_region_bw hm (by kernel_rfl) ?_
        repeat (go_big_quiet_step (fail))
        refine wpQuiet_nil ?_
        intro _ hw'
        obtain ⟨pq, hw''⟩ := hw'
        subst hw''
        have HOP := Lib.hid (own_below HO.out pq.ok)
        have hbp := HB.out.trans (pq.ok.mono hsw)
        have hsp : B ≤ pq.to.heap.size := Nat.le_trans hsw pq.ok.size
        have HBP := Lib.hid hbp
        have e0' := e0 pq
        have e1' := e1 pq
        have e2' := e2 pq
        clear e0 e1 e2 f0 f1 f2 hbp
        generalize pq.to = wq at HOP hsp HBP e0' e1' e2' ⊢
        go_wp2_with (at_builtin; refine wpList_append_ent rfl (.tmp 28) (.tmp 33) rfl B W0 _ X x0 x1 x2 rfl wq HOP.out HBP.out hsp (by simp at hX; omega) rfl ?_; intro v3 w3 hown3 hb3)
        exact ⟨⟨k + 1, X ++ [(x0, x1, x2)], true, by omega, rfl, by go_num, hown3.out, by simp at hX ⊢; omega, HMM.out, hb3.out, by have := hb3.out.size; rw [← HBB.out] at this; exact this⟩, by simp [intOf]; omega⟩
    · obtain rfl : k = n := by omega
      have hMX : M = X ++ restM (s, t, p) dn [] := by
        have := HX.out
        rwa [List.drop_of_length_le (by have := HL.out; omega)] at this
      have HMX := Lib.hid hMX
      have f0' := (HB.out.cell (p := ⟨g, 0, none⟩) hgB).trans HB0.out
      have f1' := (HB.out.cell (p := ⟨g, 1, none⟩) hgB).trans HB1.out
      have f2' := (HB.out.cell (p := ⟨g, 2, none⟩) hgB).trans HB2.out
      clear hMX
      cases dn
      · have hsp : B ≤ wr.heap.size := hsw
        go_wp2_with (at_builtin; refine wpList_append_ent rfl (.tmp 37) (.tmp 39) rfl B W0 _ X s t p rfl wr HO.out HB.out hsp (by simp at hX; omega) rfl ?_; intro v3 w3 hown3 hb3)
        go_ret
        have hM2 : M = X ++ [(s, t, p)] := HMX.out
        rw [hM2]
        exact ⟨own_end hown3.out, by rw [← HG.out]; exact HBX.out.trans (hb3.out.mono (Nat.le_of_lt hgB))⟩
      · go_wp2_with fail
        go_ret
        have hM2 : M = X := by have := HMX.out; rwa [rest_done, List.append_nil] at this
        rw [hM2]
        exact ⟨own_end HO.out, by rw [← HG.out]; exact HBX.out.trans (HB.out.mono (Nat.le_of_lt hgB))⟩

/-! ### put -/
def putM (L : List Ent) (p t : Int) (names : List ByteArray) : List Ent := names.foldl (fun l nm => withM (nm, t, p) l) L
theorem withM_len (op : Ent) : ∀ L : List Ent, (withM op L).length = L.length + 1
  | [] => rfl
  | x :: r => by
    unfold withM
    split
    · simp
    · simp [withM_len op r]
theorem putM_len (p t : Int) : ∀ (names : List ByteArray) (L : List Ent), (putM L p t names).length = L.length + names.length
  | [], _ => rfl
  | a :: r, L => by
    show (putM (withM (a, t, p) L) p t r).length = _
    rw [putM_len p t r, withM_len]
    simp; omega

theorem putM_take (p t : Int) (L : List Ent) (names : List ByteArray) {k : Nat} {x : ByteArray} (h : names[k]? = some x) : putM L p t (names.take (k + 1)) = withM (x, t, p) (putM L p t (names.take k)) := by
  unfold putM
  have hk : k < names.length := (List.getElem?_eq_some_iff.1 h).1
  have hx : names[k] = x := (List.getElem?_eq_some_iff.1 h).2
  rw [List.take_succ_eq_append_getElem hk, List.foldl_append, hx]
  rfl
def TabEnd (w' : World) (M : List Ent) (e : Ending) : Prop := ∃ A c, e = .returned (.slice A M.length c) ∧ OpsIn w' w'.heap.size A M.length M

set_option maxHeartbeats 2000000 in
theorem put_any (A : Option Addr) (cap b m : Nat) (p t : Int) (names : List ByteArray) (L : List Ent) (w : World) (hl : names.length = m) (hn : L.length + m ≤ 900) (h : OpsIn w w.heap.size A L.length L) (hb : b < w.heap.size)
    (hnm : ∀ j s, names[j]? = some s → w.cell? ⟨b, j, none⟩ = some (.string s)) :
    Calls Tryd.prog 44 #[.slice A L.length cap, .int .i64 p, .int .i64 t, .slice (some ⟨b, 0, none⟩) m m] w fun e w' => TabEnd w' (putM L p t names) e ∧ Below w.heap.size w w' := by
  obtain ⟨n, hnn⟩ : ∃ n, n = L.length := ⟨_, rfl⟩
  have HP := Lib.hid h
  have HL := Lib.hid hl
  have HN := Lib.hid hnm
  have HNN := Lib.hid hnn
  rw [← hnn] at hn ⊢
  clear h hl hnm hnn
  go_enter Tryd.func44, Tryd.ntmps44
  go_wp2_with fail
  go_loopw [0, 9] (fun v i wr => ∃ (k : Nat) (X : List Ent) (A' : Option Addr) (c' r : Nat), k ≤ m ∧ i = .int .i64 k ∧ X = putM L p t (names.take k) ∧ r = X.length ∧ r = n + k ∧ v = .slice A' r c' ∧ OpsIn wr wr.heap.size A' r X ∧ Below w.heap.size w wr) (fun _ i _ => m - (intOf i).toNat)
  case atStart => exact ⟨0, L, A, cap, n, by omega, rfl, rfl, HNN.out, rfl, rfl, by rw [HNN.out]; exact HP.out, Below.refl _ _⟩
  case round =>
    obtain ⟨k, X, A', c', r, hk, rfl, hX, hr, hr2, rfl, hop, hbl⟩ := hrel
    have HO := Lib.hid hop
    have HB := Lib.hid hbl
    have HX := Lib.hid hX
    have HR := Lib.hid hr
    have HR2 := Lib.hid hr2
    clear hop hbl hX hr hr2
    by_cases hlt : k < m
    · have hkn : k < names.length := by rw [HL.out]; exact hlt
      obtain ⟨x, hx⟩ : ∃ x, names[k]? = some x := ⟨_, List.getElem?_eq_getElem hkn⟩
      have hc := (HB.out.cell (p := ⟨b, k, none⟩) hb).trans (HN.out k x hx)
      have hW := with_any A' r c' x t p X wr (by have := HR2.out; omega) HO.out
      have HT := Lib.hid (putM_take p t L names hx)
      have HW := Lib.hid hW
      clear hx hW
      go_wp2_with fail
      refine HW.out.mono ?_
      rintro e w1 ⟨⟨A2, c2, rfl, hc2, ho2⟩, hb2⟩
      have HO2 := Lib.hid ho2
      have HB2 := Lib.hid (HB.out.trans (hb2.mono HB.out.size))
      clear ho2 hb2
      go_wp2_with fail
      exact ⟨⟨k + 1, withM (x, t, p) X, A2, c2, (withM (x, t, p) X).length, by omega, by go_num, by rw [HT.out, ← HX.out], rfl, by have := HR2.out; rw [withM_len, ← HR.out]; omega, rfl, HO2.out, HB2.out⟩, by simp [intOf]; omega⟩
    · obtain rfl : k = m := by omega
      have hM : X = putM L p t names := by
        rw [HX.out, List.take_of_length_le (by rw [HL.out]; exact Nat.le_refl _)]
      have HM := Lib.hid hM
      clear hM
      go_wp2_with fail
      go_ret
      have hr := HR.out
      subst hr
      rw [← HM.out]
      exact ⟨⟨A', c', rfl, HO.out⟩, HB.out⟩
end Go.Proofs.YtgbfkchjcjdnnaaDoor
