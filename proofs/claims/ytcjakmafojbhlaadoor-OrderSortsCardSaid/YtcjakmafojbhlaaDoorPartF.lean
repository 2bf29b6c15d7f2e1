/-
  The reference's key and insert.
  The statements' own helpers: makers of terms, SameAll, count, few.
  The library's CompactFunc at terms.
  Package order's Sort, Stable and Keys.
  Whether a row increases; the rank of a term.
  A region that draws its order, where some of its edges bind in one of the two orders only.
  The library's BinarySearchFunc at terms.
  Package order's Rank.
-/
import Derived.Test.YtcjakmafojbhlaaDoorPartE
import Derived.Test.YtcjakmafojbhlaaDoorPartA
import Derived.Test.YtcjakmafojbhlaaDoorPartB
import Derived.Test.YtcjakmafojbhlaaDoorPartD
namespace Go.Proofs.YtcjakmafojbhlaaDoor
set_option linter.unusedVariables false
set_option linter.unusedSimpArgs false
open Go.RowKit

set_option maxHeartbeats 1000000 in
theorem rkey_whole (p : Pay) (A : Option Addr) (n c : Nat) (w : World) :
    Calls Tryd.prog 69 #[tv p A n c, .bool false] w fun e w' => e = .returned (tv p A n c) ∧ Below w.heap.size w w' := by
  go_enter Tryd.func69, Tryd.ntmps69
  go_wp2_with fail
  refine bodyPost_ret (term_result (q := 4) rfl _ _ (w.heap.size + 1) p A n c rfl (term_new2 _ _ _ _ _ _)) rfl ?_
  exact ⟨rfl, two_boxes w _ _⟩
set_option maxHeartbeats 2000000 in
theorem rkey_pair (p p1 : Pay) (A1 : Option Addr) (b o n n1 c c1 : Nat) (w : World) (hb : b < w.heap.size) (hn : 0 < n)
    (y0 : w.cell? ⟨b, o, none⟩ = some (.int .i64 p1.1)) (y1 : w.cell? ⟨b, o + 1, none⟩ = some (.int .i64 p1.2.1)) (y2 : w.cell? ⟨b, o + 2, none⟩ = some (.string p1.2.2)) (y3 : w.cell? ⟨b, o + 3, none⟩ = some (.slice A1 n1 c1)) :
    Calls Tryd.prog 69 #[tv p (some ⟨b, o, none⟩) n c, .bool true] w fun e w' => e = .returned (tv p1 A1 n1 c1) ∧ Below w.heap.size w w' := by
  have hn2 : (0 : Int) < (n : Int) := by omega
  go_enter Tryd.func69, Tryd.ntmps69
  go_wp2_with fail
  refine bodyPost_ret (term_result (q := 4) rfl _ _ (w.heap.size + 1) p1 A1 n1 c1 rfl (term_new2 _ _ _ _ _ _)) rfl ?_
  exact ⟨rfl, two_boxes w _ _⟩
/-- The key of a term of old memory, in whatever world has that memory. -/
theorem rkey_any (b : Bool) (p : Pay) (l : Fo) (A : Option Addr) (c : Nat) (w : World) (hA : ArgsB w w.heap.size A (Tm.len l) l) (hl : b = true → l ≠ .nil) :
    ∃ A1 c1, ArgsB w w.heap.size A1 (Tm.len (Tm.part b (p, l)).2) (Tm.part b (p, l)).2 ∧ ∀ q : Bw w, Calls Tryd.prog 69 #[tv p A (Tm.len l) c, .bool b] q.to fun e w' => e = .returned (tv (Tm.part b (p, l)).1 A1 (Tm.len (Tm.part b (p, l)).2) c1) ∧ Below q.to.heap.size q.to w' := by
  cases b with
  | false => exact ⟨A, c, hA, fun q => rkey_whole p A (Tm.len l) c q.to⟩
  | true =>
    cases l with
    | nil => exact absurd rfl (hl rfl)
    | node p1 l1 r1 =>
      have hk : 0 < Tm.len (.node p1 l1 r1) := by show 0 < Tm.len r1 + 1; omega
      obtain ⟨b, o, p2, l2, r2, A1, c1, rfl, hb, hd, hn⟩ := hA.at hk
      cases hd
      rw [Nat.zero_mul, Nat.add_zero] at hn
      exact ⟨A1, c1, hn.inn, fun q => rkey_pair p p1 A1 b o _ _ c c1 q.to (Nat.lt_of_lt_of_le hb q.ok.size) hk (cell_bw (a := ⟨b, o, none⟩) hb hn.kind q) (cell_bw (a := ⟨b, o + 1, none⟩) hb hn.num q) (cell_bw (a := ⟨b, o + 2, none⟩) hb hn.name q) (cell_bw (a := ⟨b, o + 3, none⟩) hb hn.args q)⟩
/-! ### parts of a row -/
def Tm.takeF (F : Fo) (k : Nat) : Fo := Tm.ofL ((Tm.toL F).take k)
theorem RowIn.take {S : Nat → Prop} {w : World} : ∀ (F : Fo) (b o k : Nat), RowIn S w F b o → RowIn S w (Tm.takeF F k) b o
  | .nil, _, _, k, _ => by cases k <;> trivial
  | .node _ _ _, _, _, 0, _ => trivial
  | .node p l r, b, o, k + 1, ⟨h0, h1, h2, h3, h4⟩ => ⟨h0, h1, h2, h3, RowIn.take r b (o + 4) k h4⟩
theorem RowIn.drop {S : Nat → Prop} {w : World} : ∀ (F : Fo) (b o k : Nat), RowIn S w F b o → RowIn S w (Tm.dropF F k) b (o + k * 4)
  | .nil, _, _, k, _ => by cases k <;> trivial
  | .node _ _ _, _, _, 0, h => by rw [Nat.zero_mul, Nat.add_zero]; exact h
  | .node p l r, b, o, k + 1, ⟨_, _, _, _, h4⟩ => by
    have := RowIn.drop r b (o + 4) k h4
    rw [show o + 4 + k * 4 = o + (k + 1) * 4 by omega] at this
    exact this
theorem Tm.takeF_len (F : Fo) (k : Nat) (hk : k ≤ Tm.len F) : Tm.len (Tm.takeF F k) = k := by rw [← Tm.len_toL, Tm.takeF, Tm.toL_ofL, List.length_take, Tm.len_toL]; omega
theorem ArgsIn.take {S : Nat → Prop} {w : World} {b o n k : Nat} {F : Fo} (h : ArgsIn S w (some ⟨b, o, none⟩) n F) (hk : k ≤ n) : ArgsIn S w (some ⟨b, o, none⟩) k (Tm.takeF F k) := by
  refine ⟨Tm.takeF_len F k (by rw [h.len]; exact hk), Nat.le_trans hk h.hi, fun h0 => ?_⟩
  obtain ⟨b', o', e, hS, hr⟩ := h.row (by omega)
  cases e
  exact ⟨b, o, rfl, hS, hr.take F b o k⟩
theorem ArgsIn.drop {S : Nat → Prop} {w : World} {b o n k : Nat} {F : Fo} (h : ArgsIn S w (some ⟨b, o, none⟩) n F) : ArgsIn S w (some ⟨b, o + k * 4, none⟩) (n - k) (Tm.dropF F k) := by
  refine ⟨by rw [Tm.len_drop, h.len], Nat.le_trans (Nat.sub_le _ _) h.hi, fun h0 => ?_⟩
  obtain ⟨b', o', e, hS, hr⟩ := h.row (by omega)
  cases e
  exact ⟨b, o + k * 4, rfl, hS, hr.drop F b o k⟩
theorem OwnR.mono {N N' : Nat} {w : World} {A : Option Addr} {n c : Nat} {F : Fo} (h : OwnR N w A n c F) (hN : N' ≤ N) : OwnR N' w A n c F := by
  obtain ⟨vs, h1, h2, h3⟩ := h.own
  refine ⟨⟨vs, h1, h2, h3.1, ?_⟩, Nat.le_trans hN h.lo⟩
  rcases h3.2 with h4 | ⟨g, cap, cur, e, h4, h5⟩
  · exact .inl h4
  · exact .inr ⟨g, cap, cur, e, Nat.le_trans hN h4, h5⟩
theorem OwnR.cap {N : Nat} {w : World} {A : Option Addr} {n c : Nat} {F : Fo} (h : OwnR N w A n c F) : n ≤ c ∧ c ≤ 9223372036854775807 ∧ (A = none ∧ n = 0 ∧ c = 0 ∨ ∃ g, A = some ⟨g, 0, none⟩) := by
  obtain ⟨vs, h1, h2, h3⟩ := h.own
  rcases h3.2 with ⟨e, h4⟩ | ⟨g, cap, cur, e, h4, h5, h6, h7, _⟩
  · cases e; exact ⟨by omega, by omega, .inl ⟨rfl, rfl, rfl⟩⟩
  · cases e; exact ⟨h6, h7, .inr ⟨g, rfl⟩⟩

theorem takeF_toL (F : Fo) (k : Nat) : Tm.toL (Tm.takeF F k) = (Tm.toL F).take k := by rw [Tm.takeF, Tm.toL_ofL]
theorem zero_take {B n : Nat} {w : World} {A : Option Addr} {F : Fo} (h : ArgsB w B A n F) : ArgsB w B A 0 (Tm.takeF F 0) := by
  rw [show Tm.takeF F 0 = .nil by cases F <;> rfl]
  exact ArgsIn.nil _ _ _
theorem zero_drop {B n : Nat} {w : World} {A : Option Addr} {F : Fo} (h : ArgsB w B A n F) : ArgsB w B A n (Tm.dropF F 0) := by rw [Tm.drop_zero]; exact h
theorem end_drop {S : Nat → Prop} {n : Nat} {w : World} {A : Option Addr} {F : Fo} (h : Tm.len F = n) : ArgsIn S w A 0 (Tm.dropF F n) := by
  rw [← h, Tm.drop_end]
  exact ArgsIn.nil _ _ _
theorem len5 {F : Fo} {n k : Nat} {p : Pay} {l : Fo} (h : Tm.len F = n) (hk : k ≤ n) : Tm.len (Tm.app (Tm.app (Tm.app .nil (Tm.takeF F k)) (.node p l .nil)) (Tm.dropF F k)) = n + 1 := by
  rw [Tm.len_app, Tm.len_app, Tm.len_app, Tm.takeF_len F k (by omega), Tm.len_drop, h]
  show 0 + k + 1 + (n - k) = n + 1
  omega
theorem one_src {N B : Nat} {w : World} {A3 : Option Addr} {n3 c3 : Nat} {F3 : Fo} (o : OwnR N w A3 n3 c3 F3) {p : Pay} {l : Fo} {m : Nat} (hm : m = Tm.len l) {A0 : Option Addr} {c0 : Nat} (hx : ArgsB w B A0 (Tm.len l) l) (hB : B ≤ N) (hN : N ≤ w.heap.size) :
    ArgsIn (fun b => b < (w.alloc (.cells #[.int .i64 p.1, .int .i64 p.2.1, .string p.2.2, .slice A0 m c0] 24)).heap.size ∧ (Value.slice A3 n3 c3).ownBlock ≠ some b) (w.alloc (.cells #[.int .i64 p.1, .int .i64 p.2.1, .string p.2.2, .slice A0 m c0] 24)) (some ⟨w.heap.size, 0, none⟩) 1 (.node p l .nil) := by
  subst hm
  exact args_one hx (fun b (hb : b < B) => ⟨by omega, by rw [World.size_alloc]; omega, fun e => by have := (o.lt e).1; omega⟩) ⟨by rw [World.size_alloc]; omega, fun e => by have := (o.lt e).2; omega⟩
theorem insert_eq {b : Bool} {F : Fo} {x : Tm.Tn} {k : Nat} (h : Tm.insPos b (Tm.toL F) x (Tm.toL F).length = k) : Tm.app (Tm.app (Tm.takeF F k) (.node x.1 x.2 .nil)) (Tm.dropF F k) = Tm.ofL (Tm.insertL b (Tm.toL F) x) := by
  refine Tm.toL_inj ?_
  rw [Tm.toL_app, Tm.toL_app, takeF_toL, Tm.toL_drop, Tm.toL_ofL, Tm.insertL, h]
  simp [Tm.toL]
set_option maxHeartbeats 4000000 in
set_option maxRecDepth 100000 in
theorem insert_any (b : Bool) (F : Fo) (A : Option Addr) (n c : Nat) (x : Tm.Tn) (A0 : Option Addr) (c0 : Nat) (w : World) (hA : ArgsB w w.heap.size A n F) (hcap : A = none ∧ n = 0 ∧ c = 0 ∨ ∃ b o, A = some ⟨b, o, none⟩) (hnc : n ≤ c) (hc63 : c ≤ 9223372036854775807) (hn : n ≤ 50000) (hx : ArgsB w w.heap.size A0 (Tm.len x.2) x.2) (hF : ∀ y ∈ Tm.toL F, OkT b y) (hok : OkT b x) :
    Calls Tryd.prog 48 #[.slice A n c, tv x.1 A0 (Tm.len x.2) c0, .bool b] w fun e w' => ∃ A' c', e = .returned (.slice A' (n + 1) c') ∧ OwnR w.heap.size w' A' (n + 1) c' (Tm.ofL (Tm.insertL b (Tm.toL F) x)) ∧ Below w.heap.size w w' := by
  obtain ⟨p, l⟩ := x
  obtain ⟨m, hm⟩ : ∃ m, m = Tm.len l := ⟨_, rfl⟩
  have HLEN := Lib.hid hA.len
  have HA := Lib.hid hA
  have HX := Lib.hid hx
  have HF := Lib.hid hF
  have HOK := Lib.hid hok
  have HM := Lib.hid hm
  have hlL : (Tm.toL F).length = n := by rw [Tm.len_toL, hA.len]
  have HLL := Lib.hid hlL
  have HCAP := Lib.hid hcap
  show Calls _ _ #[.slice A n c, tv p A0 (Tm.len l) c0, .bool b] _ _
  rw [← hm]
  clear hA hx hF hok hm hlL hcap
  go_enter Tryd.func48, Tryd.ntmps48
  go_wp2_with fail
  go_loopw [7] (fun u wr => ∃ k : Nat, u = .int .i64 k ∧ k ≤ n ∧ Hid (Tm.insPos b (Tm.toL F) (p, l) n = Tm.insPos b (Tm.toL F) (p, l) k) ∧ TermAt wr w.heap.size p A0 m c0 ∧ w.heap.size < wr.heap.size ∧ Below w.heap.size w wr) (fun u _ => (intOf u).toNat)
  case atStart => exact ⟨n, rfl, Nat.le_refl _, rfl, TermAt.new w p A0 m c0 24, by simp, (Below.refl _ w).alloc (Nat.le_refl _) _⟩
  case round =>
    obtain ⟨k, rfl, hkn, HI, hta, hlt, hbl⟩ := hrel
    have HTA := Lib.hid hta
    have HB := Lib.hid hbl
    clear hta hbl
    by_cases h0 : k = 0
    · subst h0
      have HFIN := Lib.hid (show Tm.insPos b (Tm.toL F) (p, l) n = 0 from HI.out)
      go_wp2_with fail
      have hm : Tryd.prog.follows .mixedOrders = true := by kernel_rfl
      refine wp_region_bw hm (by kernel_rfl) ?_
      repeat (go_big_quiet_step (fail))
      refine wpQuiet_nil ?_
      intro _ hw'
      obtain ⟨pq, hw''⟩ := hw'
      subst hw''
      have hsp := pq.ok.size
      have HBW := Lib.hid (HB.out.trans (pq.ok.mono (by omega)))
      have HTW := Lib.hid (HTA.out.same (pq.ok.block w.heap.size hlt))
      generalize pq.to = w2 at HBW HTW hsp ⊢
      rcases HCAP.out with ⟨rfl, rfl, rfl⟩ | ⟨bk, of, rfl⟩
      · have hn5 : 0 ≤ 50000 := by omega
        have HAW := Lib.hid (HA.out.below HBW.out (Nat.le_refl _))
        have HXW := Lib.hid (HX.out.below HBW.out (Nat.le_refl _))
        go_wp2_with (at_builtin; refine wpList_append_terms rfl _ _ rfl (OwnR.start (N := w2.heap.size) (Nat.le_refl _)) rfl (A := none) (m := 0) (c := 0) (G := Tm.takeF F (0)) rfl ((zero_take HAW.out).mono fun b_ (hb_ : b_ < w.heap.size) => ⟨by omega, by simp [Value.ownBlock]⟩) (by omega) ?_)
        intro A3 c3 w3 o3 b3 k3
        try simp only [Nat.zero_add] at o3 ⊢
        have ht3 := HTW.out.same (k3 w.heap.size (by omega) (by simp [Value.ownBlock]))
        have x0 := ht3.kind
        have x1 := ht3.num
        have x2 := ht3.name
        have x3 := ht3.args
        have hs3 := b3.size
        have hlt3 : w.heap.size < w3.heap.size := by omega
        have HO3 := Lib.hid o3
        have HB3 := Lib.hid b3
        clear o3 b3 k3 ht3
        go_wp2_with (at_builtin; refine wpList_append_terms rfl _ _ rfl (HO3.out.below ((Below.refl _ w3).alloc (Nat.le_refl _) _)) rfl (G := .node p l .nil) rfl (one_src HO3.out HM.out ((HXW.out.keep fun b_ (hb_ : b_ < w.heap.size) => HB3.out.block b_ (by omega))) (by omega) (by omega)) (by omega) ?_)
        intro A4 c4 w4 o4 b4 k4
        have hs4 := b4.size
        simp only [World.size_alloc] at hs4
        have HO4 := Lib.hid o4
        have HB4 := Lib.hid (HB3.out.trans (((Below.refl w2.heap.size w3).alloc (by omega) _).trans b4))
        clear o4 b4 k4
        go_wp2_with (at_builtin; refine wpList_append_terms rfl _ _ rfl HO4.out rfl (G := Tm.dropF F (0)) rfl (((zero_drop HAW.out).keep fun b_ (hb_ : b_ < w.heap.size) => HB4.out.block b_ (by omega)).mono fun b_ (hb_ : b_ < w.heap.size) => ⟨by omega, fun e => by have := (HO4.out.lt e).1; omega⟩) (by omega) ?_)
        intro A5 c5 w5 o5 b5 k5
        have hl5 := o5.len
        rw [len5 HLEN.out (k := 0) (by omega)] at hl5
        rw [← hl5] at o5 ⊢
        have HO5 := Lib.hid o5
        have HB5 := Lib.hid (HB4.out.trans b5)
        clear o5 b5 k5 hl5
        go_wp2_with fail
        go_ret
        refine ⟨A5, c5, rfl, ?_, HBW.out.trans (HB5.out.mono (by omega))⟩
        have := HO5.out.mono (N' := w.heap.size) (by omega)
        have he := insert_eq (b := b) (F := F) (x := (p, l)) (k := 0) (by rw [HLL.out]; exact HFIN.out)
        rw [← he]
        exact this
      · have hk0 : (0 : Nat) ≤ c := Nat.zero_le _
        have hn5 : n ≤ 50000 := by omega
        have HAW := Lib.hid (HA.out.below HBW.out (Nat.le_refl _))
        have HXW := Lib.hid (HX.out.below HBW.out (Nat.le_refl _))
        go_wp2_with (at_builtin; refine wpList_append_terms rfl _ _ rfl (OwnR.start (N := w2.heap.size) (Nat.le_refl _)) rfl (A := some ⟨bk, of, none⟩) (m := 0) (c := c) (G := Tm.takeF F (0)) rfl ((zero_take HAW.out).mono fun b_ (hb_ : b_ < w.heap.size) => ⟨by omega, by simp [Value.ownBlock]⟩) (by omega) ?_)
        intro A3 c3 w3 o3 b3 k3
        try simp only [Nat.zero_add] at o3 ⊢
        have ht3 := HTW.out.same (k3 w.heap.size (by omega) (by simp [Value.ownBlock]))
        have x0 := ht3.kind
        have x1 := ht3.num
        have x2 := ht3.name
        have x3 := ht3.args
        have hs3 := b3.size
        have hlt3 : w.heap.size < w3.heap.size := by omega
        have HO3 := Lib.hid o3
        have HB3 := Lib.hid b3
        clear o3 b3 k3 ht3
        go_wp2_with (at_builtin; refine wpList_append_terms rfl _ _ rfl (HO3.out.below ((Below.refl _ w3).alloc (Nat.le_refl _) _)) rfl (G := .node p l .nil) rfl (one_src HO3.out HM.out ((HXW.out.keep fun b_ (hb_ : b_ < w.heap.size) => HB3.out.block b_ (by omega))) (by omega) (by omega)) (by omega) ?_)
        intro A4 c4 w4 o4 b4 k4
        have hs4 := b4.size
        simp only [World.size_alloc] at hs4
        have HO4 := Lib.hid o4
        have HB4 := Lib.hid (HB3.out.trans (((Below.refl w2.heap.size w3).alloc (by omega) _).trans b4))
        clear o4 b4 k4
        go_wp2_with (at_builtin; refine wpList_append_terms rfl _ _ rfl HO4.out rfl (G := Tm.dropF F (0)) rfl (((zero_drop HAW.out).keep fun b_ (hb_ : b_ < w.heap.size) => HB4.out.block b_ (by omega)).mono fun b_ (hb_ : b_ < w.heap.size) => ⟨by omega, fun e => by have := (HO4.out.lt e).1; omega⟩) (by omega) ?_)
        intro A5 c5 w5 o5 b5 k5
        have hl5 := o5.len
        rw [len5 HLEN.out (k := 0) (by omega)] at hl5
        rw [← hl5] at o5 ⊢
        have HO5 := Lib.hid o5
        have HB5 := Lib.hid (HB4.out.trans b5)
        clear o5 b5 k5 hl5
        go_wp2_with fail
        go_ret
        refine ⟨A5, c5, rfl, ?_, HBW.out.trans (HB5.out.mono (by omega))⟩
        have := HO5.out.mono (N' := w.heap.size) (by omega)
        have he := insert_eq (b := b) (F := F) (x := (p, l)) (k := 0) (by rw [HLL.out]; exact HFIN.out)
        rw [← he]
        exact this
    · obtain ⟨kp, rfl⟩ : ∃ kp, k = kp + 1 := ⟨k - 1, by omega⟩
      obtain ⟨bk, of, p1, l1, r1, A1, c1, rfl, hbB, hd, hnode⟩ := HA.out.at (k := kp) (by omega)
      have hbw : bk < wr.heap.size := by have := HB.out.size; omega
      have y0 := cell_bw (a := ⟨bk, of + kp * 4, none⟩) hbw ((HB.out.cell (p := ⟨bk, of + kp * 4, none⟩) hbB).trans hnode.kind)
      have y1 := cell_bw (a := ⟨bk, of + kp * 4 + 1, none⟩) hbw ((HB.out.cell (p := ⟨bk, of + kp * 4 + 1, none⟩) hbB).trans hnode.num)
      have y2 := cell_bw (a := ⟨bk, of + kp * 4 + 2, none⟩) hbw ((HB.out.cell (p := ⟨bk, of + kp * 4 + 2, none⟩) hbB).trans hnode.name)
      have y3 := cell_bw (a := ⟨bk, of + kp * 4 + 3, none⟩) hbw ((HB.out.cell (p := ⟨bk, of + kp * 4 + 3, none⟩) hbB).trans hnode.args)
      have z0 := cell_bw (a := ⟨w.heap.size, 0, none⟩) hlt HTA.out.kind
      have z1 := cell_bw (a := ⟨w.heap.size, 1, none⟩) hlt HTA.out.num
      have z2 := cell_bw (a := ⟨w.heap.size, 2, none⟩) hlt HTA.out.name
      have z3 := cell_bw (a := ⟨w.heap.size, 3, none⟩) hlt HTA.out.args
      have hin := Tm.toL_at hd
      have hel : (Tm.toL F)[kp]! = (p1, l1) := by rw [List.getElem?_eq_getElem (by rw [HLL.out]; omega)] at hin; rw [getElem!_pos _ kp (by rw [HLL.out]; omega)]; exact Option.some.inj hin
      have hok1 : OkT b (p1, l1) := HF.out _ (List.mem_of_getElem? hin)
      have hx1 : ArgsB wr wr.heap.size A1 (Tm.len l1) l1 := (hnode.inn.below HB.out (Nat.le_refl _)).up HB.out.size
      have hx2 : ArgsB wr wr.heap.size A0 (Tm.len l) l := (HX.out.below HB.out (Nat.le_refl _)).up HB.out.size
      obtain ⟨B1, d1, ha1, hk1⟩ := rkey_any b p1 l1 A1 c1 wr hx1 hok1.2
      obtain ⟨B2, d2, ha2, hk2⟩ := rkey_any b p l A0 c0 wr hx2 HOK.out.2
      have hk3 : ∀ q : Bw wr, Calls Tryd.prog 38 #[tv (Tm.part b (p1, l1)).1 B1 (Tm.len (Tm.part b (p1, l1)).2) d1, tv (Tm.part b (p, l)).1 B2 (Tm.len (Tm.part b (p, l)).2) d2] q.to fun e w' => e = .returned (.int .i64 (Tm.cmpT (Tm.part b (p1, l1)).1 (Tm.part b (p1, l1)).2 (Tm.part b (p, l)).1 (Tm.part b (p, l)).2)) ∧ Below q.to.heap.size q.to w' := fun q =>
        rcompare_any _ _ _ _ _ _ _ _ wr.heap.size q.to (part_good b _ hok1) (part_good b _ HOK.out) (ha1.below q.ok (Nat.le_refl _)) (ha2.below q.ok (Nat.le_refl _)) q.ok.size
      have hcv : Tm.cmpT (Tm.part b (p1, l1)).1 (Tm.part b (p1, l1)).2 (Tm.part b (p, l)).1 (Tm.part b (p, l)).2 = Tm.cmpK b (Tm.toL F)[kp]! (p, l) := by rw [hel]; rfl
      rw [hcv] at hk3
      have hgo : 0 < Tm.cmpK b (Tm.toL F)[kp]! (p, l) → Tm.insPos b (Tm.toL F) (p, l) n = Tm.insPos b (Tm.toL F) (p, l) kp := fun h => by rw [HI.out, Tm.insPos, if_pos h]
      have hst : ¬ 0 < Tm.cmpK b (Tm.toL F)[kp]! (p, l) → Tm.insPos b (Tm.toL F) (p, l) n = kp + 1 := fun h => by rw [HI.out, Tm.insPos, if_neg h]
      have HGO : Aside _ := hgo
      have HSTP : Aside _ := hst
      rw [← HM.out] at hk2
      generalize Tm.cmpK b (Tm.toL F)[kp]! (p, l) = cv at hk3 HGO HSTP
      clear hd hnode hin hel hok1 hx1 hx2 ha1 ha2 hcv hgo hst
      generalize Tm.len (Tm.part b (p1, l1)).2 = e1 at hk1 hk3
      generalize (Tm.part b (p1, l1)).1 = q1 at hk1 hk3
      generalize Tm.len (Tm.part b (p, l)).2 = e2 at hk2 hk3
      generalize (Tm.part b (p, l)).1 = q2 at hk2 hk3
      generalize Tm.len l1 = m1 at y3 hk1
      have hwp : IntKind.i64.wrap (kp : Int) = (kp : Int) := by rw [IntKind.wrap_i64]; omega
      have jz : (0 : Int) < (kp : Int) + 1 := by omega
      have jz2 : (kp : Int) < (n : Int) := by omega
      have hm : Tryd.prog.follows .mixedOrders = true := by kernel_rfl
      by_cases hc : 0 < cv
      · have HW := Lib.hid (HGO.out hc)
        clear HGO HSTP
        go_wp2_with fail
        refine wp_region_bw hm (by kernel_rfl) ?_
        repeat (go_big_quiet_step (fail))
        go_big_quiet_step (exact calls_bw (hk1 _))
        repeat (go_big_quiet_step (fail))
        go_big_quiet_step (exact calls_bw (hk2 _))
        go_big_quiet_step (exact calls_bw (hk3 _))
        repeat (go_big_quiet_step (fail))
        refine wpQuiet_nil ?_
        intro _ hw'
        obtain ⟨pq, hw''⟩ := hw'
        subst hw''
        have hsp := pq.ok.size
        go_wp2_with fail
        exact ⟨⟨kp, by go_num, by omega, HW.out, HTA.out.same (pq.ok.block w.heap.size hlt), by omega, HB.out.trans (pq.ok.mono (by omega))⟩, by simp [intOf]⟩
      · have HFIN := Lib.hid (HSTP.out hc)
        clear HGO HSTP
        go_wp2_with fail
        refine wp_region_bw hm (by kernel_rfl) ?_
        repeat (go_big_quiet_step (fail))
        go_big_quiet_step (exact calls_bw (hk1 _))
        repeat (go_big_quiet_step (fail))
        go_big_quiet_step (exact calls_bw (hk2 _))
        go_big_quiet_step (exact calls_bw (hk3 _))
        repeat (go_big_quiet_step (fail))
        refine wpQuiet_nil ?_
        intro _ hw'
        obtain ⟨pq, hw''⟩ := hw'
        subst hw''
        have hsp := pq.ok.size
        have HBW := Lib.hid (HB.out.trans (pq.ok.mono (by omega)))
        have HTW := Lib.hid (HTA.out.same (pq.ok.block w.heap.size hlt))
        clear y0 y1 y2 y3 z0 z1 z2 z3 hk1 hk2 hk3
        generalize pq.to = w2 at HBW HTW hsp ⊢
        have hkc : kp + 1 ≤ c := by omega
        by_cases hck : kp + 1 < c
        · have hn5 : n ≤ 50000 := by omega
          have HAW := Lib.hid (HA.out.below HBW.out (Nat.le_refl _))
          have HXW := Lib.hid (HX.out.below HBW.out (Nat.le_refl _))
          go_wp2_with (at_builtin; refine wpList_append_terms rfl _ _ rfl (OwnR.start (N := w2.heap.size) (Nat.le_refl _)) rfl (A := some ⟨bk, of, none⟩) (m := (kp + 1)) (c := c) (G := Tm.takeF F ((kp + 1))) rfl ((HAW.out.take (by omega)).mono fun b_ (hb_ : b_ < w.heap.size) => ⟨by omega, by simp [Value.ownBlock]⟩) (by omega) ?_)
          intro A3 c3 w3 o3 b3 k3
          try simp only [Nat.zero_add] at o3 ⊢
          have ht3 := HTW.out.same (k3 w.heap.size (by omega) (by simp [Value.ownBlock]))
          have x0 := ht3.kind
          have x1 := ht3.num
          have x2 := ht3.name
          have x3 := ht3.args
          have hs3 := b3.size
          have hlt3 : w.heap.size < w3.heap.size := by omega
          have HO3 := Lib.hid o3
          have HB3 := Lib.hid b3
          clear o3 b3 k3 ht3
          go_wp2_with (at_builtin; refine wpList_append_terms rfl _ _ rfl (HO3.out.below ((Below.refl _ w3).alloc (Nat.le_refl _) _)) rfl (G := .node p l .nil) rfl (one_src HO3.out HM.out ((HXW.out.keep fun b_ (hb_ : b_ < w.heap.size) => HB3.out.block b_ (by omega))) (by omega) (by omega)) (by omega) ?_)
          intro A4 c4 w4 o4 b4 k4
          have hs4 := b4.size
          simp only [World.size_alloc] at hs4
          have HO4 := Lib.hid o4
          have HB4 := Lib.hid (HB3.out.trans (((Below.refl w2.heap.size w3).alloc (by omega) _).trans b4))
          clear o4 b4 k4
          go_wp2_with (at_builtin; refine wpList_append_terms rfl _ _ rfl HO4.out rfl (G := Tm.dropF F ((kp + 1))) rfl (((HAW.out.drop).keep fun b_ (hb_ : b_ < w.heap.size) => HB4.out.block b_ (by omega)).mono fun b_ (hb_ : b_ < w.heap.size) => ⟨by omega, fun e => by have := (HO4.out.lt e).1; omega⟩) (by omega) ?_)
          intro A5 c5 w5 o5 b5 k5
          have hl5 := o5.len
          rw [len5 HLEN.out (k := (kp + 1)) (by omega)] at hl5
          rw [← hl5] at o5 ⊢
          have HO5 := Lib.hid o5
          have HB5 := Lib.hid (HB4.out.trans b5)
          clear o5 b5 k5 hl5
          go_wp2_with fail
          go_ret
          refine ⟨A5, c5, rfl, ?_, HBW.out.trans (HB5.out.mono (by omega))⟩
          have := HO5.out.mono (N' := w.heap.size) (by omega)
          have he := insert_eq (b := b) (F := F) (x := (p, l)) (k := (kp + 1)) (by rw [HLL.out]; exact HFIN.out)
          rw [← he]
          exact this
        · obtain rfl : n = kp + 1 := by omega
          obtain rfl : c = kp + 1 := by omega
          have hn5 : (kp + 1) ≤ 50000 := by omega
          have HAW := Lib.hid (HA.out.below HBW.out (Nat.le_refl _))
          have HXW := Lib.hid (HX.out.below HBW.out (Nat.le_refl _))
          go_wp2_with (at_builtin; refine wpList_append_terms rfl _ _ rfl (OwnR.start (N := w2.heap.size) (Nat.le_refl _)) rfl (A := some ⟨bk, of, none⟩) (m := (kp + 1)) (c := (kp + 1)) (G := Tm.takeF F ((kp + 1))) rfl ((HAW.out.take (by omega)).mono fun b_ (hb_ : b_ < w.heap.size) => ⟨by omega, by simp [Value.ownBlock]⟩) (by omega) ?_)
          intro A3 c3 w3 o3 b3 k3
          try simp only [Nat.zero_add] at o3 ⊢
          have ht3 := HTW.out.same (k3 w.heap.size (by omega) (by simp [Value.ownBlock]))
          have x0 := ht3.kind
          have x1 := ht3.num
          have x2 := ht3.name
          have x3 := ht3.args
          have hs3 := b3.size
          have hlt3 : w.heap.size < w3.heap.size := by omega
          have HO3 := Lib.hid o3
          have HB3 := Lib.hid b3
          clear o3 b3 k3 ht3
          go_wp2_with (at_builtin; refine wpList_append_terms rfl _ _ rfl (HO3.out.below ((Below.refl _ w3).alloc (Nat.le_refl _) _)) rfl (G := .node p l .nil) rfl (one_src HO3.out HM.out ((HXW.out.keep fun b_ (hb_ : b_ < w.heap.size) => HB3.out.block b_ (by omega))) (by omega) (by omega)) (by omega) ?_)
          intro A4 c4 w4 o4 b4 k4
          have hs4 := b4.size
          simp only [World.size_alloc] at hs4
          have HO4 := Lib.hid o4
          have HB4 := Lib.hid (HB3.out.trans (((Below.refl w2.heap.size w3).alloc (by omega) _).trans b4))
          clear o4 b4 k4
          go_wp2_with (at_builtin; refine wpList_append_terms rfl _ _ rfl HO4.out rfl (m := 0) (G := Tm.dropF F (kp + 1)) rfl (end_drop HLEN.out) (by omega) ?_)
          intro A5 c5 w5 o5 b5 k5
          have hl5 := o5.len
          rw [len5 HLEN.out (k := (kp + 1)) (by omega)] at hl5
          rw [← hl5] at o5 ⊢
          have HO5 := Lib.hid o5
          have HB5 := Lib.hid (HB4.out.trans b5)
          clear o5 b5 k5 hl5
          go_wp2_with fail
          go_ret
          refine ⟨A5, c5, rfl, ?_, HBW.out.trans (HB5.out.mono (by omega))⟩
          have := HO5.out.mono (N' := w.heap.size) (by omega)
          have he := insert_eq (b := b) (F := F) (x := (p, l)) (k := (kp + 1)) (by rw [HLL.out]; exact HFIN.out)
          rw [← he]
          exact this
end Go.Proofs.YtcjakmafojbhlaaDoor
namespace Go.Proofs.YtcjakmafojbhlaaDoor
set_option linter.unusedVariables false
set_option linter.unusedSimpArgs false
open Go.RowKit

set_option maxHeartbeats 400000 in
theorem x_any (n : Int) (w : World) : Calls Tryd.prog 30 #[.int .i64 n] w fun e w' => e = .returned (tv (0, n, ByteArray.empty) none 0 0) ∧ Below w.heap.size w w' := by
  go_enter Tryd.func30, Tryd.ntmps30
  go_wp2_with fail
  have g1 : TermAt (w.alloc (.cells #[.int .i64 0, .int .i64 n, .string ⟨#[]⟩, .slice none 0 0] 24)) w.heap.size (0, n, ByteArray.empty) none 0 0 := TermAt.new w (0, n, ByteArray.empty) none 0 0 24
  refine bodyPost_ret (term_result (q := 2) rfl _ _ w.heap.size (0, n, ByteArray.empty) none 0 0 rfl g1) rfl ?_
  exact ⟨rfl, (Below.refl _ _).alloc (Nat.le_refl _) _⟩
set_option maxHeartbeats 400000 in
theorem n_any (n : Int) (w : World) : Calls Tryd.prog 34 #[.int .i64 n] w fun e w' => e = .returned (tv (1, n, ByteArray.empty) none 0 0) ∧ Below w.heap.size w w' := by
  go_enter Tryd.func34, Tryd.ntmps34
  go_wp2_with fail
  have g1 : TermAt (w.alloc (.cells #[.int .i64 1, .int .i64 n, .string ⟨#[]⟩, .slice none 0 0] 24)) w.heap.size (1, n, ByteArray.empty) none 0 0 := TermAt.new w (1, n, ByteArray.empty) none 0 0 24
  refine bodyPost_ret (term_result (q := 2) rfl _ _ w.heap.size (1, n, ByteArray.empty) none 0 0 rfl g1) rfl ?_
  exact ⟨rfl, (Below.refl _ _).alloc (Nat.le_refl _) _⟩
set_option maxHeartbeats 400000 in
theorem a_any (s : ByteArray) (w : World) : Calls Tryd.prog 35 #[.string s] w fun e w' => e = .returned (tv (2, 0, s) none 0 0) ∧ Below w.heap.size w w' := by
  go_enter Tryd.func35, Tryd.ntmps35
  go_wp2_with fail
  have g1 : TermAt (w.alloc (.cells #[.int .i64 2, .int .i64 0, .string s, .slice none 0 0] 24)) w.heap.size (2, 0, s) none 0 0 := TermAt.new w (2, 0, s) none 0 0 24
  refine bodyPost_ret (term_result (q := 2) rfl _ _ w.heap.size (2, 0, s) none 0 0 rfl g1) rfl ?_
  exact ⟨rfl, (Below.refl _ _).alloc (Nat.le_refl _) _⟩
set_option maxHeartbeats 400000 in
theorem f_any (s : ByteArray) (A : Option Addr) (n c : Nat) (w : World) : Calls Tryd.prog 33 #[.string s, .slice A n c] w fun e w' => e = .returned (tv (3, 0, s) A n c) ∧ Below w.heap.size w w' := by
  go_enter Tryd.func33, Tryd.ntmps33
  go_wp2_with fail
  have g1 : TermAt (w.alloc (.cells #[.int .i64 3, .int .i64 0, .string s, .slice A n c] 24)) w.heap.size (3, 0, s) A n c := TermAt.new w (3, 0, s) A n c 24
  refine bodyPost_ret (term_result (q := 4) rfl _ _ w.heap.size (3, 0, s) A n c rfl g1) rfl ?_
  exact ⟨rfl, (Below.refl _ _).alloc (Nat.le_refl _) _⟩

/-- Whether two rows hold the same valid terms. -/
def Tm.sameRows : Fo → Fo → Bool
  | .nil, .nil => true
  | .node p l r, .node q m s => (Tm.validB p l && Tm.sameT p l q m) && Tm.sameRows r s
  | _, _ => false
theorem Tm.sameRows_len : ∀ {F G : Fo}, Tm.len F ≠ Tm.len G → Tm.sameRows F G = false
  | .nil, .nil, h => absurd rfl h
  | .nil, .node _ _ _, _ => rfl
  | .node _ _ _, .nil, _ => rfl
  | .node p l r, .node q m s, h => by
    have : Tm.len r ≠ Tm.len s := fun e => h (by show Tm.len r + 1 = Tm.len s + 1; rw [e])
    show (_ && Tm.sameRows r s) = false
    rw [Tm.sameRows_len this, Bool.and_false]
theorem Tm.sameRows_refl : ∀ {F : Fo}, Tm.allV F = true → Tm.sameRows F F = true
  | .nil, _ => rfl
  | .node p l r, h => by
    have h2 : (Tm.validB p l && Tm.allV r) = true := h
    rw [Bool.and_eq_true] at h2
    show ((Tm.validB p l && Tm.sameT p l p l) && Tm.sameRows r r) = true
    rw [h2.1, Tm.sameT_refl, Tm.sameRows_refl h2.2]
    rfl
/-- How often a valid term occurs. -/
def Tm.countF (F : Fo) (p : Pay) (l : Fo) : Nat := (Tm.toL F).countP fun x => Tm.validB x.1 x.2 && Tm.sameT x.1 x.2 p l

set_option maxHeartbeats 4000000 in
theorem sameAll_any (F G : Fo) (A A' : Option Addr) (n n' c c' B : Nat) (w : World) (hA : ArgsB w B A n F) (hA' : ArgsB w B A' n' G) (hn : n ≤ 4611686018427387904) (hB : B ≤ w.heap.size) :
    Calls Tryd.prog 22 #[.slice A n c, .slice A' n' c'] w fun e w' => e = .returned (.bool (Tm.sameRows F G)) ∧ Below w.heap.size w w' := by
  have hm : Tryd.prog.follows .mixedOrders = true := by kernel_rfl
  have HA := Lib.hid hA
  have HA' := Lib.hid hA'
  clear hA hA'
  by_cases hnn : n = n'
  · subst hnn
    have hn2 : n ≤ 9223372036854775807 := by omega
    go_enter Tryd.func22, Tryd.ntmps22
    go_wp2_with fail
    go_loopw [5] (fun u wr => ∃ k : Nat, k ≤ n ∧ u = .int .i64 k ∧ Hid (Tm.sameRows F G = Tm.sameRows (Tm.dropF F k) (Tm.dropF G k)) ∧ Below w.heap.size w wr) (fun u _ => n - (intOf u).toNat)
    case atStart => exact ⟨0, Nat.zero_le _, rfl, by show _ = _; rw [Tm.drop_zero, Tm.drop_zero], Below.refl _ _⟩
    case round =>
      obtain ⟨k, hk, rfl, HP, hbl⟩ := hrel
      have HBL := Lib.hid hbl
      clear hbl
      by_cases hlt : k < n
      · obtain ⟨bk, o, p1, l1, r1, A1, c1, rfl, hbB, hd, hnode⟩ := HA.out.at hlt
        obtain ⟨bk2, o2, p2, l2, r2, A2, c2, rfl, hbB2, hd2, hnode2⟩ := HA'.out.at hlt
        have hws := HBL.out.size
        have hbw : bk < w.heap.size := Nat.lt_of_lt_of_le hbB hB
        have hbw2 : bk2 < w.heap.size := Nat.lt_of_lt_of_le hbB2 hB
        have hbr : bk < wr.heap.size := by omega
        have hbr2 : bk2 < wr.heap.size := by omega
        have y0 := cell_bw (a := ⟨bk, o + k * 4, none⟩) hbr ((HBL.out.cell (p := ⟨bk, o + k * 4, none⟩) hbw).trans hnode.kind)
        have y1 := cell_bw (a := ⟨bk, o + k * 4 + 1, none⟩) hbr ((HBL.out.cell (p := ⟨bk, o + k * 4 + 1, none⟩) hbw).trans hnode.num)
        have y2 := cell_bw (a := ⟨bk, o + k * 4 + 2, none⟩) hbr ((HBL.out.cell (p := ⟨bk, o + k * 4 + 2, none⟩) hbw).trans hnode.name)
        have y3 := cell_bw (a := ⟨bk, o + k * 4 + 3, none⟩) hbr ((HBL.out.cell (p := ⟨bk, o + k * 4 + 3, none⟩) hbw).trans hnode.args)
        have z0 := cell_bw (a := ⟨bk2, o2 + k * 4, none⟩) hbr2 ((HBL.out.cell (p := ⟨bk2, o2 + k * 4, none⟩) hbw2).trans hnode2.kind)
        have z1 := cell_bw (a := ⟨bk2, o2 + k * 4 + 1, none⟩) hbr2 ((HBL.out.cell (p := ⟨bk2, o2 + k * 4 + 1, none⟩) hbw2).trans hnode2.num)
        have z2 := cell_bw (a := ⟨bk2, o2 + k * 4 + 2, none⟩) hbr2 ((HBL.out.cell (p := ⟨bk2, o2 + k * 4 + 2, none⟩) hbw2).trans hnode2.name)
        have z3 := cell_bw (a := ⟨bk2, o2 + k * 4 + 3, none⟩) hbr2 ((HBL.out.cell (p := ⟨bk2, o2 + k * 4 + 3, none⟩) hbw2).trans hnode2.args)
        have hx1 : ArgsB wr wr.heap.size A1 (Tm.len l1) l1 := (hnode.inn.below HBL.out hB).up (by omega)
        have hx2 : ArgsB wr wr.heap.size A2 (Tm.len l2) l2 := (hnode2.inn.below HBL.out hB).up (by omega)
        have hk3 : ∀ q : Bw wr, Calls Tryd.prog 28 #[tv p1 A1 (Tm.len l1) c1, tv p2 A2 (Tm.len l2) c2] q.to fun e w' => e = .returned (.bool (Tm.validB p1 l1 && Tm.sameT p1 l1 p2 l2)) ∧ Below q.to.heap.size q.to w' := fun q =>
          rsame_any _ _ _ _ _ _ _ _ wr.heap.size q.to (hx1.below q.ok (Nat.le_refl _)) (hx2.below q.ok (Nat.le_refl _)) q.ok.size
        have hst : Tm.sameRows F G = ((Tm.validB p1 l1 && Tm.sameT p1 l1 p2 l2) && Tm.sameRows (Tm.dropF F (k + 1)) (Tm.dropF G (k + 1))) := by rw [HP.out, hd, hd2, Tm.drop_succ hd, Tm.drop_succ hd2]; rfl
        have HST := Lib.hid hst
        clear hnode hnode2 hd hd2 hx1 hx2 hst
        generalize (Tm.validB p1 l1 && Tm.sameT p1 l1 p2 l2) = v at hk3 HST
        generalize Tm.len l1 = m1 at y3 hk3
        generalize Tm.len l2 = m2 at z3 hk3
        cases v
        · have HN := Lib.hid (show Tm.sameRows F G = false by rw [HST.out]; rfl)
          go_wp2_with fail
          refine wp_region_bw hm (by kernel_rfl) ?_
          repeat (go_big_quiet_step (exact calls_bw (hk3 _)))
          refine wpQuiet_nil ?_
          intro _ hw'
          obtain ⟨pq, hw''⟩ := hw'
          subst hw''
          go_wp2_with fail
          go_ret
          refine ⟨?_, HBL.out.trans (pq.ok.mono hws)⟩
          rw [HN.out]
          rfl
        · have HN := Lib.hid (show Tm.sameRows F G = Tm.sameRows (Tm.dropF F (k + 1)) (Tm.dropF G (k + 1)) by rw [HST.out]; rfl)
          go_wp2_with fail
          refine wp_region_bw hm (by kernel_rfl) ?_
          repeat (go_big_quiet_step (exact calls_bw (hk3 _)))
          refine wpQuiet_nil ?_
          intro _ hw'
          obtain ⟨pq, hw''⟩ := hw'
          subst hw''
          go_wp2_with fail
          exact ⟨⟨k + 1, by omega, by go_num, HN.out, HBL.out.trans (pq.ok.mono hws)⟩, by simp [intOf]; omega⟩
      · obtain rfl : n = k := by omega
        go_wp2_with fail
        go_ret
        refine ⟨?_, HBL.out⟩
        have h1 : Tm.dropF F n = .nil := by rw [← HA.out.len, Tm.drop_end]
        have h2 : Tm.dropF G n = .nil := by rw [← HA'.out.len, Tm.drop_end]
        rw [HP.out, h1, h2]
        rfl
  · have hb : ((n : Int) != (n' : Int)) = true := by simp; omega
    have hs : Tm.sameRows F G = false := Tm.sameRows_len (by rw [HA.out.len, HA'.out.len]; exact hnn)
    rw [hs]
    clear hnn hs
    go_enter Tryd.func22, Tryd.ntmps22
    go_wp2_with fail
    go_ret
    exact ⟨rfl, Below.refl _ _⟩

set_option maxHeartbeats 4000000 in
theorem few_any (F : Fo) (A : Option Addr) (n c B : Nat) (w : World) (hA : ArgsB w B A n F) (hB : B ≤ w.heap.size) :
    Calls Tryd.prog 15 #[.slice A n c] w fun e w' => ∃ A' c', e = .returned (.slice A' (min n 40) c') ∧ OwnR w.heap.size w' A' (min n 40) c' (Tm.takeF F 40) ∧ Below w.heap.size w w' := by
  have hn63 := hA.hi
  have HA := Lib.hid hA
  obtain ⟨m, hmn⟩ : ∃ m, m = min n 40 := ⟨_, rfl⟩
  rw [← hmn]
  have hm1 : m ≤ n := by omega
  have hm2 : m ≤ 40 := by omega
  have hm3 : m = n ∨ m = 40 := by omega
  have HL := Lib.hid hA.len
  clear hA hmn
  go_enter Tryd.func15, Tryd.ntmps15
  go_wp2_with fail
  go_loopw [3, 4] (fun u v wr => ∃ (k : Nat) (Ac : Option Addr) (cc : Nat), k ≤ m ∧ u = .slice Ac k cc ∧ v = .int .i64 k ∧ OwnR w.heap.size wr Ac k cc (Tm.takeF F k) ∧ Below w.heap.size w wr) (fun _ v _ => m - (intOf v).toNat)
  case atStart => exact ⟨0, none, 0, Nat.zero_le _, rfl, rfl, by rw [show Tm.takeF F 0 = .nil by cases F <;> rfl]; exact OwnR.start (Nat.le_refl _), Below.refl _ _⟩
  case round =>
    obtain ⟨k, Ac, cc, hkm, rfl, rfl, hown, hbl⟩ := hrel
    have HBL := Lib.hid hbl
    have HOWN := Lib.hid hown
    clear hbl hown
    have hws := HBL.out.size
    by_cases hlt : k < m
    · have hlt1 : (k : Int) < (n : Int) := by omega
      have hlt2 : (k : Int) < 40 := by omega
      obtain ⟨bk, o, p1, l1, r1, A1, c1, rfl, hbB, hd, hnode⟩ := HA.out.at (k := k) (by omega)
      have hbw : bk < w.heap.size := Nat.lt_of_lt_of_le hbB hB
      have y0 := (HBL.out.cell (p := ⟨bk, o + k * 4, none⟩) hbw).trans hnode.kind
      have y1 := (HBL.out.cell (p := ⟨bk, o + k * 4 + 1, none⟩) hbw).trans hnode.num
      have y2 := (HBL.out.cell (p := ⟨bk, o + k * 4 + 2, none⟩) hbw).trans hnode.name
      have y3 := (HBL.out.cell (p := ⟨bk, o + k * 4 + 3, none⟩) hbw).trans hnode.args
      have HX := Lib.hid (hnode.inn.below HBL.out hB)
      have hstep : Tm.app (Tm.takeF F k) (.node p1 l1 .nil) = Tm.takeF F (k + 1) := by
        refine Tm.toL_inj ?_
        rw [Tm.toL_app, takeF_toL, takeF_toL, List.take_add_one, Tm.toL_at hd]
        rfl
      have HSTEP := Lib.hid hstep
      obtain ⟨m1, hm1'⟩ : ∃ m1, m1 = Tm.len l1 := ⟨_, rfl⟩
      rw [← hm1'] at y3
      have HM1 := Lib.hid hm1'
      clear hnode hd hstep hm1'
      go_wp2_with (at_builtin; refine wpList_append_terms rfl _ _ rfl (HOWN.out.below ((Below.refl _ wr).alloc (Nat.le_refl _) _)) rfl (G := .node p1 l1 .nil) rfl (one_src HOWN.out HM1.out HX.out hB HOWN.out.lo) (by omega) ?_)
      intro A4 c4 w4 o4 b4 k4
      rw [HSTEP.out] at o4
      have HO4 := Lib.hid o4
      have HB4 := Lib.hid (HBL.out.trans (((Below.refl w.heap.size wr).alloc (by omega) _).trans b4))
      clear o4 b4 k4
      go_wp2_with fail
      exact ⟨⟨k + 1, A4, c4, by omega, rfl, by go_num, HO4.out, HB4.out⟩, by simp [intOf]; omega⟩
    · obtain rfl : m = k := by omega
      have htk : Tm.takeF F m = Tm.takeF F 40 := by
        refine Tm.toL_inj ?_
        rw [takeF_toL, takeF_toL]
        rcases hm3 with h | h
        · rw [List.take_of_length_le (by rw [Tm.len_toL, HL.out, h]; exact Nat.le_refl _), List.take_of_length_le (by rw [Tm.len_toL, HL.out]; omega)]
        · rw [h]
      have HO := HOWN.out
      rw [htk] at HO
      have HOW := Lib.hid HO
      clear HO htk
      by_cases hn0 : (m : Int) < (n : Int)
      · have h40 : ¬ (m : Int) < 40 := by omega
        go_wp2_with fail
        go_ret
        exact ⟨Ac, cc, rfl, HOW.out, HBL.out⟩
      · go_wp2_with fail
        go_ret
        exact ⟨Ac, cc, rfl, HOW.out, HBL.out⟩

theorem count_next {F : Fo} {p : Pay} {l : Fo} {k c : Nat} {p1 : Pay} {l1 r1 : Fo} {v : Bool} (hd : Tm.dropF F k = .node p1 l1 r1) (hv : v = (Tm.validB p1 l1 && Tm.sameT p1 l1 p l)) (h : Tm.countF F p l = c + Tm.countF (Tm.dropF F k) p l) : Tm.countF F p l = (c + if v then 1 else 0) + Tm.countF (Tm.dropF F (k + 1)) p l := by
  rw [h, Tm.drop_succ hd, hd]
  show _ + ((p1, l1) :: Tm.toL r1).countP _ = _ + (Tm.toL r1).countP _
  rw [List.countP_cons, hv]
  dsimp only
  omega
set_option maxHeartbeats 4000000 in
theorem count_any (F : Fo) (p : Pay) (l : Fo) (A A' : Option Addr) (n c c' B : Nat) (w : World) (hA : ArgsB w B A n F) (hA' : ArgsB w B A' (Tm.len l) l) (hn : n ≤ 4611686018427387904) (hB : B ≤ w.heap.size) :
    Calls Tryd.prog 32 #[.slice A n c, tv p A' (Tm.len l) c'] w fun e w' => e = .returned (.int .i64 ((Tm.countF F p l : Nat) : Int)) ∧ Below w.heap.size w w' := by
  have hm : Tryd.prog.follows .mixedOrders = true := by kernel_rfl
  have HA := Lib.hid hA
  have HA' := Lib.hid hA'
  have hn2 : n ≤ 9223372036854775807 := by omega
  obtain ⟨m, hml⟩ : ∃ m, m = Tm.len l := ⟨_, rfl⟩
  have HML := Lib.hid hml
  rw [← hml]
  clear hA hA' hml
  go_enter Tryd.func32, Tryd.ntmps32
  go_wp2_with fail
  go_loopw [5, 6] (fun u v wr => ∃ k q : Nat, k ≤ n ∧ q ≤ k ∧ u = .int .i64 q ∧ v = .int .i64 k ∧ Hid (Tm.countF F p l = q + Tm.countF (Tm.dropF F k) p l) ∧ TermAt wr w.heap.size p A' m c' ∧ w.heap.size < wr.heap.size ∧ Below w.heap.size w wr) (fun _ v _ => n - (intOf v).toNat)
  case atStart => exact ⟨0, 0, Nat.zero_le _, Nat.le_refl _, rfl, rfl, by show _ = _; rw [Tm.drop_zero, Nat.zero_add], TermAt.new w p A' m c' 24, by simp, (Below.refl _ w).alloc (Nat.le_refl _) _⟩
  case round =>
    obtain ⟨k, q0, hk, hq, rfl, rfl, HP, hta, hlw, hbl⟩ := hrel
    have HBL := Lib.hid hbl
    have HTA := Lib.hid hta
    clear hbl hta
    by_cases hlt : k < n
    · obtain ⟨bk, o, p1, l1, r1, A1, c1, rfl, hbB, hd, hnode⟩ := HA.out.at hlt
      have hws := HBL.out.size
      have hbw : bk < w.heap.size := Nat.lt_of_lt_of_le hbB hB
      have hbr : bk < wr.heap.size := by omega
      have y0 := cell_bw (a := ⟨bk, o + k * 4, none⟩) hbr ((HBL.out.cell (p := ⟨bk, o + k * 4, none⟩) hbw).trans hnode.kind)
      have y1 := cell_bw (a := ⟨bk, o + k * 4 + 1, none⟩) hbr ((HBL.out.cell (p := ⟨bk, o + k * 4 + 1, none⟩) hbw).trans hnode.num)
      have y2 := cell_bw (a := ⟨bk, o + k * 4 + 2, none⟩) hbr ((HBL.out.cell (p := ⟨bk, o + k * 4 + 2, none⟩) hbw).trans hnode.name)
      have y3 := cell_bw (a := ⟨bk, o + k * 4 + 3, none⟩) hbr ((HBL.out.cell (p := ⟨bk, o + k * 4 + 3, none⟩) hbw).trans hnode.args)
      have z0 := cell_bw (a := ⟨w.heap.size, 0, none⟩) hlw HTA.out.kind
      have z1 := cell_bw (a := ⟨w.heap.size, 1, none⟩) hlw HTA.out.num
      have z2 := cell_bw (a := ⟨w.heap.size, 2, none⟩) hlw HTA.out.name
      have z3 := cell_bw (a := ⟨w.heap.size, 3, none⟩) hlw HTA.out.args
      have hx1 : ArgsB wr wr.heap.size A1 (Tm.len l1) l1 := (hnode.inn.below HBL.out hB).up (by omega)
      have hx2 : ArgsB wr wr.heap.size A' (Tm.len l) l := (HA'.out.below HBL.out hB).up (by omega)
      have hk3 : ∀ q : Bw wr, Calls Tryd.prog 28 #[tv p1 A1 (Tm.len l1) c1, tv p A' (Tm.len l) c'] q.to fun e w' => e = .returned (.bool (Tm.validB p1 l1 && Tm.sameT p1 l1 p l)) ∧ Below q.to.heap.size q.to w' := fun q =>
        rsame_any _ _ _ _ _ _ _ _ wr.heap.size q.to (hx1.below q.ok (Nat.le_refl _)) (hx2.below q.ok (Nat.le_refl _)) q.ok.size
      obtain ⟨v, hv⟩ : ∃ v, v = (Tm.validB p1 l1 && Tm.sameT p1 l1 p l) := ⟨_, rfl⟩
      have HST := Lib.hid (count_next hd hv HP.out)
      rw [← hv, ← HML.out] at hk3
      clear hnode hd hx1 hx2 hv
      generalize Tm.len l1 = m1 at y3 hk3
      cases v
      · go_wp2_with fail
        refine wp_region_bw hm (by kernel_rfl) ?_
        repeat (go_big_quiet_step (exact calls_bw (hk3 _)))
        refine wpQuiet_nil ?_
        intro _ hw'
        obtain ⟨pq, hw''⟩ := hw'
        subst hw''
        go_wp2_with fail
        exact ⟨⟨k + 1, q0, by omega, by omega, rfl, by go_num, HST.out, HTA.out.same (pq.ok.block _ hlw), by have := pq.ok.size; omega, HBL.out.trans (pq.ok.mono hws)⟩, by simp [intOf]; omega⟩
      · go_wp2_with fail
        refine wp_region_bw hm (by kernel_rfl) ?_
        repeat (go_big_quiet_step (exact calls_bw (hk3 _)))
        refine wpQuiet_nil ?_
        intro _ hw'
        obtain ⟨pq, hw''⟩ := hw'
        subst hw''
        go_wp2_with fail
        exact ⟨⟨k + 1, q0 + 1, by omega, by omega, by go_num, by go_num, HST.out, HTA.out.same (pq.ok.block _ hlw), by have := pq.ok.size; omega, HBL.out.trans (pq.ok.mono hws)⟩, by simp [intOf]; omega⟩
    · obtain rfl : n = k := by omega
      go_wp2_with fail
      go_ret
      refine ⟨?_, HBL.out⟩
      have h1 : Tm.dropF F n = .nil := by rw [← HA.out.len, Tm.drop_end]
      rw [HP.out, h1]
      rfl
end Go.Proofs.YtcjakmafojbhlaaDoor
namespace Go.Proofs.YtcjakmafojbhlaaDoor
set_option linter.unusedVariables false
set_option linter.unusedSimpArgs false
open Go.RowKit
open Go.Sort (PermIn SortedIn)

/-- What is left, in an array. -/
def keysOf (d : Array Tg) : List Tm.Tn := d.toList.map (·.1)
theorem keysOf_len (d : Array Tg) : (keysOf d).length = d.size := by simp [keysOf]
theorem keysOf_at {d : Array Tg} {k : Nat} (hk : k < d.size) : (keysOf d)[k]! = d[k]!.1 := by
  rw [getElem!_pos (keysOf d) k (by rw [keysOf_len]; exact hk), getElem!_pos d k hk]
  simp [keysOf]
theorem dup_at {d : Array Tg} {k : Nat} (h0 : 0 < k) (hk : k < d.size) : Tm.dupAt (keysOf d) k = decide (Tm.cmpP d[k]!.1 d[k - 1]!.1 = 0) := by
  unfold Tm.dupAt
  rw [decide_eq_true h0, Bool.true_and, keysOf_at hk, keysOf_at (by omega)]
theorem uniq_zero (L : List Tm.Tn) (k : Nat) (hk : k ≤ L.length) (h : ∀ j, j < k → Tm.dupAt L j = false) : Tm.uniqTo L k = L.take k := by
  induction k with
  | zero => rfl
  | succ k ih =>
    rw [Tm.uniqTo_new (h k (by omega)), ih (by omega) fun j hj => h j (by omega), List.take_add_one, List.getElem?_eq_getElem (by omega), getElem!_pos L k (by omega)]
    rfl

set_option maxHeartbeats 1000000 in
theorem compact_zero (A : Option Addr) (c : Nat) (v : Value) (w : World) : Calls Tryd.prog 40 #[.slice A 0 c, v] w fun e w' => e = .returned (.slice A 0 c) ∧ w' = w := by
  go_enter Tryd.func40, Tryd.ntmps40
  go_wp2
  go_ret
  exact ⟨rfl, rfl⟩
theorem enters_sort1 : ∀ (args : Array Value) (w : World), (callFunc 43 args).run Tryd.prog w = .ok (.enter 43 args) w := fun args w => by kernel_rfl
/-- What is kept so far: the first i elements; from i on the row is as it was. -/
structure Kept (d dk : Array Tg) (i q : Nat) : Prop where
  size : dk.size = d.size
  head : (keysOf dk).take i = Tm.uniqTo (keysOf d) q
  len : (Tm.uniqTo (keysOf d) q).length = i
  rest : ∀ j, i ≤ j → j < d.size → dk[j]! = d[j]!
theorem Kept.fit {d dk : Array Tg} {i q : Nat} (h : Kept d dk i q) (hf : Fit false d) {j : Nat} (hij : i ≤ j) (hj : j < d.size) : OkT false dk[j]!.1 := by rw [h.rest j hij hj]; exact hf j hj
theorem Kept.skip {d dk : Array Tg} {i q : Nat} (h : Kept d dk i q) (hd : Tm.dupAt (keysOf d) q = true) : Kept d dk i (q + 1) := ⟨h.size, by rw [Tm.uniqTo_dup hd]; exact h.head, by rw [Tm.uniqTo_dup hd]; exact h.len, h.rest⟩
theorem Kept.add {d dk : Array Tg} {i q : Nat} (h : Kept d dk i q) (hiq : i ≤ q) (hq : q < d.size) (hd : Tm.dupAt (keysOf d) q = false) : Kept d (dk.setIfInBounds i dk[q]!) (i + 1) (q + 1) := by
  have hs := h.size
  have e := h.rest q hiq hq
  refine ⟨by rw [Array.size_setIfInBounds]; exact hs, ?_, by rw [Tm.uniqTo_new hd, List.length_append, h.len]; rfl, fun j hj hjd => ?_⟩
  · rw [Tm.uniqTo_new hd, ← h.head, e, keysOf_at hq]
    have hk : keysOf (dk.setIfInBounds i d[q]!) = (keysOf dk).set i d[q]!.1 := by simp [keysOf, List.map_set]
    rw [hk, List.take_add_one, List.take_set_of_le (Nat.le_refl i), List.getElem?_set_self (by rw [keysOf_len]; omega)]
    rfl
  · rw [← h.rest j (by omega) hjd]
    have hjk : j < dk.size := by omega
    rw [getElem!_pos _ j (by rw [Array.size_setIfInBounds]; exact hjk), getElem!_pos dk j hjk, Array.getElem_setIfInBounds_ne (by omega) (by omega)]

set_option maxHeartbeats 8000000 in
set_option maxRecDepth 100000 in
theorem compact_any (W : World) (blk cap n : Nat) (d : Array Tg) (w : World) (hs : d.size = n) (hn : n ≤ 100000) (hnc : n ≤ cap) (hcap : cap ≤ maxLen) (hf : Fit false d) (hT : Tabs W) (hne : 0 ≠ blk) (h : St W blk d w) :
    Calls Tryd.prog 40 #[.slice (some ⟨blk, 0, none⟩) n cap, .func (.func 43) #[] #[]] w fun e w' =>
      ∃ d' : Array Tg, e = .returned (.slice (some ⟨blk, 0, none⟩) d'.size cap) ∧ St W blk d' w' ∧ keysOf d' = Tm.uniq (keysOf d) := by
  have hcap' : cap ≤ 9223372036854775807 := hcap
  have HST := Lib.hid h
  have HS := Lib.hid hs
  have HF := Lib.hid hf
  have HT := Lib.hid (And.intro hT hne)
  have eg := enters_sort1
  clear h hs hf hT hcap
  by_cases h1 : n < 2
  · have h1z : (n : Int) < 2 := by omega
    go_enter Tryd.func40, Tryd.ntmps40
    go_wp2_with fail
    go_ret
    refine ⟨d, by rw [HS.out]; rfl, HST.out, ?_⟩
    have : n = 0 ∨ n = 1 := by omega
    unfold Tm.uniq
    rw [keysOf_len, HS.out]
    rw [uniq_zero _ n (by rw [keysOf_len, HS.out]; exact Nat.le_refl _) (fun j hj => by unfold Tm.dupAt; rw [show j = 0 by omega]; rfl), List.take_of_length_le (by rw [keysOf_len, HS.out]; exact Nat.le_refl _)]
  have h1z : ¬ (n : Int) < 2 := by omega
  go_enter Tryd.func40, Tryd.ntmps40
  go_wp2_with fail
  go_loopg [5] n (fun g1 u wr => ∃ kp : Nat, u = .int .i64 ((kp + 1 : Nat) : Int) ∧ kp + 1 ≤ n ∧ n + 1 - (kp + 1) ≤ g1 + 1 ∧ St W blk d wr ∧ Hid (∀ j, j < kp + 1 → Tm.dupAt (keysOf d) j = false))
  case atStart => exact ⟨0, by go_num, by omega, by omega, HST.out, fun j hj => by unfold Tm.dupAt; rw [show j = 0 by omega]; rfl⟩
  case round =>
    obtain ⟨kp, rfl, hkn, hg1, hst, HJ⟩ := hrel
    by_cases hlt : kp + 1 < n
    · have hltz : ((kp + 1 : Nat) : Int) < (n : Int) := by omega
      have hltz2 : (kp : Int) + 1 < (n : Int) := by omega
      have hltz3 : (kp : Int) < (n : Int) := by omega
      have hwp : IntKind.i64.wrap (kp : Int) = (kp : Int) := by rw [IntKind.wrap_i64]; omega
      have p0 : (0 : Int) ≤ (kp : Int) + 1 := by omega
      have e0 : ((kp : Int) + 1).toNat = kp + 1 := by omega
      obtain ⟨A, c, ni⟩ := hst.row (kp + 1) (by rw [HS.out]; omega)
      obtain ⟨B, e, nj⟩ := hst.row kp (by rw [HS.out]; omega)
      have hcall := sortEq_at HT.out.1 HT.out.2 hst (HF.out (kp + 1) (by rw [HS.out]; omega)) (HF.out kp (by rw [HS.out]; omega)) ni nj
      have hblk : blk < wr.heap.size := Nat.lt_of_lt_of_le hst.lt hst.only.size
      have y0 := cell_bw (a := ⟨blk, (kp + 1) * 4, none⟩) hblk ni.kind
      have y1 := cell_bw (a := ⟨blk, (kp + 1) * 4 + 1, none⟩) hblk ni.num
      have y2 := cell_bw (a := ⟨blk, (kp + 1) * 4 + 2, none⟩) hblk ni.name
      have y3 := cell_bw (a := ⟨blk, (kp + 1) * 4 + 3, none⟩) hblk ni.args
      have z0 := cell_bw (a := ⟨blk, kp * 4, none⟩) hblk nj.kind
      have z1 := cell_bw (a := ⟨blk, kp * 4 + 1, none⟩) hblk nj.num
      have z2 := cell_bw (a := ⟨blk, kp * 4 + 2, none⟩) hblk nj.name
      have z3 := cell_bw (a := ⟨blk, kp * 4 + 3, none⟩) hblk nj.args
      have hdup := dup_at (d := d) (k := kp + 1) (by omega) (by rw [HS.out]; omega)
      rw [Nat.add_sub_cancel] at hdup
      have HDUP := Lib.hid hdup
      have HST2 := Lib.hid hst
      clear ni nj hst hdup
      generalize decide (Tm.cmpP d[kp + 1]!.1 d[kp]!.1 = 0) = cv at hcall HDUP
      cases cv
      · go_wp2_with fail
        have hm : Tryd.prog.follows .mixedOrders = true := by kernel_rfl
        refine wp_region_bw hm (by kernel_rfl) ?_
        repeat (go_big_quiet_step (exact calls_bw (hcall _)))
        refine wpQuiet_nil ?_
        intro _ hw'
        obtain ⟨pq, hw''⟩ := hw'
        subst hw''
        go_wp2_with fail
        go_roundg (n - (kp + 2))
        case measure => omega
        case rel => exact ⟨kp + 1, by go_num, by omega, by omega, HST2.out.below pq.ok, fun j hj => by
          by_cases hjk : j < kp + 1
          · exact HJ.out j hjk
          · rw [show j = kp + 1 by omega]; exact HDUP.out⟩
      · go_wp2_with fail
        have hm : Tryd.prog.follows .mixedOrders = true := by kernel_rfl
        refine wp_region_bw hm (by kernel_rfl) ?_
        repeat (go_big_quiet_step (exact calls_bw (hcall _)))
        refine wpQuiet_nil ?_
        intro _ hw'
        obtain ⟨pq, hw''⟩ := hw'
        subst hw''
        have hkc : kp + 1 ≤ cap := by omega
        go_wp2_with fail
        have HST3 := Lib.hid (HST2.out.below pq.ok)
        obtain ⟨m, hmn⟩ : ∃ m, n - (kp + 1) = m := ⟨_, rfl⟩
        have hm0 : 0 < m := by omega
        have hkm : kp + 1 + m = n := by omega
        have hK : Kept d d (kp + 1) (kp + 2) := by
          have e : Tm.uniqTo (keysOf d) (kp + 1) = (keysOf d).take (kp + 1) := uniq_zero _ _ (by rw [keysOf_len, HS.out]; omega) HJ.out
          exact ⟨rfl, by rw [Tm.uniqTo_dup HDUP.out, e], by rw [Tm.uniqTo_dup HDUP.out, e, List.length_take, keysOf_len, HS.out]; omega, fun _ _ _ => rfl⟩
        have HK := Lib.hid hK
        rw [hmn]
        generalize cap - (kp + 1) = cap2
        clear y0 y1 y2 y3 z0 z1 z2 z3 hcall HST2 HJ HDUP hK
        generalize pq.to = w2 at HST3 ⊢
        go_loopg [5, 7] n (fun g2 u v wr2 => ∃ (i k2 : Nat) (dk : Array Tg), u = .int .i64 i ∧ v = .int .i64 ((k2 + 1 : Nat) : Int) ∧ i ≤ kp + 1 + k2 ∧ k2 + 1 ≤ m ∧ m + 1 - (k2 + 1) ≤ g2 + 1 ∧ St W blk dk wr2 ∧ Hid (Kept d dk i (kp + 1 + (k2 + 1))))
        case atStart => exact ⟨kp + 1, 0, d, rfl, by go_num, Nat.le_refl _, by omega, by omega, HST3.out, HK.out⟩
        case round =>
          obtain ⟨i, k2, dk, rfl, rfl, hik, hkm2, hg2, hst, HKD⟩ := hrel
          have HSZ := Lib.hid (HKD.out.size.trans HS.out)
          by_cases hlt2 : k2 + 1 < m
          · have hltz4 : ((k2 + 1 : Nat) : Int) < (m : Int) := by omega
            have hltz5 : (k2 : Int) + 1 < (m : Int) := by omega
            have hltz6 : (k2 : Int) < (m : Int) := by omega
            have hwp2 : IntKind.i64.wrap (k2 : Int) = (k2 : Int) := by rw [IntKind.wrap_i64]; omega
            have p02 : (0 : Int) ≤ (k2 : Int) + 1 := by omega
            have e02 : ((k2 : Int) + 1).toNat = k2 + 1 := by omega
            obtain ⟨A', c', ni⟩ := hst.row (kp + 1 + (k2 + 1)) (by rw [HSZ.out]; omega)
            obtain ⟨B', e', nj⟩ := hst.row (kp + 1 + k2) (by rw [HSZ.out]; omega)
            have hcall := sortEq_at HT.out.1 HT.out.2 hst (HKD.out.fit HF.out (j := kp + 1 + (k2 + 1)) (by omega) (by rw [HS.out]; omega)) (HKD.out.fit HF.out (j := kp + 1 + k2) (by omega) (by rw [HS.out]; omega)) ni nj
            have hblk : blk < wr.heap.size := Nat.lt_of_lt_of_le hst.lt hst.only.size
            have HN := Lib.hid ni
            rw [show (kp + 1 + (k2 + 1)) * 4 = (kp + 1) * 4 + (k2 + 1) * 4 by omega] at ni
            rw [show (kp + 1 + k2) * 4 = (kp + 1) * 4 + k2 * 4 by omega] at nj
            have y0 := cell_bw (a := ⟨blk, (kp + 1) * 4 + (k2 + 1) * 4, none⟩) hblk ni.kind
            have y1 := cell_bw (a := ⟨blk, (kp + 1) * 4 + (k2 + 1) * 4 + 1, none⟩) hblk ni.num
            have y2 := cell_bw (a := ⟨blk, (kp + 1) * 4 + (k2 + 1) * 4 + 2, none⟩) hblk ni.name
            have y3 := cell_bw (a := ⟨blk, (kp + 1) * 4 + (k2 + 1) * 4 + 3, none⟩) hblk ni.args
            have z0 := cell_bw (a := ⟨blk, (kp + 1) * 4 + k2 * 4, none⟩) hblk nj.kind
            have z1 := cell_bw (a := ⟨blk, (kp + 1) * 4 + k2 * 4 + 1, none⟩) hblk nj.num
            have z2 := cell_bw (a := ⟨blk, (kp + 1) * 4 + k2 * 4 + 2, none⟩) hblk nj.name
            have z3 := cell_bw (a := ⟨blk, (kp + 1) * 4 + k2 * 4 + 3, none⟩) hblk nj.args
            have hdup := dup_at (d := d) (k := kp + 1 + (k2 + 1)) (by omega) (by rw [HS.out]; omega)
            rw [show kp + 1 + (k2 + 1) - 1 = kp + 1 + k2 by omega, ← HKD.out.rest (kp + 1 + (k2 + 1)) (by omega) (by rw [HS.out]; omega), ← HKD.out.rest (kp + 1 + k2) (by omega) (by rw [HS.out]; omega)] at hdup
            have HDUP := Lib.hid hdup
            have HST4 := Lib.hid hst
            clear ni nj hst hdup
            generalize decide (Tm.cmpP dk[kp + 1 + (k2 + 1)]!.1 dk[kp + 1 + k2]!.1 = 0) = cv at hcall HDUP
            cases cv
            · go_wp2_with fail
              refine wp_region_bw hm (by kernel_rfl) ?_
              repeat (go_big_quiet_step (exact calls_bw (hcall _)))
              refine wpQuiet_nil ?_
              intro _ hw'
              obtain ⟨pq2, hw''⟩ := hw'
              subst hw''
              have f0 := (HST4.out.below pq2.ok).soft (i * 4)
              have f1 := (HST4.out.below pq2.ok).soft (i * 4 + 1)
              have f2 := (HST4.out.below pq2.ok).soft (i * 4 + 2)
              have f3 := (HST4.out.below pq2.ok).soft (i * 4 + 3)
              obtain ⟨A3, c3, n3⟩ := (HST4.out.below pq2.ok).row i (by rw [HSZ.out]; omega)
              have x0 := n3.kind
              have x1 := n3.num
              have x2 := n3.name
              have x3 := n3.args
              have hin : (i : Int) < (n : Int) := by omega
              have hput := (HST4.out.below pq2.ok).put (i := i) (j := kp + 1 + (k2 + 1)) (by rw [HSZ.out]; omega) (by rw [HSZ.out]; omega) (by omega) (node_bw HN.out HST4.out pq2)
              have y0' := y0 pq2
              have y1' := y1 pq2
              have y2' := y2 pq2
              have y3' := y3 pq2
              have HPUT := Lib.hid hput
              have HADD := Lib.hid (HKD.out.add (by omega) (by rw [HS.out]; omega) HDUP.out)
              clear y0 y1 y2 y3 z0 z1 z2 z3 hcall n3 hput HN
              generalize pq2.to = w4 at *
              generalize dk[kp + 1 + (k2 + 1)]!.1.1 = p at *
              generalize Tm.len dk[kp + 1 + (k2 + 1)]!.1.2 = lp at *
              go_wp2_with fail
              go_roundg (m - (k2 + 2))
              case measure => omega
              case rel => exact ⟨i + 1, k2 + 1, dk.setIfInBounds i dk[kp + 1 + (k2 + 1)]!, by go_num, by go_num, by omega, by omega, by omega, HPUT.out, HADD.out⟩
            · go_wp2_with fail
              refine wp_region_bw hm (by kernel_rfl) ?_
              repeat (go_big_quiet_step (exact calls_bw (hcall _)))
              refine wpQuiet_nil ?_
              intro _ hw'
              obtain ⟨pq2, hw''⟩ := hw'
              subst hw''
              go_wp2_with fail
              go_roundg (m - (k2 + 2))
              case measure => omega
              case rel => exact ⟨i, k2 + 1, dk, by go_num, by go_num, by omega, by omega, by omega, HST4.out.below pq2.ok, HKD.out.skip HDUP.out⟩
          · have hltz4 : ¬ ((k2 + 1 : Nat) : Int) < (m : Int) := by omega
            have hltz5 : ¬ (k2 : Int) + 1 < (m : Int) := by omega
            have hin2 : i ≤ n := by omega
            have hic : i ≤ cap := by omega
            have HST4 := Lib.hid hst
            clear hst
            obtain ⟨vs, hclr⟩ := run_clear_terms wr 0 blk (i * 4) (n - i) (cap - i) (by omega) (fun j hj => HST4.out.some_ (by rw [HSZ.out]; omega)) HST4.out.soft
            have hcut := HST4.out.cut i (by rw [HSZ.out]; omega) vs
            have HCUT := Lib.hid hcut
            clear hcut
            generalize wr.setCells blk (i * 4) vs = w5 at HCUT hclr
            go_wp2_with fail
            go_ret
            have hsz : (dk.extract 0 i).size = i := by rw [Array.size_extract, HSZ.out]; omega
            refine ⟨dk.extract 0 i, by rw [hsz]; rfl, HCUT.out, ?_⟩
            have h1 := HKD.out.head
            rw [show kp + 1 + (k2 + 1) = (keysOf d).length by rw [keysOf_len, HS.out]; omega] at h1
            unfold Tm.uniq
            rw [← h1]
            unfold keysOf
            rw [Array.toList_extract, List.extract_eq_take_drop, List.map_take]
            simp
    · have hltz : ¬ ((kp + 1 : Nat) : Int) < (n : Int) := by omega
      have hltz2 : ¬ (kp : Int) + 1 < (n : Int) := by omega
      have HST2 := Lib.hid hst
      clear hst
      go_wp2_with fail
      go_ret
      refine ⟨d, by rw [HS.out]; rfl, HST2.out, ?_⟩
      unfold Tm.uniq
      rw [keysOf_len, HS.out, uniq_zero _ n (by rw [keysOf_len, HS.out]; exact Nat.le_refl _) (fun j hj => HJ.out j (by omega)), List.take_of_length_le (by rw [keysOf_len, HS.out]; exact Nat.le_refl _)]

end Go.Proofs.YtcjakmafojbhlaaDoor
namespace Go.Proofs.YtcjakmafojbhlaaDoor
set_option linter.unusedVariables false
set_option linter.unusedSimpArgs false
open Go.RowKit

/-- A new row of the terms F, and an error number. -/
def MadeErr (F : Fo) (n : Int) (w : World) (e : Ending) (w' : World) : Prop :=
  ∃ A c, e = .returned (.tuple #[.slice A (Tm.len F) c, .int .i64 n]) ∧ ArgsIn (fun b => w.heap.size ≤ b ∧ b < w'.heap.size) w' A (Tm.len F) F ∧ (0 < Tm.len F → ∃ g, A = some ⟨g, 0, none⟩ ∧ w.heap.size ≤ g ∧ St w' g (tagged F) w') ∧ Below w.heap.size w w'
theorem MadeErr.nil_ {w w' : World} {c : Nat} {n : Int} (hb : Below w.heap.size w w') : MadeErr .nil n w (.returned (.tuple #[.slice none 0 c, .int .i64 n])) w' :=
  ⟨Option.none, c, rfl, ArgsIn.nil _ _ _, fun h => absurd h (by decide), hb⟩
/-- A row of the call's own, as a callee reads it. -/
theorem RowOf.args {w w' : World} {d : Array Tg} {v : Value} (h : RowOf w d v w') (hn : d.size ≤ 100000) : ∃ A c, v = .slice A d.size c ∧ ArgsB w' w'.heap.size A d.size (rowF d) := by
  rcases h with ⟨h0, A, c, rfl⟩ | ⟨h0, W, blk, c, rfl, h1, h2, h3, h4, h5⟩
  · refine ⟨A, c, by rw [h0], ?_⟩
    have : rowF d = .nil := Tm.len_zero (by rw [rowF_len, h0])
    rw [h0, this]
    exact ArgsIn.nil _ _ _
  · have := h4.argsIn (by omega)
    rw [rowF_len] at this
    exact ⟨some ⟨blk, 0, none⟩, c, rfl, this⟩
theorem rowF_toL (d : Array Tg) : Tm.toL (rowF d) = keysOf d := by rw [rowF, Tm.toL_ofL]; rfl
theorem MadeRow.err {F : Fo} {w w0 w' : World} {e : Ending} (h : MadeRow F w e w') (hb : Below w0.heap.size w0 w) : ∃ A c, e = .returned (.slice A (Tm.len F) c) ∧ ∀ n, MadeErr F n w0 (.returned (.tuple #[.slice A (Tm.len F) c, .int .i64 n])) w' := by
  obtain ⟨A, c, rfl, h1, h2, h3⟩ := h
  have hs := hb.size
  refine ⟨A, c, rfl, fun n => ⟨A, c, rfl, h1.mono fun b hb' => ⟨by omega, hb'.2⟩, fun hl => ?_, hb.trans (h3.mono hs)⟩⟩
  obtain ⟨g, h4, h5, h6⟩ := h2 hl
  exact ⟨g, h4, by omega, h6⟩
theorem okT_of {F : Fo} (h : Tm.allV F = true) : ∀ x ∈ Tm.toL F, OkT false x := fun x hx => ⟨Tm.good_of (Tm.allV_iff.1 h x hx), fun e => by cases e⟩

set_option maxHeartbeats 4000000 in
theorem stable_all (F : Fo) (A : Option Addr) (n c B : Nat) (w : World) (hA : ArgsB w B A n F) (hn : n ≤ 100000) (hv : Tm.allV F = true) (hT : Tabs w) (hB : B ≤ w.heap.size) :
    Calls Tryd.prog 17 #[.slice A n c] w (MadeErr (Tm.ofL (Tm.sortL false (Tm.toL F))) 0 w) := by
  have HV := Lib.hid hv
  have HT := Lib.hid hT
  have hTl := hT.lt
  have V1 := Lib.hid (areValid_any F A n c B w hA (by omega) hB)
  rw [hv] at V1
  have S1 := Lib.hid fun (w1 : World) (hb : Below w.heap.size w w1) => sorted_any false F A n c B w1 (hA.below hb hB) hn (okT_of hv) (hT.only (Only.of_below (X := fun _ => False) hb) id) (Nat.le_trans hB hb.size)
  have HL := Lib.hid hA.len
  clear hA hv hT
  go_enter Tryd.func17, Tryd.ntmps17
  go_wp2_with fail
  refine V1.out.mono ?_
  rintro e w1 ⟨rfl, hb1⟩
  have HB1 := Lib.hid hb1
  clear hb1
  go_wp2_with fail
  refine (S1.out _ HB1.out).mono ?_
  rintro e w2 ⟨d, v, rfl, his, hfit, hrow, hb2⟩
  have hsort := his.eq
  have hds : d.size = n := by
    have := congrArg List.length hsort
    rw [Tm.sortL_len, Tm.len_toL, HL.out] at this
    simpa using this
  obtain ⟨A2, c2, hv2, ha2⟩ := hrow.args (by omega)
  rw [hds] at hv2 ha2
  subst hv2
  have HB2 := Lib.hid (HB1.out.trans (hb2.mono HB1.out.size))
  have C1 := Lib.hid (copies_any (rowF d) A2 n c2 w2.heap.size w2 ha2 hn (fun x hx => by
    rw [rowF_toL] at hx
    have : x ∈ Tm.sortL false (Tm.toL F) := by rw [← hsort]; exact hx
    exact Tm.allV_iff.1 HV.out x (Tm.sortL_mem.1 this)) (Nat.le_refl _))
  have HR := Lib.hid (show rowF d = Tm.ofL (Tm.sortL false (Tm.toL F)) by rw [← hsort]; rfl)
  have HDS := Lib.hid hds
  clear his hfit hrow hb2 hsort ha2 hds
  go_wp2_with fail
  refine C1.out.mono ?_
  intro e w3 h3
  obtain ⟨A3, c3, he, hm⟩ := h3.err HB2.out
  have hm0 := hm 0
  rw [rowF_len, HDS.out] at he hm0
  rw [HR.out] at hm0
  subst he
  have HM := Lib.hid hm0
  clear h3 hm hm0
  go_wp2_with fail
  go_ret2
  exact HM.out

set_option maxHeartbeats 2000000 in
theorem stable_bad (F : Fo) (A : Option Addr) (n c B : Nat) (w : World) (hA : ArgsB w B A n F) (hn : n ≤ 100000) (hv : Tm.allV F = false) (hB : B ≤ w.heap.size) :
    Calls Tryd.prog 17 #[.slice A n c] w (MadeErr .nil 1 w) := by
  have HV := Lib.hid hv
  have V1 := Lib.hid (areValid_any F A n c B w hA (by omega) hB)
  rw [hv] at V1
  clear hA hv
  go_enter Tryd.func17, Tryd.ntmps17
  go_wp2_with fail
  refine V1.out.mono ?_
  rintro e w1 ⟨rfl, hb1⟩
  have HB1 := Lib.hid hb1
  clear hb1
  go_wp2_with fail
  go_ret2
  exact MadeErr.nil_ HB1.out

set_option maxHeartbeats 2000000 in
theorem sort_bad (F : Fo) (A : Option Addr) (n c B : Nat) (w : World) (hA : ArgsB w B A n F) (hn : n ≤ 100000) (hv : Tm.allV F = false) (hB : B ≤ w.heap.size) :
    Calls Tryd.prog 16 #[.slice A n c] w (MadeErr .nil 1 w) := by
  have HV := Lib.hid hv
  have V1 := Lib.hid (areValid_any F A n c B w hA (by omega) hB)
  rw [hv] at V1
  clear hA hv
  go_enter Tryd.func16, Tryd.ntmps16
  go_wp2_with fail
  refine V1.out.mono ?_
  rintro e w1 ⟨rfl, hb1⟩
  have HB1 := Lib.hid hb1
  clear hb1
  go_wp2_with fail
  go_ret2
  exact MadeErr.nil_ HB1.out

set_option maxHeartbeats 2000000 in
theorem keys_bad (F : Fo) (A : Option Addr) (n c B : Nat) (w : World) (hA : ArgsB w B A n F) (hn : n ≤ 100000) (hv : Tm.allV F = false) (hB : B ≤ w.heap.size) :
    Calls Tryd.prog 18 #[.slice A n c] w (MadeErr .nil 1 w) := by
  have HV := Lib.hid hv
  have V1 := Lib.hid (areValid_any F A n c B w hA (by omega) hB)
  rw [hv] at V1
  clear hA hv
  go_enter Tryd.func18, Tryd.ntmps18
  go_wp2_with fail
  refine V1.out.mono ?_
  rintro e w1 ⟨rfl, hb1⟩
  have HB1 := Lib.hid hb1
  clear hb1
  go_wp2_with fail
  go_ret2
  exact MadeErr.nil_ HB1.out

/-- CompactFunc at a row of the call's own. -/
theorem compactRow_any (w : World) (d : Array Tg) (v : Value) (w1 : World) (hrow : RowOf w d v w1) (hn : d.size ≤ 100000) (hf : Fit false d) (hT : Tabs w) (hb : Below w.heap.size w w1) :
    Calls Tryd.prog 40 #[v, .func (.func 43) #[] #[]] w1 fun e w' => ∃ (d' : Array Tg) (v' : Value), e = .returned v' ∧ RowOf w d' v' w' ∧ keysOf d' = Tm.uniq (keysOf d) ∧ Below w.heap.size w w' := by
  rcases hrow with ⟨h0, A, c, rfl⟩ | ⟨h0, W, blk, c, rfl, h1, h2, h3, h4, h5⟩
  · refine (compact_zero A c _ w1).mono ?_
    rintro e w2 ⟨rfl, rfl⟩
    refine ⟨d, _, rfl, .inl ⟨h0, A, c, rfl⟩, ?_, hb⟩
    have : d = #[] := Array.eq_empty_of_size_eq_zero h0
    subst this
    rfl
  · have hTl := hT.lt
    refine (compact_any W blk c d.size d w1 rfl hn h1 h2 hf (hT.only (Only.of_below (X := fun _ => False) h5) id) (by omega) h4).mono ?_
    rintro e w2 ⟨d', rfl, hst, hk⟩
    have hl : d'.size ≤ d.size := by
      have := congrArg List.length hk
      rw [keysOf_len] at this
      rw [this]
      have := Tm.uniq_len (keysOf d)
      rwa [keysOf_len] at this
    refine ⟨d', _, rfl, ?_, hk, h5.trans (hst.only.below h5.size (fun k hk => by omega))⟩
    by_cases h6 : d'.size = 0
    · rw [h6]; exact .inl ⟨h6, _, _, rfl⟩
    · exact .inr ⟨by omega, W, blk, c, rfl, by omega, h2, h3, hst, h5⟩

set_option maxHeartbeats 4000000 in
theorem sort_all (F : Fo) (A : Option Addr) (n c B : Nat) (w : World) (hA : ArgsB w B A n F) (hn : n ≤ 100000) (hv : Tm.allV F = true) (hT : Tabs w) (hB : B ≤ w.heap.size) :
    Calls Tryd.prog 16 #[.slice A n c] w (MadeErr (Tm.ofL (Tm.uniq (Tm.sortL false (Tm.toL F)))) 0 w) := by
  have HV := Lib.hid hv
  have HT := Lib.hid hT
  have hTl := hT.lt
  have V1 := Lib.hid (areValid_any F A n c B w hA (by omega) hB)
  rw [hv] at V1
  have S1 := Lib.hid fun (w1 : World) (hb : Below w.heap.size w w1) => sorted_any false F A n c B w1 (hA.below hb hB) hn (okT_of hv) (hT.only (Only.of_below (X := fun _ => False) hb) id) (Nat.le_trans hB hb.size)
  have HL := Lib.hid hA.len
  clear hA hv hT
  go_enter Tryd.func16, Tryd.ntmps16
  go_wp2_with fail
  refine V1.out.mono ?_
  rintro e w1 ⟨rfl, hb1⟩
  have HB1 := Lib.hid hb1
  clear hb1
  go_wp2_with fail
  refine (S1.out _ HB1.out).mono ?_
  rintro e w2 ⟨d, v, rfl, his, hfit, hrow, hb2⟩
  have hsort := his.eq
  have hds : d.size ≤ 100000 := by
    have := congrArg List.length hsort
    rw [Tm.sortL_len, Tm.len_toL, HL.out] at this
    have h2 : (d.toList.map (·.1)).length = d.size := by simp
    omega
  have HB2 := Lib.hid (HB1.out.trans (hb2.mono HB1.out.size))
  have C0 := Lib.hid (compactRow_any w1 d v w2 hrow hds hfit (HT.out.only (Only.of_below (X := fun _ => False) HB1.out) id) hb2)
  have HS := Lib.hid (show keysOf d = Tm.sortL false (Tm.toL F) from hsort)
  have HDS := Lib.hid hds
  clear his hfit hrow hb2 hsort hds
  go_wp2_with fail
  refine C0.out.mono ?_
  rintro e w3 ⟨d3, v3, rfl, hrow3, hk3, hb3⟩
  rw [HS.out] at hk3
  obtain ⟨m, hm⟩ : ∃ m, m = d3.size := ⟨_, rfl⟩
  have hl3 : m ≤ 100000 := by
    rw [hm, ← keysOf_len, hk3]
    have h1 := Tm.uniq_len (Tm.sortL false (Tm.toL F))
    rw [Tm.sortL_len, Tm.len_toL, HL.out] at h1
    omega
  obtain ⟨A2, c2, hv2, ha2⟩ := hrow3.args (by omega)
  rw [← hm] at hv2 ha2
  subst hv2
  have C1 := Lib.hid (copies_any (rowF d3) A2 m c2 w3.heap.size w3 ha2 hl3 (fun x hx => by
    rw [rowF_toL, hk3] at hx
    exact Tm.allV_iff.1 HV.out x (Tm.sortL_mem.1 (Tm.uniq_mem hx))) (Nat.le_refl _))
  have HR := Lib.hid (show rowF d3 = Tm.ofL (Tm.uniq (Tm.sortL false (Tm.toL F))) by rw [← hk3]; rfl)
  have HM0 := Lib.hid (show Tm.len (rowF d3) = m by rw [rowF_len, hm])
  have HB3 := Lib.hid (HB1.out.trans (hb3.mono HB1.out.size))
  clear hrow3 hk3 hb3 ha2 hm
  go_wp2_with fail
  refine C1.out.mono ?_
  intro e w4 h3
  obtain ⟨A3, c3, he, hm⟩ := h3.err HB3.out
  have hm0 := hm 0
  rw [HM0.out] at he hm0
  rw [HR.out] at hm0
  subst he
  have HM := Lib.hid hm0
  clear h3 hm hm0
  go_wp2_with fail
  go_ret2
  exact HM.out

theorem okT_pairs {F : Fo} (h : Tm.allV F = true) (hp : Tm.allPairs F = true) : ∀ x ∈ Tm.toL F, OkT true x := fun x hx => ⟨Tm.good_of (Tm.allV_iff.1 h x hx), fun _ => by
  have h1 : isPair x = true := List.all_eq_true.1 hp x hx
  unfold isPair at h1
  simp only [Bool.and_eq_true, decide_eq_true_eq] at h1
  intro e
  rw [e] at h1
  exact absurd h1.2.2 (by decide)⟩
set_option maxHeartbeats 4000000 in
theorem keys_all (F : Fo) (A : Option Addr) (n c B : Nat) (w : World) (hA : ArgsB w B A n F) (hn : n ≤ 100000) (hv : Tm.allV F = true) (hp : Tm.allPairs F = true) (hT : Tabs w) (hB : B ≤ w.heap.size) :
    Calls Tryd.prog 18 #[.slice A n c] w (MadeErr (Tm.ofL (Tm.sortL true (Tm.toL F))) 0 w) := by
  have HV := Lib.hid hv
  have HT := Lib.hid hT
  have hTl := hT.lt
  have V1 := Lib.hid (areValid_any F A n c B w hA (by omega) hB)
  rw [hv] at V1
  have S1 := Lib.hid fun (w1 : World) (hb : Below w.heap.size w w1) => sorted_any true F A n c B w1 (hA.below hb hB) hn (okT_pairs hv hp) (hT.only (Only.of_below (X := fun _ => False) hb) id) (Nat.le_trans hB hb.size)
  have P1 := Lib.hid fun (w1 : World) (hb : Below w.heap.size w w1) => arePairs_any F A n c B w1 (hA.below hb hB) (by omega) (Nat.le_trans hB hb.size)
  rw [hp] at P1
  have HL := Lib.hid hA.len
  clear hA hv hT hp
  go_enter Tryd.func18, Tryd.ntmps18
  go_wp2_with fail
  refine V1.out.mono ?_
  rintro e w1 ⟨rfl, hb1⟩
  have HB1 := Lib.hid hb1
  clear hb1
  go_wp2_with fail
  refine (P1.out _ HB1.out).mono ?_
  rintro e w1' ⟨rfl, hb1'⟩
  have HB1 := Lib.hid (HB1.out.trans (hb1'.mono HB1.out.size))
  clear hb1'
  go_wp2_with fail
  refine (S1.out _ HB1.out).mono ?_
  rintro e w2 ⟨d, v, rfl, his, hfit, hrow, hb2⟩
  have hsort := his.eq
  have hds : d.size = n := by
    have := congrArg List.length hsort
    rw [Tm.sortL_len, Tm.len_toL, HL.out] at this
    simpa using this
  obtain ⟨A2, c2, hv2, ha2⟩ := hrow.args (by omega)
  rw [hds] at hv2 ha2
  subst hv2
  have HB2 := Lib.hid (HB1.out.trans (hb2.mono HB1.out.size))
  have C1 := Lib.hid (copies_any (rowF d) A2 n c2 w2.heap.size w2 ha2 hn (fun x hx => by
    rw [rowF_toL] at hx
    have : x ∈ Tm.sortL true (Tm.toL F) := by rw [← hsort]; exact hx
    exact Tm.allV_iff.1 HV.out x (Tm.sortL_mem.1 this)) (Nat.le_refl _))
  have HR := Lib.hid (show rowF d = Tm.ofL (Tm.sortL true (Tm.toL F)) by rw [← hsort]; rfl)
  have HDS := Lib.hid hds
  clear his hfit hrow hb2 hsort ha2 hds
  go_wp2_with fail
  refine C1.out.mono ?_
  intro e w3 h3
  obtain ⟨A3, c3, he, hm⟩ := h3.err HB2.out
  have hm0 := hm 0
  rw [rowF_len, HDS.out] at he hm0
  rw [HR.out] at hm0
  subst he
  have HM := Lib.hid hm0
  clear h3 hm hm0
  go_wp2_with fail
  go_ret2
  exact HM.out


set_option maxHeartbeats 2000000 in
theorem keys_form (F : Fo) (A : Option Addr) (n c B : Nat) (w : World) (hA : ArgsB w B A n F) (hn : n ≤ 100000) (hv : Tm.allV F = true) (hp : Tm.allPairs F = false) (hB : B ≤ w.heap.size) :
    Calls Tryd.prog 18 #[.slice A n c] w (MadeErr .nil 3 w) := by
  have V1 := Lib.hid (areValid_any F A n c B w hA (by omega) hB)
  rw [hv] at V1
  have P1 := Lib.hid fun (w1 : World) (hb : Below w.heap.size w w1) => arePairs_any F A n c B w1 (hA.below hb hB) (by omega) (Nat.le_trans hB hb.size)
  rw [hp] at P1
  clear hA hv hp
  go_enter Tryd.func18, Tryd.ntmps18
  go_wp2_with fail
  refine V1.out.mono ?_
  rintro e w1 ⟨rfl, hb1⟩
  have HB1 := Lib.hid hb1
  clear hb1
  go_wp2_with fail
  refine (P1.out _ HB1.out).mono ?_
  rintro e w1' ⟨rfl, hb1'⟩
  have HB1 := Lib.hid (HB1.out.trans (hb1'.mono HB1.out.size))
  clear hb1'
  go_wp2_with fail
  go_ret2
  exact MadeErr.nil_ HB1.out
end Go.Proofs.YtcjakmafojbhlaaDoor
namespace Go.Proofs.YtcjakmafojbhlaaDoor
set_option linter.unusedVariables false
set_option linter.unusedSimpArgs false
open Go.RowKit

namespace Tm
/-- The first k elements come before the next ones. -/
def incTo (L : List Tn) (k : Nat) : Bool := (List.range k).all fun j => decide (cmpP L[j]! L[j + 1]! < 0)
def incB (L : List Tn) : Bool := incTo L (L.length - 1)
theorem incTo_next {L : List Tn} {k : Nat} (h : incTo L k = true) (hc : cmpP L[k]! L[k + 1]! < 0) : incTo L (k + 1) = true := by
  unfold incTo at *
  rw [List.range_succ, List.all_append, h]
  simp only [List.all_cons, List.all_nil, Bool.and_true, Bool.true_and]
  exact decide_eq_true hc
theorem incB_not {L : List Tn} {k : Nat} (hk : k + 1 < L.length) (hc : ¬ cmpP L[k]! L[k + 1]! < 0) : incB L = false := by
  unfold incB incTo
  rw [List.all_eq_false]
  exact ⟨k, List.mem_range.2 (by omega), by simpa using hc⟩
theorem incB_iff {L : List Tn} : incB L = true ↔ ∀ k, k + 1 < L.length → cmpP L[k]! L[k + 1]! < 0 := by
  unfold incB incTo
  rw [List.all_eq_true]
  constructor
  · intro h k hk
    have := h k (List.mem_range.2 (by omega))
    simpa using this
  · intro h k hk
    rw [List.mem_range] at hk
    simpa using h k (by omega)
/-- Each element of an increasing list comes before all later ones. -/
theorem inc_lt {L : List Tn} (h : incB L = true) : ∀ (d i : Nat), i + d + 1 < L.length → cmpP L[i]! L[i + d + 1]! < 0
  | 0, i, hi => incB_iff.1 h i hi
  | d + 1, i, hi => by
    have h1 := inc_lt h d i (by omega)
    have h2 := incB_iff.1 h (i + d + 1) (by omega)
    have h3 := cmpP_fit L[i]! L[i + d + 1]! L[i + d + 1 + 1]!
    exact h3.1 h1 h2
/-- The number of elements before the first one that does not come before t. -/
def rankOf (L : List Tn) (t : Tn) : Nat := L.findIdx fun x => decide (0 ≤ cmpP x t)
def rankHas (L : List Tn) (t : Tn) : Bool := decide (rankOf L t < L.length) && decide (cmpP L[rankOf L t]! t = 0)
theorem rankOf_le (L : List Tn) (t : Tn) : rankOf L t ≤ L.length := List.findIdx_le_length
theorem rankOf_eq {L : List Tn} {t : Tn} {i : Nat} (hi : i ≤ L.length) (h1 : ∀ j, j < i → cmpP L[j]! t < 0) (h2 : i < L.length → 0 ≤ cmpP L[i]! t) : rankOf L t = i := by
  unfold rankOf
  rcases Nat.lt_or_ge i L.length with hl | hl
  · rw [List.findIdx_eq hl]
    refine ⟨by simpa [getElem!_pos L i hl] using h2 hl, fun j hj => ?_⟩
    have := h1 j hj
    rw [getElem!_pos L j (by omega)] at this
    simp only [decide_eq_false_iff_not]
    omega
  · obtain rfl : i = L.length := by omega
    refine Nat.le_antisymm List.findIdx_le_length ?_
    rcases Nat.lt_or_ge (L.findIdx fun x => decide (0 ≤ cmpP x t)) L.length with h | h
    · have h3 := List.findIdx_getElem (w := h)
      have h4 := h1 _ h
      rw [getElem!_pos L _ h] at h4
      simp only [decide_eq_true_eq] at h3
      omega
    · exact h
end Tm

set_option maxHeartbeats 4000000 in
theorem areInc_any (F : Fo) (A : Option Addr) (n c B : Nat) (w : World) (hA : ArgsB w B A n F) (hn : n ≤ 4611686018427387904) (hv : ∀ x ∈ Tm.toL F, OkT false x) (hB : B ≤ w.heap.size) (hT : Tabs w) :
    Calls Tryd.prog 51 #[.slice A n c] w fun e w' => e = .returned (.bool (Tm.incB (Tm.toL F))) ∧ Below w.heap.size w w' := by
  have HA := Lib.hid hA
  have HOK := Lib.hid hv
  have HT := Lib.hid hT
  have hLn : (Tm.toL F).length = n := by rw [Tm.len_toL, hA.len]
  have HLL := Lib.hid hLn
  have hn2 : n ≤ 9223372036854775807 := by omega
  clear hA hv hT hLn
  have hm : Tryd.prog.follows .mixedOrders = true := by kernel_rfl
  go_enter Tryd.func51, Tryd.ntmps51
  go_wp2_with fail
  go_loopw [3] (fun u wr => ∃ kp : Nat, (kp + 1 ≤ n ∨ kp = 0) ∧ u = .int .i64 ((kp + 1 : Nat) : Int) ∧ Hid (Tm.incTo (Tm.toL F) kp = true) ∧ Below w.heap.size w wr) (fun u _ => n + 1 - (intOf u).toNat)
  case atStart => exact ⟨0, .inr rfl, by go_num, rfl, Below.refl _ _⟩
  case round =>
    obtain ⟨kp, hk, rfl, HP, hbl⟩ := hrel
    have HBL := Lib.hid hbl
    clear hbl
    by_cases hlt : kp + 1 < n
    · obtain ⟨bk, o, p1, l1, r1, A1, c1, rfl, hbB, hd, hnode⟩ := HA.out.at hlt
      obtain ⟨bk2, o2, p2, l2, r2, A2, c2, e2, hbB2, hd2, hnode2⟩ := HA.out.at (k := kp) (by omega)
      cases e2
      have hbw : bk < w.heap.size := Nat.lt_of_lt_of_le hbB hB
      have hws := HBL.out.size
      have hbr : bk < wr.heap.size := by omega
      have y0 := cell_bw (a := ⟨bk, o + (kp + 1) * 4, none⟩) hbr ((HBL.out.cell (p := ⟨bk, o + (kp + 1) * 4, none⟩) hbw).trans hnode.kind)
      have y1 := cell_bw (a := ⟨bk, o + (kp + 1) * 4 + 1, none⟩) hbr ((HBL.out.cell (p := ⟨bk, o + (kp + 1) * 4 + 1, none⟩) hbw).trans hnode.num)
      have y2 := cell_bw (a := ⟨bk, o + (kp + 1) * 4 + 2, none⟩) hbr ((HBL.out.cell (p := ⟨bk, o + (kp + 1) * 4 + 2, none⟩) hbw).trans hnode.name)
      have y3 := cell_bw (a := ⟨bk, o + (kp + 1) * 4 + 3, none⟩) hbr ((HBL.out.cell (p := ⟨bk, o + (kp + 1) * 4 + 3, none⟩) hbw).trans hnode.args)
      have z0 := cell_bw (a := ⟨bk, o + kp * 4, none⟩) hbr ((HBL.out.cell (p := ⟨bk, o + kp * 4, none⟩) hbw).trans hnode2.kind)
      have z1 := cell_bw (a := ⟨bk, o + kp * 4 + 1, none⟩) hbr ((HBL.out.cell (p := ⟨bk, o + kp * 4 + 1, none⟩) hbw).trans hnode2.num)
      have z2 := cell_bw (a := ⟨bk, o + kp * 4 + 2, none⟩) hbr ((HBL.out.cell (p := ⟨bk, o + kp * 4 + 2, none⟩) hbw).trans hnode2.name)
      have z3 := cell_bw (a := ⟨bk, o + kp * 4 + 3, none⟩) hbr ((HBL.out.cell (p := ⟨bk, o + kp * 4 + 3, none⟩) hbw).trans hnode2.args)
      have hx1 : ArgsB wr wr.heap.size A1 (Tm.len l1) l1 := (hnode.inn.below HBL.out hB).up (by omega)
      have hx2 : ArgsB wr wr.heap.size A2 (Tm.len l2) l2 := (hnode2.inn.below HBL.out hB).up (by omega)
      have hok1 := HOK.out _ (List.mem_of_getElem? (Tm.toL_at hd))
      have hok2 := HOK.out _ (List.mem_of_getElem? (Tm.toL_at hd2))
      have hk3 : ∀ q : Bw wr, Calls Tryd.prog 37 #[tv p2 A2 (Tm.len l2) c2, tv p1 A1 (Tm.len l1) c1] q.to fun e w' => e = .returned (.int .i64 (Tm.cmpT p2 l2 p1 l1)) ∧ Below q.to.heap.size q.to w' := fun q =>
        compare_any _ _ _ _ _ _ _ _ wr.heap.size q.to hok2.1 hok1.1 (hx2.below q.ok (Nat.le_refl _)) (hx1.below q.ok (Nat.le_refl _)) q.ok.size (HT.out.only (Only.of_below (X := fun _ => False) (HBL.out.trans (q.ok.mono hws))) id)
      have hcv : Tm.cmpP (Tm.toL F)[kp]! (Tm.toL F)[kp + 1]! = Tm.cmpT p2 l2 p1 l1 := by
        have e1 := Tm.toL_at hd
        have e2 := Tm.toL_at hd2
        rw [List.getElem?_eq_getElem (by rw [HLL.out]; omega)] at e1 e2
        rw [getElem!_pos _ kp (by rw [HLL.out]; omega), getElem!_pos _ (kp + 1) (by rw [HLL.out]; omega), Option.some.inj e1, Option.some.inj e2]
        rfl
      have HCV := Lib.hid hcv
      clear hnode hnode2 hd hd2 hx1 hx2 hok1 hok2 hcv
      generalize Tm.cmpT p2 l2 p1 l1 = cv at hk3 HCV
      generalize Tm.len l2 = m2 at z3 hk3
      generalize Tm.len l1 = m1 at y3 hk3
      have hwp : IntKind.i64.wrap (kp : Int) = (kp : Int) := by rw [IntKind.wrap_i64]; omega
      have jz : (kp : Int) + 1 < (n : Int) := by omega
      have jz2 : (kp : Int) < (n : Int) := by omega
      have p0 : (0 : Int) ≤ (kp : Int) + 1 := by omega
      have e0' : ((kp : Int) + 1).toNat = kp + 1 := by omega
      by_cases hc : cv < 0
      · have hcb : ¬ (0 : Int) ≤ cv := by omega
        have HN := Lib.hid (Tm.incTo_next HP.out (by rw [HCV.out]; exact hc))
        clear HCV
        go_wp2_with fail
        refine wp_region_bw hm (by kernel_rfl) ?_
        repeat (go_big_quiet_step (exact calls_bw (hk3 _)))
        refine wpQuiet_nil ?_
        intro _ hw'
        obtain ⟨pq, hw''⟩ := hw'
        subst hw''
        go_wp2_with fail
        exact ⟨⟨kp + 1, .inl (by omega), by go_num, HN.out, HBL.out.trans (pq.ok.mono hws)⟩, by simp [intOf]; omega⟩
      · have hcb : (0 : Int) ≤ cv := by omega
        have HN := Lib.hid (Tm.incB_not (L := Tm.toL F) (k := kp) (by rw [HLL.out]; omega) (by rw [HCV.out]; exact hc))
        clear HCV
        go_wp2_with fail
        refine wp_region_bw hm (by kernel_rfl) ?_
        repeat (go_big_quiet_step (exact calls_bw (hk3 _)))
        refine wpQuiet_nil ?_
        intro _ hw'
        obtain ⟨pq, hw''⟩ := hw'
        subst hw''
        go_wp2_with fail
        go_ret
        refine ⟨?_, HBL.out.trans (pq.ok.mono hws)⟩
        rw [HN.out]
        rfl
    · have hltz : ¬ ((kp + 1 : Nat) : Int) < (n : Int) := by omega
      have hltz2 : ¬ (kp : Int) + 1 < (n : Int) := by omega
      go_wp2_with fail
      go_ret
      refine ⟨?_, HBL.out⟩
      have : Tm.incB (Tm.toL F) = true := by
        unfold Tm.incB
        rw [HLL.out, show n - 1 = kp by omega]
        exact HP.out
      rw [this]
      rfl
end Go.Proofs.YtcjakmafojbhlaaDoor
namespace Go.Proofs.YtcjakmafojbhlaaDoor
set_option linter.unusedVariables false
set_option linter.unusedSimpArgs false
open Go.RowKit
section
variable {ops : Array Oper} {Q : Exit → Act → World → Prop} {N : Nat} {env : Env} {w0 w : World} {a : Act}
/-- An operation with the edges alone that bind in both orders. -/
def stripO (o : Oper) : Oper := { o with after := o.after.filter fun e => Region.binds .any e }
def strip (ops : Array Oper) : Array Oper := ops.map stripO
theorem strip_size (ops : Array Oper) : (strip ops).size = ops.size := by simp [strip]
theorem strip_at (ops : Array Oper) (i : Nat) : (strip ops)[i]? = (ops[i]?).map stripO := by simp [strip]
theorem strip_ready (ops : Array Oper) (listed : Array Bool) : Region.ready .any (strip ops) listed = Region.ready .any ops listed := by
  unfold Region.ready
  rw [strip_size]
  refine List.filter_congr fun i _ => ?_
  rw [strip_at]
  cases ops[i]? with
  | none => rfl
  | some o =>
    simp only [Option.map_some, Option.getD_some]
    congr 1
    show (o.after.filter fun e => Region.binds .any e).all _ = o.after.all _
    rw [Bool.eq_iff_iff, Array.all_eq_true', Array.all_eq_true']
    constructor
    · intro h e he
      cases hb : Region.binds .any e with
      | false => rfl
      | true => have := h e (Array.mem_filter.2 ⟨he, hb⟩); rwa [hb] at this
    · intro h e he
      exact h e (Array.mem_filter.1 he).1
theorem strip_yielded (ops : Array Oper) (tmps : Array Value) : yielded (strip ops) tmps = yielded ops tmps := by
  funext j
  unfold yielded
  rw [strip_at]
  cases ops[j]? <;> rfl
theorem wpAny_strip : ∀ (fuel : Nat) (listed : Array Bool) (a : Act) (w : World), wpAny Tryd.prog .any (strip ops) Q fuel listed a w → wpAny Tryd.prog .any ops Q fuel listed a w
  | 0, listed, a, w, h => by
    unfold wpAny at *
    rw [strip_ready] at h
    exact h
  | fuel + 1, listed, a, w, h => by
    unfold wpAny at *
    rw [strip_ready] at h
    refine ⟨h.1, fun i hi => ?_⟩
    have h1 := h.2 i hi
    unfold wpOp at *
    rw [strip_at, strip_yielded] at h1
    cases ho : ops[i]? with
    | none => rw [ho] at h1; exact wpAny_strip fuel _ _ _ h1
    | some o =>
      rw [ho] at h1
      simp only [Option.map_some] at h1
      have hw : Region.wanted (stripO o) (yielded ops a.tmps) = Region.wanted o (yielded ops a.tmps) := rfl
      rw [hw] at h1
      by_cases hx : Region.wanted o (yielded ops a.tmps) = true
      · rw [if_pos hx] at h1
        show if _ then _ else _
        rw [if_pos hx]
        rcases h1 with h1 | h1
        · exact .inl (Oper.wp_mono (fun a w h => wpAny_strip fuel _ a w h) (show o.wp Tryd.prog a w _ Q from h1))
        · exact .inr h1
      · rw [if_neg hx] at h1
        show if _ then _ else _
        rw [if_neg hx]
        exact wpAny_strip fuel _ _ _ h1
/-- A region that draws its order. -/
theorem env_any4 {id : Nat} (Ds : List Nat) (Es : List Kd) (hsz : ops.size = Es.length) (hg : goodAll3 (fun i => (Es[i]?).getD .any) (fun i => (Ds[i]?).getD (1000 + i)) (look env) N 0 (strip ops).toList = true) (hD : ∀ i, i < Es.length → ∀ j, j < Es.length → (Ds[i]?).getD (1000 + i) = (Ds[j]?).getD (1000 + j) → i = j)
    (hs : ∀ i, i < Es.length → RStep (strip ops) Q (fun i => (Es[i]?).getD .any) (fun i => (Ds[i]?).getD (1000 + i)) (look env) N i) (st : Hold N env w0 a w)
    (hQ : ∀ a' w', Hold N (Ds.zip Es ++ env) w0 a' w' → Q .normal a' w') : (Code.region id ops true).wp Tryd.prog Q a w := by
  have hsz' : (strip ops).size = Es.length := by rw [strip_size]; exact hsz
  refine wp_region_any (by kernel_rfl) (wpAny_strip _ _ _ _ ?_)
  refine any_steps (ops := strip ops) (E := fun i => (Es[i]?).getD .any) (D := fun i => (Ds[i]?).getD (1000 + i)) (base := look env) (N := N) (fun i o ho => ?_) (fun i j hi hj he => hD i (by omega) j (by omega) he) (fun i hi => hs i (by omega)) w0 (fun listed a' w' hl s => ?_) ops.size _ a _ ?_ (by simp [strip]) ?_
  · have := goodAll3_spec _ 0 hg i o (by rw [Array.getElem?_toList]; exact ho)
    rwa [Nat.zero_add] at this
  · refine hQ a' w' ⟨s.size, s.defers, s.world, fun t k hk => ?_⟩
    rcases look_zip env Ds Es t k hk with ⟨i, h1, h2, h3⟩ | h
    · have := s.done i (by omega) (hl i (by omega))
      simp only [h2, h3, Option.getD_some] at this
      exact this
    · exact s.base t k h
  · unfold cnt
    exact Nat.le_trans (List.countP_le_length) (by simp [strip_size])
  · have hb : Below w.heap.size w { w with drawn := w.drawn + 1 } := ⟨rfl, rfl, rfl, Nat.le_refl _, fun _ _ => rfl⟩
    refine ⟨st.size, st.defers, st.world.trans (hb.mono st.world.size), fun t k hk => Kd.keep (st.slots t k hk) hb, fun j hj hl => ?_⟩
    rw [strip_size] at hj
    simp [hj] at hl

end
end Go.Proofs.YtcjakmafojbhlaaDoor
namespace Go.Proofs.YtcjakmafojbhlaaDoor
set_option linter.unusedVariables false
set_option linter.unusedSimpArgs false
open Go.RowKit
section
variable {ops : Array Oper} {Q : Exit → Act → World → Prop} {E : Nat → Kd} {D : Nat → Nat} {base : Nat → Option Kd} {N : Nat}
theorem step_fcompare {i : Nat} {t : Tmp} {x y : Operand} {p q : Pay} {l m : Fo} (hg : Tm.goodB p l = true) (hg' : Tm.goodB q m = true) (tt : Nat) (hop : (ops[i]?).map (·.op) = some (.call { callee := .value (.tmp t), args := #[x, y], argTypes := #[24, 24] })) (ht : Opd ops E D base N i (.tmp t) (.val (.func (.func 37) #[] #[]))) (hx : Opd ops E D base N i x (.term p l)) (hy : Opd ops E D base N i y (.term q m)) (hT : Opd ops E D base N i (.tmp tt) .tabs) (hE : E i = .val (.int .i64 (Tm.cmpT p l q m))) : Step Tryd.prog ops Q E D base N i :=
  step_callv hop ht enters_compare fun a w h => by
    obtain ⟨A, c, ex, ha⟩ := hx a w h
    obtain ⟨A', c', ey, ha'⟩ := hy a w h
    have hT' : Tabs w := hT a w h
    rw [show (#[x, y] : Array Operand).map a.eval ++ #[] = #[tv p A (Tm.len l) c, tv q A' (Tm.len m) c'] by rw [← ex, ← ey]; simp, hE]
    exact below_R (compare_any p l A c q m A' c' w.heap.size w hg hg' ha ha' (Nat.le_refl _) hT')
end
noncomputable def bs0Ops : Array Oper := ((Tryd.f52.body).bind (findReg 0)).getD #[]
noncomputable def bs1Ops : Array Oper := ((Tryd.f52.body).bind (findReg 1)).getD #[]
noncomputable def bs2Ops : Array Oper := ((Tryd.f52.body).bind (findReg 2)).getD #[]
noncomputable def bs3Ops : Array Oper := ((Tryd.f52.body).bind (findReg 3)).getD #[]
noncomputable def bs4Ops : Array Oper := ((Tryd.f52.body).bind (findReg 4)).getD #[]
noncomputable def bs5Ops : Array Oper := ((Tryd.f52.body).bind (findReg 5)).getD #[]
noncomputable def bs6Ops : Array Oper := ((Tryd.f52.body).bind (findReg 6)).getD #[]
noncomputable def bs7Ops : Array Oper := ((Tryd.f52.body).bind (findReg 7)).getD #[]
noncomputable def bs8Ops : Array Oper := ((Tryd.f52.body).bind (findReg 8)).getD #[]
theorem bs_body : Tryd.f52.body = some (.seq (.region 0 bs0Ops false) (.seq (.region 1 bs1Ops false) (.seq (.region 2 bs2Ops false) (.seq (.block 0 (.loop (.seq (.seq (.region 3 bs3Ops false) (.cond (.tmp 17) .skip (.exit 0))) (.block 1 (.seq (.region 4 bs4Ops false) (.seq (.region 5 bs5Ops true) (.cond (.tmp 31) (.region 6 bs6Ops false) (.region 7 bs7Ops false)))))))) (.seq (.region 8 bs8Ops true) .ret))))) := by kernel_rfl
theorem bs0_region {Q : Exit → Act → World → Prop} (F : Fo) (p : Pay) (l : Fo)  {w0 : World} {a : Act} {w : World} (h : Hold 49 [(0, .row F), (1, .term p l), (2, .val (.func (.func 37) #[] #[])), (999, .tabs)] w0 a w)
    (hQ : ∀ a' w', Hold 49 [(0, .row F), (2, .val (.func (.func 37) #[] #[])), (4, .ptrT p l), (999, .tabs)] w0 a' w' → Q .normal a' w') : (Code.region 0 bs0Ops false).wp Tryd.prog Q a w := by
  refine region_seq (w0 := w) 3 (by kernel_rfl) ?_
  rw [show List.range 3 = [0, 1, 2] from rfl]
  refine env_one (i := 0) (d := 4) (k := .ptrT p l) (step_box (by kernel_rfl) (Opd.of_base 1 rfl) rfl) (by kernel_rfl) (by decide) h ?_
  clear h
  intro a w h
  refine env_one (i := 1) (d := 6) (k := .val (.int .i64 0)) (step_assign (by kernel_rfl) (Opd.const _) rfl) (by kernel_rfl) (by decide) h ?_
  clear h
  intro a w h
  refine env_one (i := 2) (d := 7) (k := .val (.bool false)) (step_assign (by kernel_rfl) (Opd.const _) rfl) (by kernel_rfl) (by decide) h ?_
  clear h
  intro a w h
  exact hQ a w (h.keep [0, 2, 4, 999])
theorem bs1_region {Q : Exit → Act → World → Prop} (F : Fo) (p : Pay) (l : Fo)  {w0 : World} {a : Act} {w : World} (h : Hold 49 [(0, .row F), (2, .val (.func (.func 37) #[] #[])), (4, .ptrT p l), (999, .tabs)] w0 a w)
    (hQ : ∀ a' w', Hold 49 [(0, .row F), (2, .val (.func (.func 37) #[] #[])), (4, .ptrT p l), (8, .val (.int .i64 ((Tm.len F : Nat) : Int))), (999, .tabs)] w0 a' w' → Q .normal a' w') : (Code.region 1 bs1Ops false).wp Tryd.prog Q a w := by
  refine region_seq (w0 := w) 3 (by kernel_rfl) ?_
  rw [show List.range 3 = [0, 1, 2] from rfl]
  refine env_one (i := 0) (d := 12) (k := .row F) (step_move (by kernel_rfl) (Opd.of_base 0 rfl) rfl) (by kernel_rfl) (by decide) h ?_
  clear h
  intro a w h
  refine env_one (i := 1) (d := 13) (k := .val (.int .i64 ((Tm.len F : Nat) : Int))) (step_len_row (by kernel_rfl) (Opd.of_base 12 rfl) rfl) (by kernel_rfl) (by decide) h ?_
  clear h
  intro a w h
  refine env_one (i := 2) (d := 8) (k := .val (.int .i64 ((Tm.len F : Nat) : Int))) (step_assign (by kernel_rfl) (Opd.of_base 13 rfl) rfl) (by kernel_rfl) (by decide) h ?_
  clear h
  intro a w h
  exact hQ a w (h.keep [0, 2, 4, 8, 999])
theorem bs2_region {Q : Exit → Act → World → Prop} (F : Fo) (p : Pay) (l : Fo)  {w0 : World} {a : Act} {w : World} (h : Hold 49 [(0, .row F), (2, .val (.func (.func 37) #[] #[])), (4, .ptrT p l), (8, .val (.int .i64 ((Tm.len F : Nat) : Int))), (999, .tabs)] w0 a w)
    (hQ : ∀ a' w', Hold 49 [(0, .row F), (2, .val (.func (.func 37) #[] #[])), (4, .ptrT p l), (8, .val (.int .i64 ((Tm.len F : Nat) : Int))), (9, .val (.int .i64 0)), (10, .val (.int .i64 ((Tm.len F : Nat) : Int))), (999, .tabs)] w0 a' w' → Q .normal a' w') : (Code.region 2 bs2Ops false).wp Tryd.prog Q a w := by
  refine region_seq (w0 := w) 3 (by kernel_rfl) ?_
  rw [show List.range 3 = [0, 1, 2] from rfl]
  refine env_one (i := 0) (d := 14) (k := .val (.int .i64 ((Tm.len F : Nat) : Int))) (step_move (by kernel_rfl) (Opd.of_base 8 rfl) rfl) (by kernel_rfl) (by decide) h ?_
  clear h
  intro a w h
  refine env_one (i := 1) (d := 9) (k := .val (.int .i64 0)) (step_assign (by kernel_rfl) (Opd.const _) rfl) (by kernel_rfl) (by decide) h ?_
  clear h
  intro a w h
  refine env_one (i := 2) (d := 10) (k := .val (.int .i64 ((Tm.len F : Nat) : Int))) (step_assign (by kernel_rfl) (Opd.of_base 14 rfl) rfl) (by kernel_rfl) (by decide) h ?_
  clear h
  intro a w h
  exact hQ a w (h.keep [0, 2, 4, 8, 9, 10, 999])
theorem bs3_region {Q : Exit → Act → World → Prop} (F : Fo) (p : Pay) (l : Fo) (lo hi : Nat)  {w0 : World} {a : Act} {w : World} (h : Hold 49 [(0, .row F), (2, .val (.func (.func 37) #[] #[])), (4, .ptrT p l), (8, .val (.int .i64 ((Tm.len F : Nat) : Int))), (9, .val (.int .i64 ((lo : Nat) : Int))), (10, .val (.int .i64 ((hi : Nat) : Int))), (999, .tabs)] w0 a w)
    (hQ : ∀ a' w', Hold 49 [(0, .row F), (2, .val (.func (.func 37) #[] #[])), (4, .ptrT p l), (8, .val (.int .i64 ((Tm.len F : Nat) : Int))), (9, .val (.int .i64 ((lo : Nat) : Int))), (10, .val (.int .i64 ((hi : Nat) : Int))), (999, .tabs), (17, .val (.bool (decide (((lo : Nat) : Int) < ((hi : Nat) : Int)))))] w0 a' w' → Q .normal a' w') : (Code.region 3 bs3Ops false).wp Tryd.prog Q a w := by
  refine region_seq (w0 := w) 3 (by kernel_rfl) ?_
  rw [show List.range 3 = [0, 1, 2] from rfl]
  refine env_one (i := 0) (d := 15) (k := .val (.int .i64 ((lo : Nat) : Int))) (step_move (by kernel_rfl) (Opd.of_base 9 rfl) rfl) (by kernel_rfl) (by decide) h ?_
  clear h
  intro a w h
  refine env_one (i := 1) (d := 16) (k := .val (.int .i64 ((hi : Nat) : Int))) (step_move (by kernel_rfl) (Opd.of_base 10 rfl) rfl) (by kernel_rfl) (by decide) h ?_
  clear h
  intro a w h
  refine env_one (i := 2) (d := 17) (k := .val (.bool (decide (((lo : Nat) : Int) < ((hi : Nat) : Int))))) (step_lt_int (m := ((lo : Nat) : Int)) (n := ((hi : Nat) : Int)) (by kernel_rfl) (Opd.of_base 15 rfl) (Opd.of_base 16 rfl) rfl rfl) (by kernel_rfl) (by decide) h ?_
  clear h
  intro a w h
  exact hQ a w (h.keep [0, 2, 4, 8, 9, 10, 999, 17])
theorem bs4_region {Q : Exit → Act → World → Prop} (F : Fo) (p : Pay) (l : Fo) (lo hi : Nat) (h1 : lo ≤ 100000) (h2 : hi ≤ 100000) {w0 : World} {a : Act} {w : World} (h : Hold 49 [(0, .row F), (2, .val (.func (.func 37) #[] #[])), (4, .ptrT p l), (8, .val (.int .i64 ((Tm.len F : Nat) : Int))), (9, .val (.int .i64 ((lo : Nat) : Int))), (10, .val (.int .i64 ((hi : Nat) : Int))), (999, .tabs)] w0 a w)
    (hQ : ∀ a' w', Hold 49 [(0, .row F), (2, .val (.func (.func 37) #[] #[])), (4, .ptrT p l), (8, .val (.int .i64 ((Tm.len F : Nat) : Int))), (9, .val (.int .i64 ((lo : Nat) : Int))), (10, .val (.int .i64 ((hi : Nat) : Int))), (999, .tabs), (11, .val (.int .i64 (((lo + hi) / 2 : Nat) : Int)))] w0 a' w' → Q .normal a' w') : (Code.region 4 bs4Ops false).wp Tryd.prog Q a w := by
  refine region_seq (w0 := w) 7 (by kernel_rfl) ?_
  rw [show List.range 7 = [0, 1, 2, 3, 4, 5, 6] from rfl]
  refine env_one (i := 0) (d := 18) (k := .val (.int .i64 ((lo : Nat) : Int))) (step_move (by kernel_rfl) (Opd.of_base 9 rfl) rfl) (by kernel_rfl) (by decide) h ?_
  clear h
  intro a w h
  refine env_one (i := 1) (d := 19) (k := .val (.int .i64 ((hi : Nat) : Int))) (step_move (by kernel_rfl) (Opd.of_base 10 rfl) rfl) (by kernel_rfl) (by decide) h ?_
  clear h
  intro a w h
  refine env_one (i := 2) (d := 20) (k := .val (.int .i64 ((lo + hi : Nat) : Int))) (step_add (m := ((lo : Nat) : Int)) (n := ((hi : Nat) : Int)) (s := ((lo + hi : Nat) : Int)) (by kernel_rfl) (Opd.of_base 18 rfl) (Opd.of_base 19 rfl) (by rw [IntKind.wrap_i64]; omega) rfl) (by kernel_rfl) (by decide) h ?_
  clear h
  intro a w h
  refine env_one (i := 3) (d := 21) (k := .val (.int .u64 ((lo + hi : Nat) : Int))) (step_conv_u (n := lo + hi) (by omega) (by kernel_rfl) (Opd.of_base 20 rfl) rfl) (by kernel_rfl) (by decide) h ?_
  clear h
  intro a w h
  refine env_one (i := 4) (d := 22) (k := .val (.int .u64 (((lo + hi) / 2 : Nat) : Int))) (step_half (n := lo + hi) (by omega) (by kernel_rfl) (Opd.of_base 21 rfl) rfl) (by kernel_rfl) (by decide) h ?_
  clear h
  intro a w h
  refine env_one (i := 5) (d := 23) (k := .val (.int .i64 (((lo + hi) / 2 : Nat) : Int))) (step_conv_i (n := (lo + hi) / 2) (by omega) (by kernel_rfl) (Opd.of_base 22 rfl) rfl) (by kernel_rfl) (by decide) h ?_
  clear h
  intro a w h
  refine env_one (i := 6) (d := 11) (k := .val (.int .i64 (((lo + hi) / 2 : Nat) : Int))) (step_assign (by kernel_rfl) (Opd.of_base 23 rfl) rfl) (by kernel_rfl) (by decide) h ?_
  clear h
  intro a w h
  exact hQ a w (h.keep [0, 2, 4, 8, 9, 10, 999, 11])
def bs5Es (F : Fo) (p : Pay) (l : Fo) (lo hi : Nat) (m : Nat) (p1 : Pay) (l1 r1 : Fo) : List Kd := [
  .val (.func (.func 37) #[] #[]),
  .row F,
  .val (.int .i64 ((m : Nat) : Int)),
  .ptrT p1 l1,
  .term p1 l1,
  .term p l,
  .val (.int .i64 (Tm.cmpT p1 l1 p l)),
  .val (.bool (decide ((Tm.cmpT p1 l1 p l) < 0)))]
def bs5Ds : List Nat := [24, 25, 26, 27, 28, 29, 30, 31]
def bs5Env (F : Fo) (p : Pay) (l : Fo) (lo hi : Nat) (m : Nat) (p1 : Pay) (l1 r1 : Fo) : Env := [(0, .row F), (2, .val (.func (.func 37) #[] #[])), (4, .ptrT p l), (8, .val (.int .i64 ((Tm.len F : Nat) : Int))), (9, .val (.int .i64 ((lo : Nat) : Int))), (10, .val (.int .i64 ((hi : Nat) : Int))), (999, .tabs), (11, .val (.int .i64 ((m : Nat) : Int)))]
theorem bs5_0 {Q : Exit → Act → World → Prop} (F : Fo) (p : Pay) (l : Fo) (lo hi : Nat) (m : Nat) (p1 : Pay) (l1 r1 : Fo) (d1 : Tm.dropF F m = .node p1 l1 r1) (g1 : Tm.goodB p1 l1 = true) (g2 : Tm.goodB p l = true) : RStep bs5Ops Q (fun i => ((bs5Es F p l lo hi m p1 l1 r1)[i]?).getD .any) (fun i => (bs5Ds[i]?).getD (1000 + i)) (look (bs5Env F p l lo hi m p1 l1 r1)) 49 0 := fun _ => step_move (by kernel_rfl) (Opd.of_base 2 rfl) rfl
theorem bs5_1 {Q : Exit → Act → World → Prop} (F : Fo) (p : Pay) (l : Fo) (lo hi : Nat) (m : Nat) (p1 : Pay) (l1 r1 : Fo) (d1 : Tm.dropF F m = .node p1 l1 r1) (g1 : Tm.goodB p1 l1 = true) (g2 : Tm.goodB p l = true) : RStep bs5Ops Q (fun i => ((bs5Es F p l lo hi m p1 l1 r1)[i]?).getD .any) (fun i => (bs5Ds[i]?).getD (1000 + i)) (look (bs5Env F p l lo hi m p1 l1 r1)) 49 1 := fun _ => step_move (by kernel_rfl) (Opd.of_base 0 rfl) rfl
theorem bs5_2 {Q : Exit → Act → World → Prop} (F : Fo) (p : Pay) (l : Fo) (lo hi : Nat) (m : Nat) (p1 : Pay) (l1 r1 : Fo) (d1 : Tm.dropF F m = .node p1 l1 r1) (g1 : Tm.goodB p1 l1 = true) (g2 : Tm.goodB p l = true) : RStep bs5Ops Q (fun i => ((bs5Es F p l lo hi m p1 l1 r1)[i]?).getD .any) (fun i => (bs5Ds[i]?).getD (1000 + i)) (look (bs5Env F p l lo hi m p1 l1 r1)) 49 2 := fun _ => step_move (by kernel_rfl) (Opd.of_base 11 rfl) rfl
theorem bs5_3 {Q : Exit → Act → World → Prop} (F : Fo) (p : Pay) (l : Fo) (lo hi : Nat) (m : Nat) (p1 : Pay) (l1 r1 : Fo) (d1 : Tm.dropF F m = .node p1 l1 r1) (g1 : Tm.goodB p1 l1 = true) (g2 : Tm.goodB p l = true) : RStep bs5Ops Q (fun i => ((bs5Es F p l lo hi m p1 l1 r1)[i]?).getD .any) (fun i => (bs5Ds[i]?).getD (1000 + i)) (look (bs5Env F p l lo hi m p1 l1 r1)) 49 3 := fun _ => step_row_at (k := m) (r := r1) (by kernel_rfl) (Opd.dep 1 rfl rfl (by kernel_rfl)) (Opd.dep 2 rfl rfl (by kernel_rfl)) d1 rfl
theorem bs5_4 {Q : Exit → Act → World → Prop} (F : Fo) (p : Pay) (l : Fo) (lo hi : Nat) (m : Nat) (p1 : Pay) (l1 r1 : Fo) (d1 : Tm.dropF F m = .node p1 l1 r1) (g1 : Tm.goodB p1 l1 = true) (g2 : Tm.goodB p l = true) : RStep bs5Ops Q (fun i => ((bs5Es F p l lo hi m p1 l1 r1)[i]?).getD .any) (fun i => (bs5Ds[i]?).getD (1000 + i)) (look (bs5Env F p l lo hi m p1 l1 r1)) 49 4 := fun _ => step_load_term (by kernel_rfl) (Opd.dep 3 rfl rfl (by kernel_rfl)) rfl
theorem bs5_5 {Q : Exit → Act → World → Prop} (F : Fo) (p : Pay) (l : Fo) (lo hi : Nat) (m : Nat) (p1 : Pay) (l1 r1 : Fo) (d1 : Tm.dropF F m = .node p1 l1 r1) (g1 : Tm.goodB p1 l1 = true) (g2 : Tm.goodB p l = true) : RStep bs5Ops Q (fun i => ((bs5Es F p l lo hi m p1 l1 r1)[i]?).getD .any) (fun i => (bs5Ds[i]?).getD (1000 + i)) (look (bs5Env F p l lo hi m p1 l1 r1)) 49 5 := fun _ => step_load_term (by kernel_rfl) (Opd.of_base 4 rfl) rfl
theorem bs5_6 {Q : Exit → Act → World → Prop} (F : Fo) (p : Pay) (l : Fo) (lo hi : Nat) (m : Nat) (p1 : Pay) (l1 r1 : Fo) (d1 : Tm.dropF F m = .node p1 l1 r1) (g1 : Tm.goodB p1 l1 = true) (g2 : Tm.goodB p l = true) : RStep bs5Ops Q (fun i => ((bs5Es F p l lo hi m p1 l1 r1)[i]?).getD .any) (fun i => (bs5Ds[i]?).getD (1000 + i)) (look (bs5Env F p l lo hi m p1 l1 r1)) 49 6 := fun _ => step_fcompare g1 g2 999 (by kernel_rfl) (Opd.dep 0 rfl rfl (by kernel_rfl)) (Opd.dep 4 rfl rfl (by kernel_rfl)) (Opd.dep 5 rfl rfl (by kernel_rfl)) (Opd.of_base 999 rfl) rfl
theorem bs5_7 {Q : Exit → Act → World → Prop} (F : Fo) (p : Pay) (l : Fo) (lo hi : Nat) (m : Nat) (p1 : Pay) (l1 r1 : Fo) (d1 : Tm.dropF F m = .node p1 l1 r1) (g1 : Tm.goodB p1 l1 = true) (g2 : Tm.goodB p l = true) : RStep bs5Ops Q (fun i => ((bs5Es F p l lo hi m p1 l1 r1)[i]?).getD .any) (fun i => (bs5Ds[i]?).getD (1000 + i)) (look (bs5Env F p l lo hi m p1 l1 r1)) 49 7 := fun _ => step_lt_int (m := (Tm.cmpT p1 l1 p l)) (n := 0) (by kernel_rfl) (Opd.dep 6 rfl rfl (by kernel_rfl)) (Opd.const _) rfl rfl
theorem bs5_region {Q : Exit → Act → World → Prop} (F : Fo) (p : Pay) (l : Fo) (lo hi : Nat) (m : Nat) (p1 : Pay) (l1 r1 : Fo) (d1 : Tm.dropF F m = .node p1 l1 r1) (g1 : Tm.goodB p1 l1 = true) (g2 : Tm.goodB p l = true) {w0 : World} {a : Act} {w : World} (h : Hold 49 [(0, .row F), (2, .val (.func (.func 37) #[] #[])), (4, .ptrT p l), (8, .val (.int .i64 ((Tm.len F : Nat) : Int))), (9, .val (.int .i64 ((lo : Nat) : Int))), (10, .val (.int .i64 ((hi : Nat) : Int))), (999, .tabs), (11, .val (.int .i64 ((m : Nat) : Int)))] w0 a w)
    (hQ : ∀ a' w', Hold 49 [(0, .row F), (2, .val (.func (.func 37) #[] #[])), (4, .ptrT p l), (8, .val (.int .i64 ((Tm.len F : Nat) : Int))), (9, .val (.int .i64 ((lo : Nat) : Int))), (10, .val (.int .i64 ((hi : Nat) : Int))), (999, .tabs), (11, .val (.int .i64 ((m : Nat) : Int))), (31, .val (.bool (decide ((Tm.cmpT p1 l1 p l) < 0))))] w0 a' w' → Q .normal a' w') : (Code.region 5 bs5Ops true).wp Tryd.prog Q a w := by
  have hall : ∀ i, i < 0 → RStep bs5Ops Q (fun i => ((bs5Es F p l lo hi m p1 l1 r1)[i]?).getD .any) (fun i => (bs5Ds[i]?).getD (1000 + i)) (look (bs5Env F p l lo hi m p1 l1 r1)) 49 i := fun i hi => absurd hi (by omega)
  have hall := below_succ hall (bs5_0 F p l lo hi m p1 l1 r1 d1 g1 g2)
  have hall := below_succ hall (bs5_1 F p l lo hi m p1 l1 r1 d1 g1 g2)
  have hall := below_succ hall (bs5_2 F p l lo hi m p1 l1 r1 d1 g1 g2)
  have hall := below_succ hall (bs5_3 F p l lo hi m p1 l1 r1 d1 g1 g2)
  have hall := below_succ hall (bs5_4 F p l lo hi m p1 l1 r1 d1 g1 g2)
  have hall := below_succ hall (bs5_5 F p l lo hi m p1 l1 r1 d1 g1 g2)
  have hall := below_succ hall (bs5_6 F p l lo hi m p1 l1 r1 d1 g1 g2)
  have hall := below_succ hall (bs5_7 F p l lo hi m p1 l1 r1 d1 g1 g2)
  refine env_any (env := bs5Env F p l lo hi m p1 l1 r1) (N := 49) (w0 := w0) bs5Ds (bs5Es F p l lo hi m p1 l1 r1) (by kernel_rfl) (by kernel_rfl) (of_decide_eq_true (by kernel_rfl)) (fun i_ hi_ => hall i_ (by rw [show (bs5Es F p l lo hi m p1 l1 r1).length = 8 by kernel_rfl] at hi_; exact hi_)) h fun a' w' h => ?_
  exact hQ a' w' (h.keep [0, 2, 4, 8, 9, 10, 999, 11, 31])
theorem bs6_region {Q : Exit → Act → World → Prop} (F : Fo) (p : Pay) (l : Fo) (lo hi : Nat) (m : Nat) (h1 : m ≤ 100000) {w0 : World} {a : Act} {w : World} (h : Hold 49 [(0, .row F), (2, .val (.func (.func 37) #[] #[])), (4, .ptrT p l), (8, .val (.int .i64 ((Tm.len F : Nat) : Int))), (9, .val (.int .i64 ((lo : Nat) : Int))), (10, .val (.int .i64 ((hi : Nat) : Int))), (999, .tabs), (11, .val (.int .i64 ((m : Nat) : Int)))] w0 a w)
    (hQ : ∀ a' w', Hold 49 [(0, .row F), (2, .val (.func (.func 37) #[] #[])), (4, .ptrT p l), (8, .val (.int .i64 ((Tm.len F : Nat) : Int))), (9, .val (.int .i64 ((m + 1 : Nat) : Int))), (10, .val (.int .i64 ((hi : Nat) : Int))), (999, .tabs)] w0 a' w' → Q .normal a' w') : (Code.region 6 bs6Ops false).wp Tryd.prog Q a w := by
  refine region_seq (w0 := w) 3 (by kernel_rfl) ?_
  rw [show List.range 3 = [0, 1, 2] from rfl]
  refine env_one (i := 0) (d := 32) (k := .val (.int .i64 ((m : Nat) : Int))) (step_move (by kernel_rfl) (Opd.of_base 11 rfl) rfl) (by kernel_rfl) (by decide) h ?_
  clear h
  intro a w h
  refine env_one (i := 1) (d := 33) (k := .val (.int .i64 ((m + 1 : Nat) : Int))) (step_add (m := ((m : Nat) : Int)) (n := 1) (s := ((m + 1 : Nat) : Int)) (by kernel_rfl) (Opd.of_base 32 rfl) (Opd.const _) (by rw [IntKind.wrap_i64]; omega) rfl) (by kernel_rfl) (by decide) h ?_
  clear h
  intro a w h
  refine env_one (i := 2) (d := 9) (k := .val (.int .i64 ((m + 1 : Nat) : Int))) (step_assign (by kernel_rfl) (Opd.of_base 33 rfl) rfl) (by kernel_rfl) (by decide) h ?_
  clear h
  intro a w h
  exact hQ a w (h.keep [0, 2, 4, 8, 9, 10, 999])
theorem bs7_region {Q : Exit → Act → World → Prop} (F : Fo) (p : Pay) (l : Fo) (lo hi : Nat) (m : Nat)  {w0 : World} {a : Act} {w : World} (h : Hold 49 [(0, .row F), (2, .val (.func (.func 37) #[] #[])), (4, .ptrT p l), (8, .val (.int .i64 ((Tm.len F : Nat) : Int))), (9, .val (.int .i64 ((lo : Nat) : Int))), (10, .val (.int .i64 ((hi : Nat) : Int))), (999, .tabs), (11, .val (.int .i64 ((m : Nat) : Int)))] w0 a w)
    (hQ : ∀ a' w', Hold 49 [(0, .row F), (2, .val (.func (.func 37) #[] #[])), (4, .ptrT p l), (8, .val (.int .i64 ((Tm.len F : Nat) : Int))), (9, .val (.int .i64 ((lo : Nat) : Int))), (10, .val (.int .i64 ((m : Nat) : Int))), (999, .tabs)] w0 a' w' → Q .normal a' w') : (Code.region 7 bs7Ops false).wp Tryd.prog Q a w := by
  refine region_seq (w0 := w) 2 (by kernel_rfl) ?_
  rw [show List.range 2 = [0, 1] from rfl]
  refine env_one (i := 0) (d := 34) (k := .val (.int .i64 ((m : Nat) : Int))) (step_move (by kernel_rfl) (Opd.of_base 11 rfl) rfl) (by kernel_rfl) (by decide) h ?_
  clear h
  intro a w h
  refine env_one (i := 1) (d := 10) (k := .val (.int .i64 ((m : Nat) : Int))) (step_assign (by kernel_rfl) (Opd.of_base 34 rfl) rfl) (by kernel_rfl) (by decide) h ?_
  clear h
  intro a w h
  exact hQ a w (h.keep [0, 2, 4, 8, 9, 10, 999])
def bs8nEs (F : Fo) (p : Pay) (l : Fo) (m : Nat) : List Kd := [
  .val (.int .i64 ((m : Nat) : Int)),
  .val (.int .i64 ((m : Nat) : Int)),
  .val (.int .i64 ((Tm.len F : Nat) : Int)),
  .val (.bool false),
  .val (.bool false),
  .val undef,
  .val undef,
  .val undef,
  .val undef,
  .val undef,
  .val undef,
  .val undef,
  .val undef,
  .val (.bool false),
  .val (.int .i64 ((m : Nat) : Int)),
  .val (.bool false)]
def bs8nDs : List Nat := [35, 36, 37, 38, 39, 40, 41, 42, 43, 44, 45, 46, 47, 48, 6, 7]
def bs8nEnv (F : Fo) (p : Pay) (l : Fo) (m : Nat) : Env := [(0, .row F), (2, .val (.func (.func 37) #[] #[])), (4, .ptrT p l), (8, .val (.int .i64 ((Tm.len F : Nat) : Int))), (9, .val (.int .i64 ((m : Nat) : Int))), (999, .tabs)]
theorem bs8n_0 {Q : Exit → Act → World → Prop} (F : Fo) (p : Pay) (l : Fo) (m : Nat) (h1 : ¬ m < Tm.len F) : RStep (strip bs8Ops) Q (fun i => ((bs8nEs F p l m)[i]?).getD .any) (fun i => (bs8nDs[i]?).getD (1000 + i)) (look (bs8nEnv F p l m)) 49 0 := fun _ => step_move (by kernel_rfl) (Opd.of_base 9 rfl) rfl
theorem bs8n_1 {Q : Exit → Act → World → Prop} (F : Fo) (p : Pay) (l : Fo) (m : Nat) (h1 : ¬ m < Tm.len F) : RStep (strip bs8Ops) Q (fun i => ((bs8nEs F p l m)[i]?).getD .any) (fun i => (bs8nDs[i]?).getD (1000 + i)) (look (bs8nEnv F p l m)) 49 1 := fun _ => step_move (by kernel_rfl) (Opd.of_base 9 rfl) rfl
theorem bs8n_2 {Q : Exit → Act → World → Prop} (F : Fo) (p : Pay) (l : Fo) (m : Nat) (h1 : ¬ m < Tm.len F) : RStep (strip bs8Ops) Q (fun i => ((bs8nEs F p l m)[i]?).getD .any) (fun i => (bs8nDs[i]?).getD (1000 + i)) (look (bs8nEnv F p l m)) 49 2 := fun _ => step_move (by kernel_rfl) (Opd.of_base 8 rfl) rfl
theorem bs8n_3 {Q : Exit → Act → World → Prop} (F : Fo) (p : Pay) (l : Fo) (m : Nat) (h1 : ¬ m < Tm.len F) : RStep (strip bs8Ops) Q (fun i => ((bs8nEs F p l m)[i]?).getD .any) (fun i => (bs8nDs[i]?).getD (1000 + i)) (look (bs8nEnv F p l m)) 49 3 := fun _ => step_lt_int (m := ((m : Nat) : Int)) (n := ((Tm.len F : Nat) : Int)) (by kernel_rfl) (Opd.dep 1 rfl rfl (by kernel_rfl)) (Opd.dep 2 rfl rfl (by kernel_rfl)) (decide_eq_false (by omega)) rfl
theorem bs8n_4 {Q : Exit → Act → World → Prop} (F : Fo) (p : Pay) (l : Fo) (m : Nat) (h1 : ¬ m < Tm.len F) : RStep (strip bs8Ops) Q (fun i => ((bs8nEs F p l m)[i]?).getD .any) (fun i => (bs8nDs[i]?).getD (1000 + i)) (look (bs8nEnv F p l m)) 49 4 := fun _ => step_move (by kernel_rfl) (Opd.dep 3 rfl rfl (by kernel_rfl)) rfl
theorem bs8n_5 {Q : Exit → Act → World → Prop} (F : Fo) (p : Pay) (l : Fo) (m : Nat) (h1 : ¬ m < Tm.len F) : RStep (strip bs8Ops) Q (fun i => ((bs8nEs F p l m)[i]?).getD .any) (fun i => (bs8nDs[i]?).getD (1000 + i)) (look (bs8nEnv F p l m)) 49 5 := rstep_skip (by kernel_rfl)
theorem bs8n_6 {Q : Exit → Act → World → Prop} (F : Fo) (p : Pay) (l : Fo) (m : Nat) (h1 : ¬ m < Tm.len F) : RStep (strip bs8Ops) Q (fun i => ((bs8nEs F p l m)[i]?).getD .any) (fun i => (bs8nDs[i]?).getD (1000 + i)) (look (bs8nEnv F p l m)) 49 6 := rstep_skip (by kernel_rfl)
theorem bs8n_7 {Q : Exit → Act → World → Prop} (F : Fo) (p : Pay) (l : Fo) (m : Nat) (h1 : ¬ m < Tm.len F) : RStep (strip bs8Ops) Q (fun i => ((bs8nEs F p l m)[i]?).getD .any) (fun i => (bs8nDs[i]?).getD (1000 + i)) (look (bs8nEnv F p l m)) 49 7 := rstep_skip (by kernel_rfl)
theorem bs8n_8 {Q : Exit → Act → World → Prop} (F : Fo) (p : Pay) (l : Fo) (m : Nat) (h1 : ¬ m < Tm.len F) : RStep (strip bs8Ops) Q (fun i => ((bs8nEs F p l m)[i]?).getD .any) (fun i => (bs8nDs[i]?).getD (1000 + i)) (look (bs8nEnv F p l m)) 49 8 := rstep_skip (by kernel_rfl)
theorem bs8n_9 {Q : Exit → Act → World → Prop} (F : Fo) (p : Pay) (l : Fo) (m : Nat) (h1 : ¬ m < Tm.len F) : RStep (strip bs8Ops) Q (fun i => ((bs8nEs F p l m)[i]?).getD .any) (fun i => (bs8nDs[i]?).getD (1000 + i)) (look (bs8nEnv F p l m)) 49 9 := rstep_skip (by kernel_rfl)
theorem bs8n_10 {Q : Exit → Act → World → Prop} (F : Fo) (p : Pay) (l : Fo) (m : Nat) (h1 : ¬ m < Tm.len F) : RStep (strip bs8Ops) Q (fun i => ((bs8nEs F p l m)[i]?).getD .any) (fun i => (bs8nDs[i]?).getD (1000 + i)) (look (bs8nEnv F p l m)) 49 10 := rstep_skip (by kernel_rfl)
theorem bs8n_11 {Q : Exit → Act → World → Prop} (F : Fo) (p : Pay) (l : Fo) (m : Nat) (h1 : ¬ m < Tm.len F) : RStep (strip bs8Ops) Q (fun i => ((bs8nEs F p l m)[i]?).getD .any) (fun i => (bs8nDs[i]?).getD (1000 + i)) (look (bs8nEnv F p l m)) 49 11 := rstep_skip (by kernel_rfl)
theorem bs8n_12 {Q : Exit → Act → World → Prop} (F : Fo) (p : Pay) (l : Fo) (m : Nat) (h1 : ¬ m < Tm.len F) : RStep (strip bs8Ops) Q (fun i => ((bs8nEs F p l m)[i]?).getD .any) (fun i => (bs8nDs[i]?).getD (1000 + i)) (look (bs8nEnv F p l m)) 49 12 := rstep_skip (by kernel_rfl)
theorem bs8n_13 {Q : Exit → Act → World → Prop} (F : Fo) (p : Pay) (l : Fo) (m : Nat) (h1 : ¬ m < Tm.len F) : RStep (strip bs8Ops) Q (fun i => ((bs8nEs F p l m)[i]?).getD .any) (fun i => (bs8nDs[i]?).getD (1000 + i)) (look (bs8nEnv F p l m)) 49 13 := fun _ => step_pick_no (x := .tmp 47) (by kernel_rfl) (Opd.dep 4 rfl rfl (by kernel_rfl)) (Opd.const _) rfl
theorem bs8n_14 {Q : Exit → Act → World → Prop} (F : Fo) (p : Pay) (l : Fo) (m : Nat) (h1 : ¬ m < Tm.len F) : RStep (strip bs8Ops) Q (fun i => ((bs8nEs F p l m)[i]?).getD .any) (fun i => (bs8nDs[i]?).getD (1000 + i)) (look (bs8nEnv F p l m)) 49 14 := fun _ => step_assign (by kernel_rfl) (Opd.dep 0 rfl rfl (by kernel_rfl)) rfl
theorem bs8n_15 {Q : Exit → Act → World → Prop} (F : Fo) (p : Pay) (l : Fo) (m : Nat) (h1 : ¬ m < Tm.len F) : RStep (strip bs8Ops) Q (fun i => ((bs8nEs F p l m)[i]?).getD .any) (fun i => (bs8nDs[i]?).getD (1000 + i)) (look (bs8nEnv F p l m)) 49 15 := fun _ => step_assign (by kernel_rfl) (Opd.dep 13 rfl rfl (by kernel_rfl)) rfl
theorem bs8n_region {Q : Exit → Act → World → Prop} (F : Fo) (p : Pay) (l : Fo) (m : Nat) (h1 : ¬ m < Tm.len F) {w0 : World} {a : Act} {w : World} (h : Hold 49 [(0, .row F), (2, .val (.func (.func 37) #[] #[])), (4, .ptrT p l), (8, .val (.int .i64 ((Tm.len F : Nat) : Int))), (9, .val (.int .i64 ((m : Nat) : Int))), (999, .tabs)] w0 a w)
    (hQ : ∀ a' w', Hold 49 [(6, .val (.int .i64 ((m : Nat) : Int))), (7, .val (.bool false))] w0 a' w' → Q .normal a' w') : (Code.region 8 bs8Ops true).wp Tryd.prog Q a w := by
  have hall : ∀ i, i < 0 → RStep (strip bs8Ops) Q (fun i => ((bs8nEs F p l m)[i]?).getD .any) (fun i => (bs8nDs[i]?).getD (1000 + i)) (look (bs8nEnv F p l m)) 49 i := fun i hi => absurd hi (by omega)
  have hall := below_succ hall (bs8n_0 F p l m h1)
  have hall := below_succ hall (bs8n_1 F p l m h1)
  have hall := below_succ hall (bs8n_2 F p l m h1)
  have hall := below_succ hall (bs8n_3 F p l m h1)
  have hall := below_succ hall (bs8n_4 F p l m h1)
  have hall := below_succ hall (bs8n_5 F p l m h1)
  have hall := below_succ hall (bs8n_6 F p l m h1)
  have hall := below_succ hall (bs8n_7 F p l m h1)
  have hall := below_succ hall (bs8n_8 F p l m h1)
  have hall := below_succ hall (bs8n_9 F p l m h1)
  have hall := below_succ hall (bs8n_10 F p l m h1)
  have hall := below_succ hall (bs8n_11 F p l m h1)
  have hall := below_succ hall (bs8n_12 F p l m h1)
  have hall := below_succ hall (bs8n_13 F p l m h1)
  have hall := below_succ hall (bs8n_14 F p l m h1)
  have hall := below_succ hall (bs8n_15 F p l m h1)
  refine env_any4 (env := bs8nEnv F p l m) (N := 49) (w0 := w0) bs8nDs (bs8nEs F p l m) (by kernel_rfl) (by kernel_rfl) (of_decide_eq_true (by kernel_rfl)) (fun i_ hi_ => hall i_ (by rw [show (bs8nEs F p l m).length = 16 by kernel_rfl] at hi_; exact hi_)) h fun a' w' h => ?_
  exact hQ a' w' (h.keep [6, 7])
def bs8yEs (F : Fo) (p : Pay) (l : Fo) (m : Nat) (p1 : Pay) (l1 r1 : Fo) : List Kd := [
  .val (.int .i64 ((m : Nat) : Int)),
  .val (.int .i64 ((m : Nat) : Int)),
  .val (.int .i64 ((Tm.len F : Nat) : Int)),
  .val (.bool true),
  .val (.bool true),
  .val (.func (.func 37) #[] #[]),
  .row F,
  .val (.int .i64 ((m : Nat) : Int)),
  .ptrT p1 l1,
  .term p1 l1,
  .term p l,
  .val (.int .i64 (Tm.cmpT p1 l1 p l)),
  .val (.bool ((Tm.cmpT p1 l1 p l) == 0)),
  .val (.bool ((Tm.cmpT p1 l1 p l) == 0)),
  .val (.int .i64 ((m : Nat) : Int)),
  .val (.bool ((Tm.cmpT p1 l1 p l) == 0))]
def bs8yDs : List Nat := [35, 36, 37, 38, 39, 40, 41, 42, 43, 44, 45, 46, 47, 48, 6, 7]
def bs8yEnv (F : Fo) (p : Pay) (l : Fo) (m : Nat) (p1 : Pay) (l1 r1 : Fo) : Env := [(0, .row F), (2, .val (.func (.func 37) #[] #[])), (4, .ptrT p l), (8, .val (.int .i64 ((Tm.len F : Nat) : Int))), (9, .val (.int .i64 ((m : Nat) : Int))), (999, .tabs)]
theorem bs8y_0 {Q : Exit → Act → World → Prop} (F : Fo) (p : Pay) (l : Fo) (m : Nat) (p1 : Pay) (l1 r1 : Fo) (d1 : Tm.dropF F m = .node p1 l1 r1) (g1 : Tm.goodB p1 l1 = true) (g2 : Tm.goodB p l = true) (h1 : m < Tm.len F) : RStep (strip bs8Ops) Q (fun i => ((bs8yEs F p l m p1 l1 r1)[i]?).getD .any) (fun i => (bs8yDs[i]?).getD (1000 + i)) (look (bs8yEnv F p l m p1 l1 r1)) 49 0 := fun _ => step_move (by kernel_rfl) (Opd.of_base 9 rfl) rfl
theorem bs8y_1 {Q : Exit → Act → World → Prop} (F : Fo) (p : Pay) (l : Fo) (m : Nat) (p1 : Pay) (l1 r1 : Fo) (d1 : Tm.dropF F m = .node p1 l1 r1) (g1 : Tm.goodB p1 l1 = true) (g2 : Tm.goodB p l = true) (h1 : m < Tm.len F) : RStep (strip bs8Ops) Q (fun i => ((bs8yEs F p l m p1 l1 r1)[i]?).getD .any) (fun i => (bs8yDs[i]?).getD (1000 + i)) (look (bs8yEnv F p l m p1 l1 r1)) 49 1 := fun _ => step_move (by kernel_rfl) (Opd.of_base 9 rfl) rfl
theorem bs8y_2 {Q : Exit → Act → World → Prop} (F : Fo) (p : Pay) (l : Fo) (m : Nat) (p1 : Pay) (l1 r1 : Fo) (d1 : Tm.dropF F m = .node p1 l1 r1) (g1 : Tm.goodB p1 l1 = true) (g2 : Tm.goodB p l = true) (h1 : m < Tm.len F) : RStep (strip bs8Ops) Q (fun i => ((bs8yEs F p l m p1 l1 r1)[i]?).getD .any) (fun i => (bs8yDs[i]?).getD (1000 + i)) (look (bs8yEnv F p l m p1 l1 r1)) 49 2 := fun _ => step_move (by kernel_rfl) (Opd.of_base 8 rfl) rfl
theorem bs8y_3 {Q : Exit → Act → World → Prop} (F : Fo) (p : Pay) (l : Fo) (m : Nat) (p1 : Pay) (l1 r1 : Fo) (d1 : Tm.dropF F m = .node p1 l1 r1) (g1 : Tm.goodB p1 l1 = true) (g2 : Tm.goodB p l = true) (h1 : m < Tm.len F) : RStep (strip bs8Ops) Q (fun i => ((bs8yEs F p l m p1 l1 r1)[i]?).getD .any) (fun i => (bs8yDs[i]?).getD (1000 + i)) (look (bs8yEnv F p l m p1 l1 r1)) 49 3 := fun _ => step_lt_int (m := ((m : Nat) : Int)) (n := ((Tm.len F : Nat) : Int)) (by kernel_rfl) (Opd.dep 1 rfl rfl (by kernel_rfl)) (Opd.dep 2 rfl rfl (by kernel_rfl)) (decide_eq_true (by omega)) rfl
theorem bs8y_4 {Q : Exit → Act → World → Prop} (F : Fo) (p : Pay) (l : Fo) (m : Nat) (p1 : Pay) (l1 r1 : Fo) (d1 : Tm.dropF F m = .node p1 l1 r1) (g1 : Tm.goodB p1 l1 = true) (g2 : Tm.goodB p l = true) (h1 : m < Tm.len F) : RStep (strip bs8Ops) Q (fun i => ((bs8yEs F p l m p1 l1 r1)[i]?).getD .any) (fun i => (bs8yDs[i]?).getD (1000 + i)) (look (bs8yEnv F p l m p1 l1 r1)) 49 4 := fun _ => step_move (by kernel_rfl) (Opd.dep 3 rfl rfl (by kernel_rfl)) rfl
theorem bs8y_5 {Q : Exit → Act → World → Prop} (F : Fo) (p : Pay) (l : Fo) (m : Nat) (p1 : Pay) (l1 r1 : Fo) (d1 : Tm.dropF F m = .node p1 l1 r1) (g1 : Tm.goodB p1 l1 = true) (g2 : Tm.goodB p l = true) (h1 : m < Tm.len F) : RStep (strip bs8Ops) Q (fun i => ((bs8yEs F p l m p1 l1 r1)[i]?).getD .any) (fun i => (bs8yDs[i]?).getD (1000 + i)) (look (bs8yEnv F p l m p1 l1 r1)) 49 5 := fun _ => step_move (by kernel_rfl) (Opd.of_base 2 rfl) rfl
theorem bs8y_6 {Q : Exit → Act → World → Prop} (F : Fo) (p : Pay) (l : Fo) (m : Nat) (p1 : Pay) (l1 r1 : Fo) (d1 : Tm.dropF F m = .node p1 l1 r1) (g1 : Tm.goodB p1 l1 = true) (g2 : Tm.goodB p l = true) (h1 : m < Tm.len F) : RStep (strip bs8Ops) Q (fun i => ((bs8yEs F p l m p1 l1 r1)[i]?).getD .any) (fun i => (bs8yDs[i]?).getD (1000 + i)) (look (bs8yEnv F p l m p1 l1 r1)) 49 6 := fun _ => step_move (by kernel_rfl) (Opd.of_base 0 rfl) rfl
theorem bs8y_7 {Q : Exit → Act → World → Prop} (F : Fo) (p : Pay) (l : Fo) (m : Nat) (p1 : Pay) (l1 r1 : Fo) (d1 : Tm.dropF F m = .node p1 l1 r1) (g1 : Tm.goodB p1 l1 = true) (g2 : Tm.goodB p l = true) (h1 : m < Tm.len F) : RStep (strip bs8Ops) Q (fun i => ((bs8yEs F p l m p1 l1 r1)[i]?).getD .any) (fun i => (bs8yDs[i]?).getD (1000 + i)) (look (bs8yEnv F p l m p1 l1 r1)) 49 7 := fun _ => step_move (by kernel_rfl) (Opd.of_base 9 rfl) rfl
theorem bs8y_8 {Q : Exit → Act → World → Prop} (F : Fo) (p : Pay) (l : Fo) (m : Nat) (p1 : Pay) (l1 r1 : Fo) (d1 : Tm.dropF F m = .node p1 l1 r1) (g1 : Tm.goodB p1 l1 = true) (g2 : Tm.goodB p l = true) (h1 : m < Tm.len F) : RStep (strip bs8Ops) Q (fun i => ((bs8yEs F p l m p1 l1 r1)[i]?).getD .any) (fun i => (bs8yDs[i]?).getD (1000 + i)) (look (bs8yEnv F p l m p1 l1 r1)) 49 8 := fun _ => step_row_at (k := m) (r := r1) (by kernel_rfl) (Opd.dep 6 rfl rfl (by kernel_rfl)) (Opd.dep 7 rfl rfl (by kernel_rfl)) d1 rfl
theorem bs8y_9 {Q : Exit → Act → World → Prop} (F : Fo) (p : Pay) (l : Fo) (m : Nat) (p1 : Pay) (l1 r1 : Fo) (d1 : Tm.dropF F m = .node p1 l1 r1) (g1 : Tm.goodB p1 l1 = true) (g2 : Tm.goodB p l = true) (h1 : m < Tm.len F) : RStep (strip bs8Ops) Q (fun i => ((bs8yEs F p l m p1 l1 r1)[i]?).getD .any) (fun i => (bs8yDs[i]?).getD (1000 + i)) (look (bs8yEnv F p l m p1 l1 r1)) 49 9 := fun _ => step_load_term (by kernel_rfl) (Opd.dep 8 rfl rfl (by kernel_rfl)) rfl
theorem bs8y_10 {Q : Exit → Act → World → Prop} (F : Fo) (p : Pay) (l : Fo) (m : Nat) (p1 : Pay) (l1 r1 : Fo) (d1 : Tm.dropF F m = .node p1 l1 r1) (g1 : Tm.goodB p1 l1 = true) (g2 : Tm.goodB p l = true) (h1 : m < Tm.len F) : RStep (strip bs8Ops) Q (fun i => ((bs8yEs F p l m p1 l1 r1)[i]?).getD .any) (fun i => (bs8yDs[i]?).getD (1000 + i)) (look (bs8yEnv F p l m p1 l1 r1)) 49 10 := fun _ => step_load_term (by kernel_rfl) (Opd.of_base 4 rfl) rfl
theorem bs8y_11 {Q : Exit → Act → World → Prop} (F : Fo) (p : Pay) (l : Fo) (m : Nat) (p1 : Pay) (l1 r1 : Fo) (d1 : Tm.dropF F m = .node p1 l1 r1) (g1 : Tm.goodB p1 l1 = true) (g2 : Tm.goodB p l = true) (h1 : m < Tm.len F) : RStep (strip bs8Ops) Q (fun i => ((bs8yEs F p l m p1 l1 r1)[i]?).getD .any) (fun i => (bs8yDs[i]?).getD (1000 + i)) (look (bs8yEnv F p l m p1 l1 r1)) 49 11 := fun _ => step_fcompare g1 g2 999 (by kernel_rfl) (Opd.dep 5 rfl rfl (by kernel_rfl)) (Opd.dep 9 rfl rfl (by kernel_rfl)) (Opd.dep 10 rfl rfl (by kernel_rfl)) (Opd.of_base 999 rfl) rfl
theorem bs8y_12 {Q : Exit → Act → World → Prop} (F : Fo) (p : Pay) (l : Fo) (m : Nat) (p1 : Pay) (l1 r1 : Fo) (d1 : Tm.dropF F m = .node p1 l1 r1) (g1 : Tm.goodB p1 l1 = true) (g2 : Tm.goodB p l = true) (h1 : m < Tm.len F) : RStep (strip bs8Ops) Q (fun i => ((bs8yEs F p l m p1 l1 r1)[i]?).getD .any) (fun i => (bs8yDs[i]?).getD (1000 + i)) (look (bs8yEnv F p l m p1 l1 r1)) 49 12 := fun _ => step_eqb_int (m := (Tm.cmpT p1 l1 p l)) (n := 0) (by kernel_rfl) (Opd.dep 11 rfl rfl (by kernel_rfl)) (Opd.const _) rfl rfl
theorem bs8y_13 {Q : Exit → Act → World → Prop} (F : Fo) (p : Pay) (l : Fo) (m : Nat) (p1 : Pay) (l1 r1 : Fo) (d1 : Tm.dropF F m = .node p1 l1 r1) (g1 : Tm.goodB p1 l1 = true) (g2 : Tm.goodB p l = true) (h1 : m < Tm.len F) : RStep (strip bs8Ops) Q (fun i => ((bs8yEs F p l m p1 l1 r1)[i]?).getD .any) (fun i => (bs8yDs[i]?).getD (1000 + i)) (look (bs8yEnv F p l m p1 l1 r1)) 49 13 := fun _ => step_pick_yes (y := .const (.bool false)) (by kernel_rfl) (Opd.dep 4 rfl rfl (by kernel_rfl)) (Opd.dep 12 rfl rfl (by kernel_rfl)) rfl
theorem bs8y_14 {Q : Exit → Act → World → Prop} (F : Fo) (p : Pay) (l : Fo) (m : Nat) (p1 : Pay) (l1 r1 : Fo) (d1 : Tm.dropF F m = .node p1 l1 r1) (g1 : Tm.goodB p1 l1 = true) (g2 : Tm.goodB p l = true) (h1 : m < Tm.len F) : RStep (strip bs8Ops) Q (fun i => ((bs8yEs F p l m p1 l1 r1)[i]?).getD .any) (fun i => (bs8yDs[i]?).getD (1000 + i)) (look (bs8yEnv F p l m p1 l1 r1)) 49 14 := fun _ => step_assign (by kernel_rfl) (Opd.dep 0 rfl rfl (by kernel_rfl)) rfl
theorem bs8y_15 {Q : Exit → Act → World → Prop} (F : Fo) (p : Pay) (l : Fo) (m : Nat) (p1 : Pay) (l1 r1 : Fo) (d1 : Tm.dropF F m = .node p1 l1 r1) (g1 : Tm.goodB p1 l1 = true) (g2 : Tm.goodB p l = true) (h1 : m < Tm.len F) : RStep (strip bs8Ops) Q (fun i => ((bs8yEs F p l m p1 l1 r1)[i]?).getD .any) (fun i => (bs8yDs[i]?).getD (1000 + i)) (look (bs8yEnv F p l m p1 l1 r1)) 49 15 := fun _ => step_assign (by kernel_rfl) (Opd.dep 13 rfl rfl (by kernel_rfl)) rfl
theorem bs8y_region {Q : Exit → Act → World → Prop} (F : Fo) (p : Pay) (l : Fo) (m : Nat) (p1 : Pay) (l1 r1 : Fo) (d1 : Tm.dropF F m = .node p1 l1 r1) (g1 : Tm.goodB p1 l1 = true) (g2 : Tm.goodB p l = true) (h1 : m < Tm.len F) {w0 : World} {a : Act} {w : World} (h : Hold 49 [(0, .row F), (2, .val (.func (.func 37) #[] #[])), (4, .ptrT p l), (8, .val (.int .i64 ((Tm.len F : Nat) : Int))), (9, .val (.int .i64 ((m : Nat) : Int))), (999, .tabs)] w0 a w)
    (hQ : ∀ a' w', Hold 49 [(6, .val (.int .i64 ((m : Nat) : Int))), (7, .val (.bool ((Tm.cmpT p1 l1 p l) == 0)))] w0 a' w' → Q .normal a' w') : (Code.region 8 bs8Ops true).wp Tryd.prog Q a w := by
  have hall : ∀ i, i < 0 → RStep (strip bs8Ops) Q (fun i => ((bs8yEs F p l m p1 l1 r1)[i]?).getD .any) (fun i => (bs8yDs[i]?).getD (1000 + i)) (look (bs8yEnv F p l m p1 l1 r1)) 49 i := fun i hi => absurd hi (by omega)
  have hall := below_succ hall (bs8y_0 F p l m p1 l1 r1 d1 g1 g2 h1)
  have hall := below_succ hall (bs8y_1 F p l m p1 l1 r1 d1 g1 g2 h1)
  have hall := below_succ hall (bs8y_2 F p l m p1 l1 r1 d1 g1 g2 h1)
  have hall := below_succ hall (bs8y_3 F p l m p1 l1 r1 d1 g1 g2 h1)
  have hall := below_succ hall (bs8y_4 F p l m p1 l1 r1 d1 g1 g2 h1)
  have hall := below_succ hall (bs8y_5 F p l m p1 l1 r1 d1 g1 g2 h1)
  have hall := below_succ hall (bs8y_6 F p l m p1 l1 r1 d1 g1 g2 h1)
  have hall := below_succ hall (bs8y_7 F p l m p1 l1 r1 d1 g1 g2 h1)
  have hall := below_succ hall (bs8y_8 F p l m p1 l1 r1 d1 g1 g2 h1)
  have hall := below_succ hall (bs8y_9 F p l m p1 l1 r1 d1 g1 g2 h1)
  have hall := below_succ hall (bs8y_10 F p l m p1 l1 r1 d1 g1 g2 h1)
  have hall := below_succ hall (bs8y_11 F p l m p1 l1 r1 d1 g1 g2 h1)
  have hall := below_succ hall (bs8y_12 F p l m p1 l1 r1 d1 g1 g2 h1)
  have hall := below_succ hall (bs8y_13 F p l m p1 l1 r1 d1 g1 g2 h1)
  have hall := below_succ hall (bs8y_14 F p l m p1 l1 r1 d1 g1 g2 h1)
  have hall := below_succ hall (bs8y_15 F p l m p1 l1 r1 d1 g1 g2 h1)
  refine env_any4 (env := bs8yEnv F p l m p1 l1 r1) (N := 49) (w0 := w0) bs8yDs (bs8yEs F p l m p1 l1 r1) (by kernel_rfl) (by kernel_rfl) (of_decide_eq_true (by kernel_rfl)) (fun i_ hi_ => hall i_ (by rw [show (bs8yEs F p l m p1 l1 r1).length = 16 by kernel_rfl] at hi_; exact hi_)) h fun a' w' h => ?_
  exact hQ a' w' (h.keep [6, 7])

theorem bsearch_any (F : Fo) (p : Pay) (l : Fo) (A A' : Option Addr) (c c' : Nat) (w : World) (hn : Tm.len F ≤ 100000) (hok : ∀ y ∈ Tm.toL F, OkT false y) (g2 : Tm.goodB p l = true) (hinc : Tm.incB (Tm.toL F) = true) (hA : ArgsB w w.heap.size A (Tm.len F) F) (hA' : ArgsB w w.heap.size A' (Tm.len l) l) (hT : Tabs w) :
    Calls Tryd.prog 52 #[.slice A (Tm.len F) c, tv p A' (Tm.len l) c', .func (.func 37) #[] #[]] w fun e w' => e = .returned (.tuple #[.int .i64 ((Tm.rankOf (Tm.toL F) (p, l) : Nat) : Int), .bool (Tm.rankHas (Tm.toL F) (p, l))]) ∧ Below w.heap.size w w' := by
  refine calls_of_wp Tryd.func52 bs_body ?_
  obtain ⟨v0, hv0⟩ : ∃ v : Value, v = .slice A (Tm.len F) c := ⟨_, rfl⟩
  obtain ⟨v1, hv1⟩ : ∃ v : Value, v = tv p A' (Tm.len l) c' := ⟨_, rfl⟩
  obtain ⟨v2, hv2⟩ : ∃ v : Value, v = .func (.func 37) #[] #[] := ⟨_, rfl⟩
  rw [← hv0, ← hv1, ← hv2]
  have hk0 : (Kd.row F).R v0 w := ⟨A, c, hv0, hA⟩
  have hk1 : (Kd.term p l).R v1 w := ⟨A', c', hv1, hA'⟩
  have hk2 : (Kd.val (.func (.func 37) #[] #[])).R v2 w := hv2
  have hsN : (#[v0, v1, v2] ++ Array.replicate (Tryd.f52.ntmps - #[v0, v1, v2].size) undef : Array Value).size = 49 := by kernel_rfl
  have gs0 : (#[v0, v1, v2] ++ Array.replicate (Tryd.f52.ntmps - #[v0, v1, v2].size) undef : Array Value).getD 0 undef = v0 := by kernel_rfl
  have gs1 : (#[v0, v1, v2] ++ Array.replicate (Tryd.f52.ntmps - #[v0, v1, v2].size) undef : Array Value).getD 1 undef = v1 := by kernel_rfl
  have gs2 : (#[v0, v1, v2] ++ Array.replicate (Tryd.f52.ntmps - #[v0, v1, v2].size) undef : Array Value).getD 2 undef = v2 := by kernel_rfl
  generalize (#[v0, v1, v2] ++ Array.replicate (Tryd.f52.ntmps - #[v0, v1, v2].size) undef : Array Value) = tm at hsN gs0 gs1 gs2 ⊢
  refine wp_seq ?_
  refine bs0_region F p l (w0 := w) ⟨hsN, rfl, Below.refl _ _, (slots_cons 0 (by rw [gs0]; exact hk0) (slots_cons 1 (by rw [gs1]; exact hk1) (slots_cons 2 (by rw [gs2]; exact hk2) (slots_cons 999 (k0 := .tabs) hT slots_nil))))⟩ ?_
  intro a w1 h
  show Code.wp _ _ _ a w1
  refine wp_seq ?_
  refine bs1_region F p l h ?_
  intro a w1 h
  show Code.wp _ _ _ a w1
  refine wp_seq ?_
  refine bs2_region F p l h ?_
  intro a w1 h
  show Code.wp _ _ _ a w1
  have hlen : (Tm.toL F).length = Tm.len F := Tm.len_toL F
  have hel : ∀ k p1 l1 r1, Tm.dropF F k = .node p1 l1 r1 → (Tm.toL F)[k]! = (p1, l1) ∧ Tm.goodB p1 l1 = true := by
    intro k p1 l1 r1 hd
    have h1 := Tm.toL_at hd
    have hk : k < (Tm.toL F).length := by
      rcases Nat.lt_or_ge k (Tm.toL F).length with h' | h'
      · exact h'
      · rw [List.getElem?_eq_none h'] at h1; cases h1
    have h2 := hok _ (List.mem_of_getElem? h1)
    rw [List.getElem?_eq_getElem hk] at h1
    rw [getElem!_pos _ k hk]
    exact ⟨Option.some.inj h1, h2.1⟩
  refine wp_seq ?_
  refine wp_block ?_
  refine wp_while (fun g a w1 => ∃ lo hi : Nat, g = hi - lo ∧ lo ≤ hi ∧ hi ≤ Tm.len F ∧ (∀ j, j < lo → Tm.cmpP (Tm.toL F)[j]! (p, l) < 0) ∧ (∀ j, hi ≤ j → j < Tm.len F → 0 ≤ Tm.cmpP (Tm.toL F)[j]! (p, l)) ∧ Hold 49 [(0, .row F), (2, .val (.func (.func 37) #[] #[])), (4, .ptrT p l), (8, .val (.int .i64 ((Tm.len F : Nat) : Int))), (9, .val (.int .i64 ((lo : Nat) : Int))), (10, .val (.int .i64 ((hi : Nat) : Int))), (999, .tabs)] w a w1) (Tm.len F) ⟨0, Tm.len F, rfl, Nat.zero_le _, Nat.le_refl _, fun j hj => by omega, fun j h1 h2 => by omega, h⟩ ?_
  rintro g a w1 ⟨lo, hi, rfl, hlh, hhn, k1, k2, h⟩
  refine wp_seq ?_
  refine wp_seq ?_
  refine bs3_region F p l lo hi h ?_
  intro a w1 h
  show Code.wp _ _ _ a w1
  by_cases hlt : lo < hi
  · have hb : decide (((lo : Nat) : Int) < ((hi : Nat) : Int)) = true := decide_eq_true (by omega)
    rw [hb] at h
    refine env_cond (b := true) rfl h ?_
    refine wp_skip ?_
    have h := h.keep [0, 2, 4, 8, 9, 10, 999]
    show Code.wp _ _ _ a w1
    refine wp_block ?_
    refine wp_seq ?_
    refine bs4_region F p l lo hi (by omega) (by omega) h ?_
    intro a w1 h
    obtain ⟨m, hm⟩ : ∃ m, m = (lo + hi) / 2 := ⟨_, rfl⟩
    rw [← hm] at h
    have hm1 : lo ≤ m := by omega
    have hm2 : m < hi := by omega
    obtain ⟨p1, l1, r1, d1⟩ := Tm.drop_at (F := F) (k := m) (by omega)
    obtain ⟨e1, g1⟩ := hel m p1 l1 r1 d1
    show Code.wp _ _ _ a w1
    refine wp_seq ?_
    refine bs5_region F p l lo hi m p1 l1 r1 d1 g1 g2 h ?_
    intro a w1 h
    have hsort : ∀ j j', j ≤ j' → j' < Tm.len F → Tm.cmpP (Tm.toL F)[j]! (Tm.toL F)[j']! ≤ 0 := by
      intro j j' h1 h2
      by_cases he : j = j'
      · subst he; rw [Tm.cmpP_zero.2 rfl]; exact Int.le_refl _
      · have := Tm.inc_lt hinc (j' - j - 1) j (by omega)
        rw [show j + (j' - j - 1) + 1 = j' by omega] at this
        omega
    show Code.wp _ _ _ a w1
    by_cases hlv : Tm.cmpT p1 l1 p l < 0
    · rw [decide_eq_true hlv] at h
      refine env_cond (b := true) rfl h ?_
      have h := h.keep [0, 2, 4, 8, 9, 10, 999, 11]
      show Code.wp _ _ _ a w1
      refine bs6_region F p l lo hi m (by omega) h ?_
      intro a w1 h
      refine ⟨hi - (m + 1), by omega, m + 1, hi, rfl, by omega, hhn, fun j hj => ?_, k2, h⟩
      have f := Tm.cmpP_fit (Tm.toL F)[j]! (Tm.toL F)[m]! (p, l)
      have f1 := hsort j m (by omega) (by omega)
      have f2 : Tm.cmpP (Tm.toL F)[m]! (p, l) < 0 := by rw [e1]; exact hlv
      obtain ⟨x1, x2, x3, x4⟩ := f
      by_cases h0 : Tm.cmpP (Tm.toL F)[j]! (Tm.toL F)[m]! = 0
      · rw [x2 h0]; exact f2
      · exact x1 (by omega) f2
    · rw [decide_eq_false hlv] at h
      refine env_cond (b := false) rfl h ?_
      have h := h.keep [0, 2, 4, 8, 9, 10, 999, 11]
      show Code.wp _ _ _ a w1
      refine bs7_region F p l lo hi m h ?_
      intro a w1 h
      refine ⟨m - lo, by omega, lo, m, rfl, by omega, by omega, k1, fun j h1 h2 => ?_, h⟩
      have f := Tm.cmpP_fit (Tm.toL F)[m]! (Tm.toL F)[j]! (p, l)
      have f1 := hsort m j h1 h2
      have f2 : ¬ Tm.cmpP (Tm.toL F)[m]! (p, l) < 0 := by rw [e1]; exact hlv
      obtain ⟨x1, x2, x3, x4⟩ := f
      by_cases h0 : Tm.cmpP (Tm.toL F)[m]! (Tm.toL F)[j]! = 0
      · have := x2 h0; omega
      · rcases Int.lt_or_le (Tm.cmpP (Tm.toL F)[j]! (p, l)) 0 with h3 | h3
        · exact absurd (x1 (by omega) h3) f2
        · exact h3
  · obtain rfl : lo = hi := by omega
    have hb : decide (((lo : Nat) : Int) < ((lo : Nat) : Int)) = false := decide_eq_false (by omega)
    rw [hb] at h
    refine env_cond (b := false) rfl h ?_
    refine wp_exit ?_
    have hrk : Tm.rankOf (Tm.toL F) (p, l) = lo := Tm.rankOf_eq (by rw [hlen]; exact hhn) k1 (fun h => k2 lo (Nat.le_refl _) (by rw [← hlen]; exact h))
    have h := h.keep [0, 2, 4, 8, 9, 999]
    show Code.wp _ _ _ a w1
    refine wp_seq ?_
    by_cases hln : lo < Tm.len F
    · obtain ⟨p1, l1, r1, d1⟩ := Tm.drop_at (F := F) (k := lo) hln
      obtain ⟨e1, g1⟩ := hel lo p1 l1 r1 d1
      refine bs8y_region F p l lo p1 l1 r1 d1 g1 g2 hln h ?_
      intro a w1 h
      refine wp_ret ?_
      refine law_out2 rfl (h.get 6 rfl) (h.get 7 rfl) h.defers ⟨?_, h.world⟩
      unfold Tm.rankHas
      rw [hrk, hlen, decide_eq_true hln, Bool.true_and, e1]
      rfl
    · refine bs8n_region F p l lo hln h ?_
      intro a w1 h
      refine wp_ret ?_
      refine law_out2 rfl (h.get 6 rfl) (h.get 7 rfl) h.defers ⟨?_, h.world⟩
      unfold Tm.rankHas
      rw [hrk, hlen, decide_eq_false hln, Bool.false_and]
end Go.Proofs.YtcjakmafojbhlaaDoor
namespace Go.Proofs.YtcjakmafojbhlaaDoor
set_option linter.unusedVariables false
set_option linter.unusedSimpArgs false
open Go.RowKit

/-- What Rank returns. -/
def rankV (F : Fo) (p : Pay) (l : Fo) : Value :=
  if (Tm.validB p l && (Tm.allV F && Tm.incB (Tm.toL F))) = true then .tuple #[.int .i64 ((Tm.rankOf (Tm.toL F) (p, l) : Nat) : Int), .bool (Tm.rankHas (Tm.toL F) (p, l))] else .tuple #[.int .i64 0, .bool false]
theorem rankV_no {F : Fo} {p : Pay} {l : Fo} (h : (Tm.validB p l && (Tm.allV F && Tm.incB (Tm.toL F))) = false) : rankV F p l = .tuple #[.int .i64 0, .bool false] := by unfold rankV; rw [h]; rfl
theorem rankV_yes {F : Fo} {p : Pay} {l : Fo} (h : (Tm.validB p l && (Tm.allV F && Tm.incB (Tm.toL F))) = true) : rankV F p l = .tuple #[.int .i64 ((Tm.rankOf (Tm.toL F) (p, l) : Nat) : Int), .bool (Tm.rankHas (Tm.toL F) (p, l))] := by unfold rankV; rw [h]; rfl

set_option maxHeartbeats 4000000 in
theorem orank_1 (F : Fo) (p : Pay) (l : Fo) (A A' : Option Addr) (n c c' : Nat) (w : World) (hn : n ≤ 100000) (h1 : Tm.validB p l = false) (hA : ArgsB w w.heap.size A n F) (hA' : ArgsB w w.heap.size A' (Tm.len l) l) (hT : Tabs w) :
    Calls Tryd.prog 26 #[.slice A n c, tv p A' (Tm.len l) c'] w fun e w' => e = .returned (.tuple #[.int .i64 0, .bool false]) ∧ Below w.heap.size w w' := by
  have V1 := Lib.hid fun (w1 : World) (hb : Below w.heap.size w w1) => valid_any p l A' c' w.heap.size w1 (hA'.below hb (Nat.le_refl _)) hb.size
  have V2 := Lib.hid fun (w1 : World) (hb : Below w.heap.size w w1) => areValid_any F A n c w.heap.size w1 (hA.below hb (Nat.le_refl _)) (by omega) hb.size
  rw [h1] at V1
  obtain ⟨m, hm⟩ : ∃ m, m = Tm.len l := ⟨_, rfl⟩
  rw [← hm] at V1 ⊢
  have HB0 := Lib.hid (fun o : Obj => (Below.refl _ w).alloc (Nat.le_refl _) o)
  have HT0 := Lib.hid (TermAt.new w p A' m c' 24)
  clear hA hA' hT h1 hm
  go_enter Tryd.func26, Tryd.ntmps26
  go_wp2_with fail
  refine (V1.out _ (HB0.out _)).mono ?_
  rintro e w1 ⟨rfl, hb⟩
  have HBw1 := Lib.hid ((HB0.out _).trans (hb.mono (HB0.out _).size))
  have HTw1 := Lib.hid (HT0.out.below hb (by simp))
  have hltw1 : w.heap.size < w1.heap.size := by have := hb.size; simp at this; omega
  have x0 := HTw1.out.kind
  have x1 := HTw1.out.num
  have x2 := HTw1.out.name
  have x3 := HTw1.out.args
  clear hb
  go_wp2_with fail
  clear x0 x1 x2 x3
  go_ret2
  exact ⟨rfl, HBw1.out⟩

set_option maxHeartbeats 4000000 in
theorem orank_2 (F : Fo) (p : Pay) (l : Fo) (A A' : Option Addr) (n c c' : Nat) (w : World) (hn : n ≤ 100000) (h1 : Tm.validB p l = true) (h2 : Tm.allV F = false) (hA : ArgsB w w.heap.size A n F) (hA' : ArgsB w w.heap.size A' (Tm.len l) l) (hT : Tabs w) :
    Calls Tryd.prog 26 #[.slice A n c, tv p A' (Tm.len l) c'] w fun e w' => e = .returned (.tuple #[.int .i64 0, .bool false]) ∧ Below w.heap.size w w' := by
  have V1 := Lib.hid fun (w1 : World) (hb : Below w.heap.size w w1) => valid_any p l A' c' w.heap.size w1 (hA'.below hb (Nat.le_refl _)) hb.size
  have V2 := Lib.hid fun (w1 : World) (hb : Below w.heap.size w w1) => areValid_any F A n c w.heap.size w1 (hA.below hb (Nat.le_refl _)) (by omega) hb.size
  rw [h1] at V1
  rw [h2] at V2
  obtain ⟨m, hm⟩ : ∃ m, m = Tm.len l := ⟨_, rfl⟩
  rw [← hm] at V1 ⊢
  have HB0 := Lib.hid (fun o : Obj => (Below.refl _ w).alloc (Nat.le_refl _) o)
  have HT0 := Lib.hid (TermAt.new w p A' m c' 24)
  clear hA hA' hT h1 h2 hm
  go_enter Tryd.func26, Tryd.ntmps26
  go_wp2_with fail
  refine (V1.out _ (HB0.out _)).mono ?_
  rintro e w1 ⟨rfl, hb⟩
  have HBw1 := Lib.hid ((HB0.out _).trans (hb.mono (HB0.out _).size))
  have HTw1 := Lib.hid (HT0.out.below hb (by simp))
  have hltw1 : w.heap.size < w1.heap.size := by have := hb.size; simp at this; omega
  have x0 := HTw1.out.kind
  have x1 := HTw1.out.num
  have x2 := HTw1.out.name
  have x3 := HTw1.out.args
  clear hb
  go_wp2_with fail
  clear x0 x1 x2 x3
  refine (V2.out _ HBw1.out).mono ?_
  rintro e w2 ⟨rfl, hb⟩
  have HBw2 := Lib.hid (HBw1.out.trans (hb.mono HBw1.out.size))
  have HTw2 := Lib.hid (HTw1.out.below hb (by have := hltw1; omega))
  have hltw2 : w.heap.size < w2.heap.size := by have := hb.size; have := hltw1; omega
  have x0 := HTw2.out.kind
  have x1 := HTw2.out.num
  have x2 := HTw2.out.name
  have x3 := HTw2.out.args
  clear hb
  go_wp2_with fail
  clear x0 x1 x2 x3
  go_ret2
  exact ⟨rfl, HBw2.out⟩

set_option maxHeartbeats 4000000 in
theorem orank_3 (F : Fo) (p : Pay) (l : Fo) (A A' : Option Addr) (n c c' : Nat) (w : World) (hn : n ≤ 100000) (h1 : Tm.validB p l = true) (h2 : Tm.allV F = true) (h3 : Tm.incB (Tm.toL F) = false) (hA : ArgsB w w.heap.size A n F) (hA' : ArgsB w w.heap.size A' (Tm.len l) l) (hT : Tabs w) :
    Calls Tryd.prog 26 #[.slice A n c, tv p A' (Tm.len l) c'] w fun e w' => e = .returned (.tuple #[.int .i64 0, .bool false]) ∧ Below w.heap.size w w' := by
  have V1 := Lib.hid fun (w1 : World) (hb : Below w.heap.size w w1) => valid_any p l A' c' w.heap.size w1 (hA'.below hb (Nat.le_refl _)) hb.size
  have V2 := Lib.hid fun (w1 : World) (hb : Below w.heap.size w w1) => areValid_any F A n c w.heap.size w1 (hA.below hb (Nat.le_refl _)) (by omega) hb.size
  have hok : ∀ y ∈ Tm.toL F, OkT false y := okT_of h2
  have V3 := Lib.hid fun (w1 : World) (hb : Below w.heap.size w w1) => areInc_any F A n c w.heap.size w1 (hA.below hb (Nat.le_refl _)) (by omega) hok hb.size (hT.only (Only.of_below (X := fun _ => False) hb) id)
  rw [h1] at V1
  rw [h2] at V2
  rw [h3] at V3
  obtain ⟨m, hm⟩ : ∃ m, m = Tm.len l := ⟨_, rfl⟩
  rw [← hm] at V1 ⊢
  have HB0 := Lib.hid (fun o : Obj => (Below.refl _ w).alloc (Nat.le_refl _) o)
  have HT0 := Lib.hid (TermAt.new w p A' m c' 24)
  clear hA hA' hT hok h1 h2 h3 hm
  go_enter Tryd.func26, Tryd.ntmps26
  go_wp2_with fail
  refine (V1.out _ (HB0.out _)).mono ?_
  rintro e w1 ⟨rfl, hb⟩
  have HBw1 := Lib.hid ((HB0.out _).trans (hb.mono (HB0.out _).size))
  have HTw1 := Lib.hid (HT0.out.below hb (by simp))
  have hltw1 : w.heap.size < w1.heap.size := by have := hb.size; simp at this; omega
  have x0 := HTw1.out.kind
  have x1 := HTw1.out.num
  have x2 := HTw1.out.name
  have x3 := HTw1.out.args
  clear hb
  go_wp2_with fail
  clear x0 x1 x2 x3
  refine (V2.out _ HBw1.out).mono ?_
  rintro e w2 ⟨rfl, hb⟩
  have HBw2 := Lib.hid (HBw1.out.trans (hb.mono HBw1.out.size))
  have HTw2 := Lib.hid (HTw1.out.below hb (by have := hltw1; omega))
  have hltw2 : w.heap.size < w2.heap.size := by have := hb.size; have := hltw1; omega
  have x0 := HTw2.out.kind
  have x1 := HTw2.out.num
  have x2 := HTw2.out.name
  have x3 := HTw2.out.args
  clear hb
  go_wp2_with fail
  clear x0 x1 x2 x3
  refine (V3.out _ HBw2.out).mono ?_
  rintro e w3 ⟨rfl, hb⟩
  have HBw3 := Lib.hid (HBw2.out.trans (hb.mono HBw2.out.size))
  have HTw3 := Lib.hid (HTw2.out.below hb (by have := hltw2; omega))
  have hltw3 : w.heap.size < w3.heap.size := by have := hb.size; have := hltw2; omega
  have x0 := HTw3.out.kind
  have x1 := HTw3.out.num
  have x2 := HTw3.out.name
  have x3 := HTw3.out.args
  clear hb
  go_wp2_with fail
  clear x0 x1 x2 x3
  go_ret2
  exact ⟨rfl, HBw3.out⟩

set_option maxHeartbeats 4000000 in
theorem orank_4 (F : Fo) (p : Pay) (l : Fo) (A A' : Option Addr) (n c c' : Nat) (w : World) (hn : n ≤ 100000) (h1 : Tm.validB p l = true) (h2 : Tm.allV F = true) (h3 : Tm.incB (Tm.toL F) = true) (hA : ArgsB w w.heap.size A n F) (hA' : ArgsB w w.heap.size A' (Tm.len l) l) (hT : Tabs w) :
    Calls Tryd.prog 26 #[.slice A n c, tv p A' (Tm.len l) c'] w fun e w' => e = .returned (.tuple #[.int .i64 ((Tm.rankOf (Tm.toL F) (p, l) : Nat) : Int), .bool (Tm.rankHas (Tm.toL F) (p, l))]) ∧ Below w.heap.size w w' := by
  have V1 := Lib.hid fun (w1 : World) (hb : Below w.heap.size w w1) => valid_any p l A' c' w.heap.size w1 (hA'.below hb (Nat.le_refl _)) hb.size
  have V2 := Lib.hid fun (w1 : World) (hb : Below w.heap.size w w1) => areValid_any F A n c w.heap.size w1 (hA.below hb (Nat.le_refl _)) (by omega) hb.size
  have hok : ∀ y ∈ Tm.toL F, OkT false y := okT_of h2
  have V3 := Lib.hid fun (w1 : World) (hb : Below w.heap.size w w1) => areInc_any F A n c w.heap.size w1 (hA.below hb (Nat.le_refl _)) (by omega) hok hb.size (hT.only (Only.of_below (X := fun _ => False) hb) id)
  have V4 := Lib.hid fun (w1 : World) (hb : Below w.heap.size w w1) => bsearch_any F p l A A' c c' w1 (by rw [hA.len]; exact hn) hok (Tm.good_of h1) h3 (by rw [hA.len]; exact (hA.below hb (Nat.le_refl _)).up hb.size) ((hA'.below hb (Nat.le_refl _)).up hb.size) (hT.only (Only.of_below (X := fun _ => False) hb) id)
  rw [hA.len] at V4
  rw [h1] at V1
  rw [h2] at V2
  rw [h3] at V3
  obtain ⟨m, hm⟩ : ∃ m, m = Tm.len l := ⟨_, rfl⟩
  rw [← hm] at V1 V4 ⊢
  have HB0 := Lib.hid (fun o : Obj => (Below.refl _ w).alloc (Nat.le_refl _) o)
  have HT0 := Lib.hid (TermAt.new w p A' m c' 24)
  clear hA hA' hT hok h1 h2 h3 hm
  go_enter Tryd.func26, Tryd.ntmps26
  go_wp2_with fail
  refine (V1.out _ (HB0.out _)).mono ?_
  rintro e w1 ⟨rfl, hb⟩
  have HBw1 := Lib.hid ((HB0.out _).trans (hb.mono (HB0.out _).size))
  have HTw1 := Lib.hid (HT0.out.below hb (by simp))
  have hltw1 : w.heap.size < w1.heap.size := by have := hb.size; simp at this; omega
  have x0 := HTw1.out.kind
  have x1 := HTw1.out.num
  have x2 := HTw1.out.name
  have x3 := HTw1.out.args
  clear hb
  go_wp2_with fail
  clear x0 x1 x2 x3
  refine (V2.out _ HBw1.out).mono ?_
  rintro e w2 ⟨rfl, hb⟩
  have HBw2 := Lib.hid (HBw1.out.trans (hb.mono HBw1.out.size))
  have HTw2 := Lib.hid (HTw1.out.below hb (by have := hltw1; omega))
  have hltw2 : w.heap.size < w2.heap.size := by have := hb.size; have := hltw1; omega
  have x0 := HTw2.out.kind
  have x1 := HTw2.out.num
  have x2 := HTw2.out.name
  have x3 := HTw2.out.args
  clear hb
  go_wp2_with fail
  clear x0 x1 x2 x3
  refine (V3.out _ HBw2.out).mono ?_
  rintro e w3 ⟨rfl, hb⟩
  have HBw3 := Lib.hid (HBw2.out.trans (hb.mono HBw2.out.size))
  have HTw3 := Lib.hid (HTw2.out.below hb (by have := hltw2; omega))
  have hltw3 : w.heap.size < w3.heap.size := by have := hb.size; have := hltw2; omega
  have x0 := HTw3.out.kind
  have x1 := HTw3.out.num
  have x2 := HTw3.out.name
  have x3 := HTw3.out.args
  clear hb
  go_wp2_with fail
  clear x0 x1 x2 x3
  refine (V4.out _ HBw3.out).mono ?_
  rintro e w4 ⟨rfl, hb⟩
  have HBw4 := Lib.hid (HBw3.out.trans (hb.mono HBw3.out.size))
  have HTw4 := Lib.hid (HTw3.out.below hb (by have := hltw3; omega))
  have hltw4 : w.heap.size < w4.heap.size := by have := hb.size; have := hltw3; omega
  have x0 := HTw4.out.kind
  have x1 := HTw4.out.num
  have x2 := HTw4.out.name
  have x3 := HTw4.out.args
  clear hb
  go_wp2_with fail
  clear x0 x1 x2 x3
  go_ret2
  exact ⟨rfl, HBw4.out⟩

theorem orank_any (F : Fo) (p : Pay) (l : Fo) (A A' : Option Addr) (n c c' : Nat) (w : World) (hn : n ≤ 100000) (hA : ArgsB w w.heap.size A n F) (hA' : ArgsB w w.heap.size A' (Tm.len l) l) (hT : Tabs w) :
    Calls Tryd.prog 26 #[.slice A n c, tv p A' (Tm.len l) c'] w fun e w' => e = .returned (rankV F p l) ∧ Below w.heap.size w w' := by
  cases h1 : Tm.validB p l
  · rw [rankV_no (by rw [h1]; rfl)]; exact orank_1 F p l A A' n c c' w hn h1 hA hA' hT
  cases h2 : Tm.allV F
  · rw [rankV_no (by rw [h1, h2]; rfl)]; exact orank_2 F p l A A' n c c' w hn h1 h2 hA hA' hT
  cases h3 : Tm.incB (Tm.toL F)
  · rw [rankV_no (by rw [h1, h2, h3]; rfl)]; exact orank_3 F p l A A' n c c' w hn h1 h2 h3 hA hA' hT
  · rw [rankV_yes (by rw [h1, h2, h3]; rfl)]; exact orank_4 F p l A A' n c c' w hn h1 h2 h3 hA hA' hT
end Go.Proofs.YtcjakmafojbhlaaDoor
