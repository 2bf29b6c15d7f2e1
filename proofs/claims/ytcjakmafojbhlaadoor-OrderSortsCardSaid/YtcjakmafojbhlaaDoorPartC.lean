/-
  A row of terms that is sorted in place: what it holds, and what the exchange of two elements does.
  The library's swapRange at terms.
  PLAIN MATHEMATICS of the library's stable sort: insertion, rotation, and SymMerge.
  The library's insertion sort at terms.
  The library's rotate at terms.
  The library's SymMerge at terms, where the left run has one element.
  The library's SymMerge at terms, where the right run has one element.
  Still more operations of a region: halves of numbers, a call of a function value, elements of rows, results.
-/
import Derived.Test.YtcjakmafojbhlaaDoorPartA
import Derived.Test.YtcjakmafojbhlaaDoorPartB
import Derived.Sort.LotA
import Derived.BigRegion
import Derived.IntWalk
import Derived.LoopN
import Derived.Shelf.RegionOpenPlain
import Derived.Sort.WalkA
import Derived.BigQuiet
import Derived.Deep.LoopGhost
namespace Go.Proofs.YtcjakmafojbhlaaDoor
set_option linter.unusedVariables false
set_option linter.unusedSimpArgs false
open Go.RowKit

instance : Inhabited Fo := ⟨.nil⟩
/-- A term, and its place before the sort. -/
abbrev Tg := Tm.Tn × Nat
/-- Outside block blk all is as in w0; there lie the terms d, one behind the other; their arguments lie elsewhere. -/
structure St (w0 : World) (blk : Nat) (d : Array Tg) (w : World) : Prop where
  only : Only (· = blk) w0 w
  lt : blk < w0.heap.size
  row : ∀ k, k < d.size → ∃ A c, NodeAt (fun b => b < w0.heap.size ∧ b ≠ blk) w blk (k * 4) d[k]!.1.1 d[k]!.1.2 A c
  soft : ∀ o, w.frozen? ⟨blk, o, none⟩ = false
theorem St.below {w0 w w' : World} {blk : Nat} {d : Array Tg} (h : St w0 blk d w) (hb : Below w.heap.size w w') : St w0 blk d w' := by
  have hlt : blk < w.heap.size := Nat.lt_of_lt_of_le h.lt h.only.size
  refine ⟨h.only.trans (Only.of_below hb), h.lt, fun k hk => ?_, fun o => (frozen_of_block (p := ⟨blk, o, none⟩) (hb.block _ hlt)).trans (h.soft o)⟩
  obtain ⟨A, c, hn⟩ := h.row k hk
  have hc : ∀ o, w'.cell? ⟨blk, o, none⟩ = w.cell? ⟨blk, o, none⟩ := fun o => cell_of_block (p := ⟨blk, o, none⟩) (hb.block _ hlt)
  exact ⟨A, c, (hc _).trans hn.kind, (hc _).trans hn.num, (hc _).trans hn.name, (hc _).trans hn.args, hn.inn.keep fun b hb' => hb.block b (Nat.lt_of_lt_of_le hb'.1 h.only.size)⟩
theorem St.drew {w0 w : World} {blk : Nat} {d : Array Tg} (h : St w0 blk d w) : St w0 blk d w.drew := h.below ⟨rfl, rfl, rfl, Nat.le_refl _, fun _ _ => rfl⟩
/-- Cells written one after the other: only the last one counts. -/
theorem set4_other {S : Nat → Prop} {w : World} {b o : Nat} {p p' : Pay} {l : Fo} {A A' : Option Addr} {c n' c' : Nat} {o' : Nat} (h : NodeAt S w b o p l A c) (hS : ∀ x, S x → x ≠ b) (ho : o + 4 ≤ o' ∨ o' + 4 ≤ o) : NodeAt S (set4 w b o' p' A' n' c') b o p l A c :=
  ⟨(set4_far w b o' p' A' n' c' o (by omega)).trans h.kind, (set4_far w b o' p' A' n' c' (o + 1) (by omega)).trans h.num, (set4_far w b o' p' A' n' c' (o + 2) (by omega)).trans h.name, (set4_far w b o' p' A' n' c' (o + 3) (by omega)).trans h.args, h.inn.keep fun x hx => set4_block w b o' p' A' n' c' x (hS x hx)⟩
theorem four_of_node {S : Nat → Prop} {w : World} {b o : Nat} {p : Pay} {l : Fo} {A : Option Addr} {c : Nat} (h : NodeAt S w b o p l A c) : Four w b o := ⟨by rw [h.kind]; rfl, by rw [h.num]; rfl, by rw [h.name]; rfl, by rw [h.args]; rfl⟩
theorem set4_here {S : Nat → Prop} {w : World} {b o : Nat} {p' : Pay} {l' : Fo} {A' : Option Addr} {c' : Nat} (hf : Four w b o) (hS : ∀ x, S x → x ≠ b) (ha : ArgsIn S w A' (Tm.len l') l') : NodeAt S (set4 w b o p' A' (Tm.len l') c') b o p' l' A' c' := by
  have h := set4_cells w b o p' A' (Tm.len l') c' hf
  exact ⟨h.1, h.2.1, h.2.2.1, h.2.2.2, ha.keep fun x hx => set4_block w b o p' A' (Tm.len l') c' x (hS x hx)⟩
theorem set4_in {X : Nat → Prop} {a w : World} (b o : Nat) (p : Pay) (A : Option Addr) (n c : Nat) (h : Only X a w) (hb : X b) : Only X a (set4 w b o p A n c) := by
  unfold set4
  exact (((h.setCell (p := ⟨b, o, none⟩) hb _).setCell (p := ⟨b, o + 1, none⟩) hb _).setCell (p := ⟨b, o + 2, none⟩) hb _).setCell (p := ⟨b, o + 3, none⟩) hb _
theorem St.swap {w0 w : World} {blk : Nat} {d : Array Tg} (h : St w0 blk d w) {i j : Nat} (hi : i < d.size) (hj : j < d.size) (hij : i ≠ j) {A B : Option Addr} {c e : Nat}
    (ni : NodeAt (fun b => b < w0.heap.size ∧ b ≠ blk) w blk (i * 4) d[i]!.1.1 d[i]!.1.2 A c) (nj : NodeAt (fun b => b < w0.heap.size ∧ b ≠ blk) w blk (j * 4) d[j]!.1.1 d[j]!.1.2 B e) :
    St w0 blk (Go.Sort.swp d i j) (set4 (set4 w blk (i * 4) d[j]!.1.1 B (Tm.len d[j]!.1.2) e) blk (j * 4) d[i]!.1.1 A (Tm.len d[i]!.1.2) c) := by
  have hS : ∀ x, (x < w0.heap.size ∧ x ≠ blk) → x ≠ blk := fun x hx => hx.2
  have hne : i * 4 + 4 ≤ j * 4 ∨ j * 4 + 4 ≤ i * 4 := by omega
  refine ⟨?_, h.lt, fun k hk => ?_, fun o => by rw [set4_frozen, set4_frozen]; exact h.soft o⟩
  · exact set4_in _ _ _ _ _ _ (set4_in _ _ _ _ _ _ h.only rfl) rfl
  · rw [Go.Sort.size_swp] at hk
    rw [Go.Sort.swp_get d hi hj]
    have n1 := set4_other (p' := d[j]!.1.1) (A' := B) (n' := Tm.len d[j]!.1.2) (c' := e) nj hS (o' := i * 4) (by omega)
    have n2 := set4_here (S := fun b => b < w0.heap.size ∧ b ≠ blk) (p' := d[j]!.1.1) (c' := e) (four_of_node ni) hS nj.inn
    have ha : ArgsIn (fun b => b < w0.heap.size ∧ b ≠ blk) (set4 w blk (i * 4) d[j]!.1.1 B (Tm.len d[j]!.1.2) e) A (Tm.len d[i]!.1.2) d[i]!.1.2 := ni.inn.keep fun x hx => set4_block _ _ _ _ _ _ _ x (hS x hx)
    by_cases hkj : k = j
    · subst hkj
      refine ⟨A, c, ?_⟩
      simp only [if_true]
      exact set4_here (S := fun b => b < w0.heap.size ∧ b ≠ blk) (p' := d[i]!.1.1) (c' := c) (four_of_node n1) hS ha
    · by_cases hki : k = i
      · subst hki
        refine ⟨B, e, ?_⟩
        simp only [if_neg hkj, if_true]
        exact set4_other n2 hS (by omega)
      · obtain ⟨C, f, nk⟩ := h.row k hk
        refine ⟨C, f, ?_⟩
        simp only [if_neg hkj, if_neg hki]
        exact set4_other (set4_other nk hS (by omega)) hS (by omega)
end Go.Proofs.YtcjakmafojbhlaaDoor
namespace Go.Proofs.YtcjakmafojbhlaaDoor
set_option linter.unusedVariables false
set_option linter.unusedSimpArgs false
open Go.RowKit

/-- n elements from a on exchanged for those from b on. -/
def swpR (d : Array Tg) (a b : Nat) : Nat → Array Tg
  | 0 => d
  | n + 1 => Go.Sort.swp (swpR d a b n) (a + n) (b + n)
theorem swpR_size (d : Array Tg) (a b n : Nat) : (swpR d a b n).size = d.size := by
  induction n with
  | zero => rfl
  | succ n ih => rw [swpR, Go.Sort.size_swp, ih]

set_option maxHeartbeats 4000000 in
set_option maxRecDepth 100000 in
theorem swapRange_any (w0 : World) (blk cap a b n sz : Nat) (d : Array Tg) (cf : Value) (w : World) (hs : d.size = sz) (h63 : sz ≤ 4611686018427387904) (hab : a + n ≤ b) (hb : b + n ≤ sz) (h : St w0 blk d w) :
    Calls Tryd.prog 85 #[.slice (some ⟨blk, 0, none⟩) sz cap, .int .i64 a, .int .i64 b, .int .i64 n, cf] w fun e w' => e = .returned (.tuple #[]) ∧ St w0 blk (swpR d a b n) w' := by
  have HST := Lib.hid h
  have HS := Lib.hid hs
  clear h hs
  go_enter Tryd.func85, Tryd.ntmps85
  go_wp2_with fail
  go_loopw [10] (fun u wr => ∃ k : Nat, k ≤ n ∧ u = .int .i64 k ∧ St w0 blk (swpR d a b k) wr) (fun u _ => n - (Lib.intOf u).toNat)
  case atStart => exact ⟨0, Nat.zero_le _, rfl, HST.out⟩
  case round =>
    obtain ⟨k, hk, rfl, hst⟩ := hrel
    by_cases hlt : k < n
    · have hsz := swpR_size d a b k
      rw [HS.out] at hsz
      obtain ⟨A, c, ni⟩ := hst.row (a + k) (by omega)
      obtain ⟨B, e, nj⟩ := hst.row (b + k) (by omega)
      have hfin := hst.swap (i := a + k) (j := b + k) (by omega) (by omega) (by omega) ni nj
      have hblk : blk < wr.heap.size := Nat.lt_of_lt_of_le hst.lt hst.only.size
      have f0 := hst.soft ((a + k) * 4)
      have f1 := hst.soft ((a + k) * 4 + 1)
      have f2 := hst.soft ((a + k) * 4 + 2)
      have f3 := hst.soft ((a + k) * 4 + 3)
      have g0 := hst.soft ((b + k) * 4)
      have g1 := hst.soft ((b + k) * 4 + 1)
      have g2 := hst.soft ((b + k) * 4 + 2)
      have g3 := hst.soft ((b + k) * 4 + 3)
      have y0 := ni.kind
      have y1 := ni.num
      have y2 := ni.name
      have y3 := ni.args
      have z0 := nj.kind
      have z1 := nj.num
      have z2 := nj.name
      have z3 := nj.args
      generalize (swpR d a b k)[a + k]!.1.1 = p at *
      generalize Tm.len (swpR d a b k)[a + k]!.1.2 = lp at *
      generalize (swpR d a b k)[b + k]!.1.1 = q at *
      generalize Tm.len (swpR d a b k)[b + k]!.1.2 = lq at *
      have HF := Lib.hid hfin
      clear hfin ni nj hst
      go_wp2_with fail
      have hm : Tryd.prog.follows .mixedOrders = true := by kernel_rfl
      go_big_region_o
      all_goals go_wp2
      exact ⟨⟨k + 1, by omega, by go_num, HF.out.drew⟩, by simp [Lib.intOf]; omega⟩
    · obtain rfl : k = n := by omega
      go_wp2_with fail
      go_end0
      exact ⟨rfl, hst⟩
end Go.Proofs.YtcjakmafojbhlaaDoor
namespace Go.Proofs.YtcjakmafojbhlaaDoor
set_option linter.unusedVariables false
set_option linter.unusedSimpArgs false
open Go.RowKit
open Go.Sort (PermIn SortedIn swp permIn_all permIn_refl permIn_trans permIn_mono swp_permIn)

instance (b : Bool) (x y : Tg) : Decidable (Tm.Bef b x y) := by unfold Tm.Bef; infer_instance
/-- What the closure says. -/
def ltC (b : Bool) (x y : Tg) : Bool := decide (Tm.cmpK b x.1 y.1 < 0)
/-- .. and equal keys in the order of their numbers. -/
def ltB (b : Bool) (x y : Tg) : Bool := decide (Tm.Bef b x y)
theorem swoB (b : Bool) : Go.Sort.SWO (ltB b) where
  irrefl x := decide_eq_false Tm.Bef.irrefl
  trans x y z h h' := decide_eq_true ((of_decide_eq_true h).trans (of_decide_eq_true h'))
  ntrans x y z h h' := by
    refine decide_eq_false ?_
    have h1 := of_decide_eq_false h
    have h2 := of_decide_eq_false h'
    obtain ⟨f1, f2, f3, f4⟩ := Tm.cmpK_fit b x.1 y.1 z.1
    unfold Tm.Bef at *
    omega
/-- Not after. -/
def LeB (b : Bool) (x y : Tg) : Prop := ltB b y x = false
theorem LeB.trans {b : Bool} {x y z : Tg} (h : LeB b x y) (h' : LeB b y z) : LeB b x z := (swoB b).ntrans _ _ _ h' h
theorem LeB.of_neg {b : Bool} {x y : Tg} (h : Tm.cmpK b x.1 y.1 < 0) : LeB b x y := by
  refine decide_eq_false ?_
  have := Tm.cmpK_neg b x.1 y.1
  unfold Tm.Bef
  omega
theorem LeB.of_nonneg {b : Bool} {x y : Tg} (h : ¬ Tm.cmpK b y.1 x.1 < 0) (ht : x.2 < y.2) : LeB b x y := by
  refine decide_eq_false ?_
  unfold Tm.Bef
  omega
theorem LeB.nonpos {b : Bool} {x y : Tg} (h : LeB b x y) : Tm.cmpK b x.1 y.1 ≤ 0 := by
  have h := of_decide_eq_false h
  have := Tm.cmpK_neg b x.1 y.1
  unfold Tm.Bef at h
  omega
/-- The numbers rise. -/
def Rise (a b : Nat) (d : Array Tg) : Prop := ∀ i j, a ≤ i → i < j → j < b → d[i]!.2 < d[j]!.2
/-- The numbers of one part lie below those of the next. -/
def Apart (a m b : Nat) (d : Array Tg) : Prop := ∀ i j, a ≤ i → i < m → m ≤ j → j < b → d[i]!.2 < d[j]!.2

/-! ### insertion -/
theorem insInner_eq (b : Bool) (a : Nat) : ∀ (j : Nat) (d : Array Tg), j < d.size → (∀ k, a ≤ k → k < j → d[k]!.2 < d[j]!.2) → Go.Sort.insInner (ltC b) a j d = Go.Sort.insInner (ltB b) a j d
  | 0, d, _, _ => rfl
  | j + 1, d, hj, h => by
    have e : a < j + 1 → ltC b d[j + 1]! d[j]! = ltB b d[j + 1]! d[j]! := fun ha => by
      have := h j (by omega) (by omega)
      unfold ltC ltB
      rw [decide_eq_decide]
      unfold Tm.Bef
      omega
    rw [Go.Sort.insInner, Go.Sort.insInner]
    by_cases ha : a < j + 1
    · rw [e ha]
      rw [insInner_eq b a j _ (by rw [Go.Sort.size_swp]; omega) (fun k hk hkj => by
        rw [Go.Sort.swp_get d hj (by omega), Go.Sort.swp_get d hj (by omega)]
        rw [if_neg (by omega), if_neg (by omega), if_pos rfl]
        exact h k hk (by omega))]
    · have : ¬ j + 1 > a := by omega
      simp [this]
theorem insInner_perm (lt : Tg → Tg → Bool) (a i : Nat) : ∀ (j : Nat) (d : Array Tg), a ≤ j → j ≤ i → i < d.size → PermIn a (i + 1) d (Go.Sort.insInner lt a j d)
  | 0, d, _, _, _ => permIn_refl d a (i + 1)
  | j + 1, d, haj, hji, hb => by
    rw [Go.Sort.insInner]
    split
    · rename_i hc
      simp only [Bool.and_eq_true, decide_eq_true_eq] at hc
      exact permIn_trans _ _ _ a (i + 1) (swp_permIn d a (i + 1) (j + 1) j haj (by omega) (by omega) (by omega) (by omega)) (insInner_perm lt a i j (swp d (j + 1) j) (by omega) (by omega) (by rw [Go.Sort.size_swp]; exact hb))
    · exact permIn_refl d a (i + 1)
theorem insOuter_eq (b : Bool) (a hi : Nat) (d0 : Array Tg) (hhi : hi ≤ d0.size) (hr : Rise a hi d0) : ∀ (n i : Nat) (d : Array Tg), hi - i ≤ n → a ≤ i → PermIn a i d0 d → Go.Sort.insOuter (ltC b) a hi i d = Go.Sort.insOuter (ltB b) a hi i d := by
  intro n
  induction n with
  | zero => intro i d hn _ _; rw [Go.Proofs.insOuter_stop _ _ _ _ _ (by omega), Go.Proofs.insOuter_stop _ _ _ _ _ (by omega)]
  | succ n ih =>
    intro i d hn ha hp
    by_cases hlt : i < hi
    · rw [Go.Proofs.insOuter_go _ _ _ _ _ hlt, Go.Proofs.insOuter_go _ _ _ _ _ hlt]
      have hlow : ∀ k, a ≤ k → k < i → d[k]!.2 < d[i]!.2 := by
        have hi' : d[i]! = d0[i]! := hp.2.1 i (by omega)
        intro k hk hki
        rw [hi']
        exact permIn_all d0 d a i (fun x => x.2 < d0[i]!.2) (by omega) hp (fun q hq hqi => hr q i hq hqi hlt) k hk hki
      have hs := hp.1
      rw [insInner_eq b a i d (by omega) hlow]
      exact ih (i + 1) _ (by omega) (by omega) (permIn_trans _ _ _ _ _ (permIn_mono d0 d a i a (i + 1) (Nat.le_refl _) (by omega) (by omega) hp) (insInner_perm (ltB b) a i i d ha (Nat.le_refl _) (by omega)))
    · rw [Go.Proofs.insOuter_stop _ _ _ _ _ hlt, Go.Proofs.insOuter_stop _ _ _ _ _ hlt]
theorem insertion_sorts (b : Bool) (a hi : Nat) (d : Array Tg) (ha : a ≤ hi) (hhi : hi ≤ d.size) (hr : Rise a hi d) : PermIn a hi d (Go.Sort.insertionSort (ltC b) d a hi) ∧ SortedIn (ltB b) a hi (Go.Sort.insertionSort (ltC b) d a hi) := by
  have e : Go.Sort.insertionSort (ltC b) d a hi = Go.Sort.insertionSort (ltB b) d a hi := by
    unfold Go.Sort.insertionSort
    by_cases h : a = hi
    · rw [Go.Proofs.insOuter_stop _ _ _ _ _ (by omega), Go.Proofs.insOuter_stop _ _ _ _ _ (by omega)]
    · exact insOuter_eq b a hi d hhi hr _ (a + 1) d (Nat.le_refl _) (by omega) (permIn_refl _ _ _)
  rw [e]
  exact Go.Sort.insertionSort_holds (swoB b) d a hi ha hhi

/-! ### rotation -/
theorem swpR_get (d : Array Tg) (a b : Nat) : ∀ n, a + n ≤ b → b + n ≤ d.size → ∀ k, (swpR d a b n)[k]! = if a ≤ k ∧ k < a + n then d[b + (k - a)]! else if b ≤ k ∧ k < b + n then d[a + (k - b)]! else d[k]!
  | 0, _, _, k => by rw [swpR, if_neg (by omega), if_neg (by omega)]
  | n + 1, h1, h2, k => by
    have g := swpR_get d a b n (by omega) (by omega)
    have hs := swpR_size d a b n
    rw [swpR, Go.Sort.swp_get _ (by omega) (by omega), g, g, g]
    by_cases hb : k = b + n
    · subst hb
      rw [if_pos rfl, if_neg (by omega), if_neg (by omega), if_neg (by omega), if_pos (by omega)]
      congr 1; omega
    · rw [if_neg hb]
      by_cases ha : k = a + n
      · subst ha
        rw [if_pos rfl, if_neg (by omega), if_neg (by omega), if_pos (by omega)]
        congr 1; omega
      · rw [if_neg ha]
        by_cases h3 : a ≤ k ∧ k < a + n
        · rw [if_pos h3, if_pos (by omega)]
        · rw [if_neg h3, if_neg (show ¬ (a ≤ k ∧ k < a + (n + 1)) by omega)]
          by_cases h4 : b ≤ k ∧ k < b + n
          · rw [if_pos h4, if_pos (by omega)]
          · rw [if_neg h4, if_neg (by omega)]
theorem swpR_perm (d : Array Tg) (a b lo hi : Nat) : ∀ n, lo ≤ a → a + n ≤ b → b + n ≤ hi → hi ≤ d.size → PermIn lo hi d (swpR d a b n)
  | 0, _, _, _, _ => permIn_refl _ _ _
  | n + 1, h1, h2, h3, h4 => permIn_trans _ _ _ _ _ (swpR_perm d a b lo hi n h1 (by omega) (by omega) h4) (swp_permIn _ lo hi (a + n) (b + n) (by omega) (by omega) (by omega) (by omega) (by rw [swpR_size]; exact h4))
/-- Where the element at k comes from when i elements from lo on change places with the j behind them. -/
def rotI (lo i j k : Nat) : Nat := if lo ≤ k ∧ k < lo + j then k + i else if lo + j ≤ k ∧ k < lo + i + j then k - j else k
theorem rot_left (d : Array Tg) (lo i j : Nat) (hji : j < i) (hs : lo + i + j ≤ d.size) (k : Nat) : (swpR d lo (lo + i) j)[rotI (lo + j) (i - j) j k]! = d[rotI lo i j k]! := by
  rw [swpR_get d lo (lo + i) j (by omega) (by omega)]
  unfold rotI
  repeat' split
  all_goals first | rfl | omega | (congr 1; omega)
theorem rot_right (d : Array Tg) (lo i j : Nat) (hji : i < j) (hs : lo + i + j ≤ d.size) (k : Nat) : (swpR d lo (lo + j) i)[rotI lo i (j - i) k]! = d[rotI lo i j k]! := by
  rw [swpR_get d lo (lo + j) i (by omega) (by omega)]
  unfold rotI
  repeat' split
  all_goals first | rfl | omega | (congr 1; omega)
theorem rot_last (d : Array Tg) (lo i : Nat) (hs : lo + i + i ≤ d.size) (k : Nat) : (swpR d lo (lo + i) i)[k]! = d[rotI lo i i k]! := by
  rw [swpR_get d lo (lo + i) i (by omega) (by omega)]
  unfold rotI
  repeat' split
  all_goals first | rfl | omega | (congr 1; omega)

/-! ### SymMerge -/
/-- Two sorted runs, side by side, become the left and the right half of the result. -/
structure Halves (b : Bool) (a s mid e hi : Nat) (d : Array Tg) : Prop where
  l1 : SortedIn (ltB b) a s d
  l2 : SortedIn (ltB b) s mid d
  r1 : SortedIn (ltB b) mid e d
  r2 : SortedIn (ltB b) e hi d
  tl : Apart a s mid d
  tr : Apart mid e hi d
  cross : ∀ i j, a ≤ i → i < mid → mid ≤ j → j < hi → LeB b d[i]! d[j]!
theorem halves (b : Bool) (a m hi s e : Nat) (d d1 : Array Tg) (h1 : SortedIn (ltB b) a m d) (h2 : SortedIn (ltB b) m hi d) (ht : Apart a m hi d) (has : a ≤ s) (hsm : s ≤ m) (hme : m ≤ e) (heb : e ≤ hi)
    (hd : ∀ k, d1[k]! = d[rotI s (m - s) (e - m) k]!) (k1 : s = a ∨ e = hi ∨ LeB b d[s - 1]! d[e]!) (k2 : s = m ∨ e = m ∨ LeB b d[e - 1]! d[s]!) : Halves b a s (s + (e - m)) e hi d1 := by
  have A1 : ∀ k, k < s → d1[k]! = d[k]! := fun k hk => by rw [hd]; unfold rotI; rw [if_neg (by omega), if_neg (by omega)]
  have B1 : ∀ k, s ≤ k → k < s + (e - m) → d1[k]! = d[k + (m - s)]! := fun k hk hk2 => by rw [hd]; unfold rotI; rw [if_pos (by omega)]
  have A2 : ∀ k, s + (e - m) ≤ k → k < e → d1[k]! = d[k - (e - m)]! := fun k hk hk2 => by rw [hd]; unfold rotI; rw [if_neg (by omega), if_pos (by omega)]
  have B2 : ∀ k, e ≤ k → d1[k]! = d[k]! := fun k hk => by rw [hd]; unfold rotI; rw [if_neg (by omega), if_neg (by omega)]
  refine ⟨fun i j h3 h4 h5 => ?_, fun i j h3 h4 h5 => ?_, fun i j h3 h4 h5 => ?_, fun i j h3 h4 h5 => ?_, fun i j h3 h4 h5 h6 => ?_, fun i j h3 h4 h5 h6 => ?_, fun i j h3 h4 h5 h6 => ?_⟩
  · rw [A1 i (by omega), A1 j (by omega)]; exact h1 i j h3 h4 (by omega)
  · rw [B1 i (by omega) (by omega), B1 j (by omega) (by omega)]; exact h2 _ _ (by omega) (by omega) (by omega)
  · rw [A2 i (by omega) (by omega), A2 j (by omega) (by omega)]; exact h1 _ _ (by omega) (by omega) (by omega)
  · rw [B2 i (by omega), B2 j (by omega)]; exact h2 _ _ (by omega) (by omega) (by omega)
  · rw [A1 i (by omega), B1 j (by omega) (by omega)]; exact ht _ _ (by omega) (by omega) (by omega) (by omega)
  · rw [A2 i (by omega) (by omega), B2 j (by omega)]; exact ht _ _ (by omega) (by omega) (by omega) (by omega)
  · by_cases hi' : i < s
    · rw [A1 i hi']
      by_cases hj : j < e
      · rw [A2 j (by omega) hj]; exact h1 _ _ h3 (by omega) (by omega)
      · rw [B2 j (by omega)]
        have k1' : LeB b d[s - 1]! d[e]! := by rcases k1 with h | h | h; omega; omega; exact h
        have x1 : LeB b d[i]! d[e]! := by
          by_cases hq : i = s - 1
          · rw [hq]; exact k1'
          · exact LeB.trans (h1 i (s - 1) h3 (by omega) (by omega)) k1'
        by_cases hq : j = e
        · rw [hq]; exact x1
        · exact x1.trans (h2 e j (by omega) (by omega) h6)
    · rw [B1 i (by omega) h4]
      by_cases hj : j < e
      · rw [A2 j (by omega) hj]
        have k2' : LeB b d[e - 1]! d[s]! := by rcases k2 with h | h | h; omega; omega; exact h
        have x1 : LeB b d[i + (m - s)]! d[s]! := by
          by_cases hq : i + (m - s) = e - 1
          · rw [hq]; exact k2'
          · exact LeB.trans (h2 _ (e - 1) (by omega) (by omega) (by omega)) k2'
        by_cases hq : j - (e - m) = s
        · rw [hq]; exact x1
        · exact x1.trans (h1 s _ (by omega) (by omega) (by omega))
      · rw [B2 j (by omega)]; exact h2 _ _ (by omega) (by omega) (by omega)
/-- Both halves sorted: all is sorted. -/
theorem halves_join {b : Bool} {a mid hi : Nat} {d1 d2 d3 : Array Tg} (ham : a ≤ mid) (hmh : mid ≤ hi) (hs : hi ≤ d1.size) (hc : ∀ i j, a ≤ i → i < mid → mid ≤ j → j < hi → LeB b d1[i]! d1[j]!) (p1 : PermIn a mid d1 d2) (s1 : SortedIn (ltB b) a mid d2) (p2 : PermIn mid hi d2 d3) (s2 : SortedIn (ltB b) mid hi d3) :
    PermIn a hi d1 d3 ∧ SortedIn (ltB b) a hi d3 := by
  have hs2 := p1.1
  refine ⟨permIn_trans _ _ _ _ _ (permIn_mono _ _ a mid a hi (Nat.le_refl _) hmh hs p1) (permIn_mono _ _ mid hi a hi ham (Nat.le_refl _) (by omega) p2), ?_⟩
  have c2 : ∀ i j, a ≤ i → i < mid → mid ≤ j → j < hi → LeB b d2[i]! d2[j]! := fun i j h1 h2 h3 h4 => by
    rw [p1.2.1 j (by omega)]
    exact permIn_all d1 d2 a mid (fun x => LeB b x d1[j]!) (by omega) p1 (fun q hq hqm => hc q j hq hqm h3 h4) i h1 h2
  have c3 : ∀ i j, a ≤ i → i < mid → mid ≤ j → j < hi → LeB b d3[i]! d3[j]! := fun i j h1 h2 h3 h4 => by
    rw [p2.2.1 i (by omega)]
    exact permIn_all d2 d3 mid hi (fun y => LeB b d2[i]! y) (by omega) p2 (fun q hq hqm => c2 i q h1 h2 hq hqm) j h3 h4
  intro i j h1 h2 h3
  by_cases hj : j < mid
  · rw [p2.2.1 i (by omega), p2.2.1 j (by omega)]; exact s1 i j h1 h2 hj
  · by_cases hi' : i < mid
    · exact c3 i j h1 hi' (by omega) h3
    · exact s2 i j (by omega) h2 h3
theorem sorted_one (b : Bool) (a m : Nat) (h : m ≤ a + 1) (d : Array Tg) : SortedIn (ltB b) a m d := fun i j h1 h2 h3 => by omega
theorem Halves.keepRight {b : Bool} {a s mid e hi : Nat} {d d2 : Array Tg} (h : Halves b a s mid e hi d) (hme : mid ≤ e) (p : PermIn a mid d d2) : SortedIn (ltB b) mid e d2 ∧ SortedIn (ltB b) e hi d2 ∧ Apart mid e hi d2 :=
  ⟨fun i j h1 h2 h3 => by rw [p.2.1 i (by omega), p.2.1 j (by omega)]; exact h.r1 i j h1 h2 h3, fun i j h1 h2 h3 => by rw [p.2.1 i (by omega), p.2.1 j (by omega)]; exact h.r2 i j h1 h2 h3,
   fun i j h1 h2 h3 h4 => by rw [p.2.1 i (by omega), p.2.1 j (by omega)]; exact h.tr i j h1 h2 h3 h4⟩
/-- The first element goes behind those that are less. -/
theorem one_left {b : Bool} {a hi i : Nat} {d d1 : Array Tg} (h2 : SortedIn (ltB b) (a + 1) hi d) (ht : Apart a (a + 1) hi d) (hai : a + 1 ≤ i) (hih : i ≤ hi) (k1 : i = a + 1 ∨ Tm.cmpK b d[i - 1]!.1 d[a]!.1 < 0) (k2 : i = hi ∨ ¬ Tm.cmpK b d[i]!.1 d[a]!.1 < 0)
    (hd : ∀ k, d1[k]! = d[rotI a 1 (i - (a + 1)) k]!) : SortedIn (ltB b) a hi d1 := by
  have H := halves b a (a + 1) hi a i d d1 (sorted_one b a (a + 1) (Nat.le_refl _) d) h2 ht (Nat.le_refl _) (by omega) hai hih (by rw [show a + 1 - a = 1 by omega]; exact hd) (.inl rfl) (by
    rcases k1 with h | h
    · exact .inr (.inl h)
    · exact .inr (.inr (LeB.of_neg h)))
  have last : d1[i - 1]! = d[a]! := by rw [hd]; unfold rotI; rw [if_neg (by omega), if_pos (by omega)]; congr 1; omega
  have rest : ∀ k, i ≤ k → d1[k]! = d[k]! := fun k hk => by rw [hd]; unfold rotI; rw [if_neg (by omega), if_neg (by omega)]
  intro x y h3 h4 h5
  by_cases hx : x < a + (i - (a + 1))
  · by_cases hy : y < a + (i - (a + 1))
    · exact H.l2 x y h3 h4 hy
    · exact H.cross x y h3 hx (by omega) h5
  · by_cases hx' : x = i - 1
    · subst hx'
      show LeB b d1[i - 1]! d1[y]!
      rw [last, rest y (by omega)]
      have k2' : LeB b d[a]! d[i]! := by
        rcases k2 with h | h
        · omega
        · exact LeB.of_nonneg h (ht a i (Nat.le_refl _) (by omega) (by omega) (by omega))
      by_cases hq : y = i
      · rw [hq]; exact k2'
      · exact k2'.trans (h2 i y (by omega) (by omega) h5)
    · exact H.r2 x y (by omega) h4 h5
/-- The last element goes before those that come after it. -/
theorem one_right {b : Bool} {a m i : Nat} {d d1 : Array Tg} (h1 : SortedIn (ltB b) a m d) (ht : Apart a m (m + 1) d) (hai : a ≤ i) (him : i ≤ m) (k1 : i = a ∨ ¬ Tm.cmpK b d[m]!.1 d[i - 1]!.1 < 0) (k2 : i = m ∨ Tm.cmpK b d[m]!.1 d[i]!.1 < 0)
    (hd : ∀ k, d1[k]! = d[rotI i (m - i) 1 k]!) : SortedIn (ltB b) a (m + 1) d1 := by
  have low : ∀ k, k < i → d1[k]! = d[k]! := fun k hk => by rw [hd]; unfold rotI; rw [if_neg (by omega), if_neg (by omega)]
  have at' : d1[i]! = d[m]! := by rw [hd]; unfold rotI; rw [if_pos (by omega)]; congr 1; omega
  have up : ∀ k, i < k → k ≤ m → d1[k]! = d[k - 1]! := fun k hk hk2 => by rw [hd]; unfold rotI; rw [if_neg (by omega), if_pos (by omega)]
  intro x y h3 h4 h5
  show LeB b d1[x]! d1[y]!
  by_cases hx : x < i
  · rw [low x hx]
    by_cases hy : y < i
    · rw [low y hy]; exact h1 x y h3 h4 (by omega)
    · have k1' : LeB b d[i - 1]! d[m]! := by
        rcases k1 with h | h
        · omega
        · exact LeB.of_nonneg h (ht (i - 1) m (by omega) (by omega) (Nat.le_refl _) (by omega))
      by_cases hy' : y = i
      · subst hy'
        rw [at']
        by_cases hq : x = y - 1
        · rw [hq]; exact k1'
        · exact LeB.trans (h1 x (y - 1) h3 (by omega) (by omega)) k1'
      · rw [up y (by omega) (by omega)]
        exact h1 x (y - 1) h3 (by omega) (by omega)
  · by_cases hx' : x = i
    · subst hx'
      rw [at', up y h4 (by omega)]
      have k2' : LeB b d[m]! d[x]! := by
        rcases k2 with h | h
        · omega
        · exact LeB.of_neg h
      by_cases hq : y - 1 = x
      · rw [hq]; exact k2'
      · exact k2'.trans (h1 x (y - 1) h3 (by omega) (by omega))
    · rw [up x (by omega) (by omega), up y (by omega) (by omega)]
      exact h1 (x - 1) (y - 1) (by omega) (by omega) (by omega)
end Go.Proofs.YtcjakmafojbhlaaDoor
namespace Go.Proofs.YtcjakmafojbhlaaDoor
set_option linter.unusedVariables false
set_option linter.unusedSimpArgs false
open Go.RowKit

/-- What a sort by the whole or by the key asks of a term. -/
def OkT (b : Bool) (t : Tm.Tn) : Prop := Tm.goodB t.1 t.2 = true ∧ (b = true → t.2 ≠ .nil)
/-- The closure that a sort is passed: it compares two terms of the row, wherever they lie outside the row's block. -/
abbrev sortFn (pc : Nat) : Value := .func (.func 67) #[] #[.pointer (some ⟨pc, 0, none⟩)]
theorem enters_sorted1 : ∀ (args : Array Value) (w : World), (callFunc 67 args).run Tryd.prog w = .ok (.enter 67 args) w := fun args w => by kernel_rfl
def CmpC (w0 : World) (blk pc : Nat) (b : Bool) : Prop := ∀ (x y : Tm.Tn) (A A' : Option Addr) (c c' : Nat) (w : World), Only (· = blk) w0 w → OkT b x → OkT b y → ArgsB w w.heap.size A (Tm.len x.2) x.2 → ArgsB w w.heap.size A' (Tm.len y.2) y.2 →
    Calls Tryd.prog 67 #[tv x.1 A (Tm.len x.2) c, tv y.1 A' (Tm.len y.2) c', .pointer (some ⟨pc, 0, none⟩)] w fun e w' => e = .returned (.int .i64 (Tm.cmpK b x y)) ∧ Below w.heap.size w w'
/-- .. two elements of the row. -/
theorem CmpC.at {w0 : World} {blk pc : Nat} {b : Bool} (C : CmpC w0 blk pc b) {d : Array Tg} {w : World} (h : St w0 blk d w) {i j : Nat} (hi : OkT b d[i]!.1) (hj : OkT b d[j]!.1) {A B : Option Addr} {c e : Nat}
    (ni : NodeAt (fun b => b < w0.heap.size ∧ b ≠ blk) w blk (i * 4) d[i]!.1.1 d[i]!.1.2 A c) (nj : NodeAt (fun b => b < w0.heap.size ∧ b ≠ blk) w blk (j * 4) d[j]!.1.1 d[j]!.1.2 B e) (p : Bw w) :
    Calls Tryd.prog 67 #[tv d[i]!.1.1 A (Tm.len d[i]!.1.2) c, tv d[j]!.1.1 B (Tm.len d[j]!.1.2) e, .pointer (some ⟨pc, 0, none⟩)] p.to fun e w' => e = .returned (.int .i64 (Tm.cmpK b d[i]!.1 d[j]!.1)) ∧ Below p.to.heap.size p.to w' :=
  C d[i]!.1 d[j]!.1 A B c e p.to (h.only.trans (Only.of_below p.ok)) hi hj ((ni.inn.keep fun x hx => p.ok.block x (Nat.lt_of_lt_of_le hx.1 h.only.size)).mono fun x hx => Nat.lt_of_lt_of_le hx.1 (Nat.le_trans h.only.size p.ok.size)) ((nj.inn.keep fun x hx => p.ok.block x (Nat.lt_of_lt_of_le hx.1 h.only.size)).mono fun x hx => Nat.lt_of_lt_of_le hx.1 (Nat.le_trans h.only.size p.ok.size))
theorem node_bw {w0 w : World} {blk : Nat} {d : Array Tg} {o : Nat} {p : Pay} {l : Fo} {A : Option Addr} {c : Nat} (h : NodeAt (fun b => b < w0.heap.size ∧ b ≠ blk) w blk o p l A c) (hst : St w0 blk d w) (q : Bw w) : NodeAt (fun b => b < w0.heap.size ∧ b ≠ blk) q.to blk o p l A c := by
  have hlt : blk < w.heap.size := Nat.lt_of_lt_of_le hst.lt hst.only.size
  exact ⟨cell_bw (a := ⟨blk, o, none⟩) hlt h.kind q, cell_bw (a := ⟨blk, o + 1, none⟩) hlt h.num q, cell_bw (a := ⟨blk, o + 2, none⟩) hlt h.name q, cell_bw (a := ⟨blk, o + 3, none⟩) hlt h.args q, h.inn.keep fun x hx => q.ok.block x (Nat.lt_of_lt_of_le hx.1 hst.only.size)⟩
/-- All terms of the row are fit. -/
def Fit (b : Bool) (d : Array Tg) : Prop := ∀ k, k < d.size → OkT b d[k]!.1
theorem Fit.swp {b : Bool} {d : Array Tg} (h : Fit b d) {i j : Nat} (hi : i < d.size) (hj : j < d.size) : Fit b (Go.Sort.swp d i j) := fun k hk => by
  rw [Go.Sort.size_swp] at hk
  rw [Go.Sort.swp_get d hi hj]
  split
  · exact h i hi
  · split
    · exact h j hj
    · exact h k hk

set_option maxHeartbeats 4000000 in
set_option maxRecDepth 100000 in
theorem insertion_any (w0 : World) (blk pc cap lo hi sz : Nat) (b : Bool) (d : Array Tg) (w : World) (C : CmpC w0 blk pc b) (hs : d.size = sz) (h63 : sz ≤ 4611686018427387904) (hlh : lo ≤ hi) (hh : hi ≤ sz) (hf : Fit b d) (h : St w0 blk d w) :
    Calls Tryd.prog 80 #[.slice (some ⟨blk, 0, none⟩) sz cap, .int .i64 lo, .int .i64 hi, sortFn pc] w fun e w' => e = .returned (.tuple #[]) ∧ St w0 blk (Go.Sort.insertionSort (ltC b) d lo hi) w' ∧ Fit b (Go.Sort.insertionSort (ltC b) d lo hi) := by
  have HST := Lib.hid h
  have HS := Lib.hid hs
  have HF := Lib.hid hf
  have HC := Lib.hid C
  have eg := enters_sorted1
  clear h hs hf C
  go_enter Tryd.func80, Tryd.ntmps80
  go_wp2_with fail
  go_loopg [8] (hi - lo) (fun g1 vi wr => ∃ (i : Nat) (dk : Array Tg), vi = .int .i64 i ∧ lo < i ∧ i ≤ hi + 1 ∧ hi + 1 - i ≤ g1 + 1 ∧ dk.size = sz ∧ St w0 blk dk wr ∧ Fit b dk ∧ Hid (Go.Sort.insOuter (ltC b) lo hi i dk = Go.Sort.insOuter (ltC b) lo hi (lo + 1) d))
  case atStart => exact ⟨lo + 1, d, by go_num, by omega, by omega, by omega, HS.out, HST.out, HF.out, rfl⟩
  case round =>
    obtain ⟨i, dk, rfl, hai, hib, hg1, hsk, hst, hfk, HO⟩ := hrel
    have HSTK := Lib.hid hst
    have HFK := Lib.hid hfk
    clear hst hfk
    by_cases hlt : i < hi
    · have hltz : (i : Int) < (hi : Int) := by omega
      go_wp2
      go_loopg [9] i (fun g2 vj wr2 => ∃ (j : Nat) (dj : Array Tg), vj = .int .i64 j ∧ lo ≤ j ∧ j ≤ i ∧ j ≤ g2 ∧ dj.size = sz ∧ St w0 blk dj wr2 ∧ Fit b dj ∧ Hid (Go.Sort.insInner (ltC b) lo j dj = Go.Sort.insInner (ltC b) lo i dk))
      case atStart => exact ⟨i, dk, rfl, by omega, Nat.le_refl _, Nat.le_refl _, hsk, HSTK.out, HFK.out, rfl⟩
      case round =>
        obtain ⟨j, dj, rfl, haj, hji, hg2, hsj, hst, hfj, HI⟩ := hrel
        have HFJ := Lib.hid hfj
        clear hfj
        have out : (j ≤ lo ∨ ltC b dj[j]! dj[j - 1]! = false) → Hid (Go.Sort.insOuter (ltC b) lo hi (i + 1) dj = Go.Sort.insOuter (ltC b) lo hi (lo + 1) d) := fun hs => by
          show _ = _
          rw [← HO.out, Go.Proofs.insOuter_go _ _ _ _ _ hlt, ← HI.out, Go.Proofs.insInner_stop _ _ _ _ hs]
        have OUT : Aside _ := out
        clear out
        by_cases hja : lo < j
        · have hjaz : (lo : Int) < (j : Int) := by omega
          obtain ⟨jp, rfl⟩ : ∃ jp, j = jp + 1 := ⟨j - 1, by omega⟩
          have hwp : IntKind.i64.wrap (jp : Int) = (jp : Int) := by rw [IntKind.wrap_i64]; omega
          have jz : (jp : Int) + 1 < (sz : Int) := by omega
          have jz1 : (jp : Int) < (sz : Int) := by omega
          have hjaz' : (lo : Int) < (jp : Int) + 1 := by omega
          have p0 : (0 : Int) ≤ (jp : Int) + 1 := by omega
          have e0 : ((jp : Int) + 1).toNat = jp + 1 := by omega
          obtain ⟨A, c, ni⟩ := hst.row (jp + 1) (by omega)
          obtain ⟨B, e, nj⟩ := hst.row jp (by omega)
          have hcall := HC.out.at hst (HFJ.out (jp + 1) (by omega)) (HFJ.out jp (by omega)) ni nj
          have hblk : blk < wr.heap.size := Nat.lt_of_lt_of_le hst.lt hst.only.size
          have f0 := hst.soft ((jp + 1) * 4)
          have f1 := hst.soft ((jp + 1) * 4 + 1)
          have f2 := hst.soft ((jp + 1) * 4 + 2)
          have f3 := hst.soft ((jp + 1) * 4 + 3)
          have g0 := hst.soft (jp * 4)
          have g1' := hst.soft (jp * 4 + 1)
          have g2' := hst.soft (jp * 4 + 2)
          have g3 := hst.soft (jp * 4 + 3)
          have y0 := cell_bw (a := ⟨blk, (jp + 1) * 4, none⟩) hblk ni.kind
          have y1 := cell_bw (a := ⟨blk, (jp + 1) * 4 + 1, none⟩) hblk ni.num
          have y2 := cell_bw (a := ⟨blk, (jp + 1) * 4 + 2, none⟩) hblk ni.name
          have y3 := cell_bw (a := ⟨blk, (jp + 1) * 4 + 3, none⟩) hblk ni.args
          have z0 := cell_bw (a := ⟨blk, jp * 4, none⟩) hblk nj.kind
          have z1 := cell_bw (a := ⟨blk, jp * 4 + 1, none⟩) hblk nj.num
          have z2 := cell_bw (a := ⟨blk, jp * 4 + 2, none⟩) hblk nj.name
          have z3 := cell_bw (a := ⟨blk, jp * 4 + 3, none⟩) hblk nj.args
          have hstop : ¬ Tm.cmpK b dj[jp + 1]!.1 dj[jp]!.1 < 0 → ltC b dj[jp + 1]! dj[jp + 1 - 1]! = false := fun h => decide_eq_false h
          have hgo : Tm.cmpK b dj[jp + 1]!.1 dj[jp]!.1 < 0 → Go.Sort.insInner (ltC b) lo jp (Go.Sort.swp dj (jp + 1) jp) = Go.Sort.insInner (ltC b) lo i dk := fun h => by
            rw [← HI.out]
            have := Go.Proofs.insInner_go (ltC b) lo (jp + 1) dj hja (decide_eq_true h)
            simpa only [Nat.add_sub_cancel] using this.symm
          have HN := Lib.hid (And.intro ni nj)
          have HST2 := Lib.hid hst
          have HSTOP : Aside _ := hstop
          have HGO : Aside _ := hgo
          clear ni nj hst hstop hgo
          generalize Tm.cmpK b dj[jp + 1]!.1 dj[jp]!.1 = cv at hcall HSTOP HGO
          by_cases hlv : cv < 0
          · have HW := Lib.hid (HGO.out hlv)
            clear HSTOP HGO
            go_wp2_with fail
            have hm : Tryd.prog.follows .mixedOrders = true := by kernel_rfl
            refine wp_region_bw hm (by kernel_rfl) ?_
            repeat (go_big_quiet_step (exact calls_bw (hcall _)))
            refine wpQuiet_nil ?_
            intro _ hw'
            obtain ⟨pq, hw''⟩ := hw'
            subst hw''
            go_wp2_with fail
            clear y0 y1 y2 y3 z0 z1 z2 z3 f0 f1 f2 f3 g0 g1' g2' g3 hcall
            have hst := HST2.out.below pq.ok
            have ni := node_bw HN.out.1 HST2.out pq
            have nj := node_bw HN.out.2 HST2.out pq
            have hfin := hst.swap (i := jp + 1) (j := jp) (by omega) (by omega) (by omega) ni nj
            have f0 := hst.soft ((jp + 1) * 4)
            have f1 := hst.soft ((jp + 1) * 4 + 1)
            have f2 := hst.soft ((jp + 1) * 4 + 2)
            have f3 := hst.soft ((jp + 1) * 4 + 3)
            have g0 := hst.soft (jp * 4)
            have g1' := hst.soft (jp * 4 + 1)
            have g2' := hst.soft (jp * 4 + 2)
            have g3 := hst.soft (jp * 4 + 3)
            have y0 := ni.kind
            have y1 := ni.num
            have y2 := ni.name
            have y3 := ni.args
            have z0 := nj.kind
            have z1 := nj.num
            have z2 := nj.name
            have z3 := nj.args
            generalize pq.to = w2 at *
            generalize dj[jp + 1]!.1.1 = p at *
            generalize Tm.len dj[jp + 1]!.1.2 = lp at *
            generalize dj[jp]!.1.1 = q at *
            generalize Tm.len dj[jp]!.1.2 = lq at *
            have HFIN := Lib.hid hfin
            clear hfin ni nj hst
            go_big_region_o
            all_goals go_wp2
            go_roundg jp
            case measure => omega
            case rel => exact ⟨jp, Go.Sort.swp dj (jp + 1) jp, by first | rfl | go_num | (congr 1; omega), by omega, by omega, Nat.le_refl _, by rw [Go.Sort.size_swp]; exact hsj, HFIN.out.drew, HFJ.out.swp (by omega) (by omega), HW.out⟩
          · have HW := Lib.hid (OUT.out (Or.inr (HSTOP.out hlv)))
            clear HSTOP HGO
            go_wp2_with fail
            have hm : Tryd.prog.follows .mixedOrders = true := by kernel_rfl
            refine wp_region_bw hm (by kernel_rfl) ?_
            repeat (go_big_quiet_step (exact calls_bw (hcall _)))
            refine wpQuiet_nil ?_
            intro _ hw'
            obtain ⟨pq, hw''⟩ := hw'
            subst hw''
            go_wp2
            go_roundg (hi - (i + 1))
            case measure => omega
            case rel => exact ⟨i + 1, dj, by go_num, by omega, by omega, by omega, hsj, HST2.out.below pq.ok, HFJ.out, HW.out⟩
        · have hjaz : decide ((j : Int) > (lo : Int)) = false := decide_eq_false (by omega)
          have hjaz' : ¬ (lo : Int) < (j : Int) := by omega
          have HST2 := Lib.hid hst
          clear hst
          go_wp2_with fail
          have hm : Tryd.prog.follows .mixedOrders = true := by kernel_rfl
          refine wp_region_bw hm (by kernel_rfl) ?_
          repeat (go_big_quiet_step (fail))
          refine wpQuiet_nil ?_
          intro _ hw'
          obtain ⟨pq, hw''⟩ := hw'
          subst hw''
          go_wp2
          go_roundg (hi - (i + 1))
          case measure => omega
          case rel => exact ⟨i + 1, dj, by go_num, by omega, by omega, by omega, hsj, HST2.out.below pq.ok, HFJ.out, OUT.out (Or.inl (by omega))⟩
    · have hltz : ¬ (i : Int) < (hi : Int) := by omega
      go_wp2
      go_end0
      have e : Go.Sort.insertionSort (ltC b) d lo hi = dk := by unfold Go.Sort.insertionSort; rw [← HO.out, Go.Proofs.insOuter_stop _ _ _ _ _ hlt]
      rw [e]
      exact ⟨rfl, HSTK.out, HFK.out⟩
end Go.Proofs.YtcjakmafojbhlaaDoor
namespace Go.Proofs.YtcjakmafojbhlaaDoor
set_option linter.unusedVariables false
set_option linter.unusedSimpArgs false
open Go.RowKit
open Go.Sort (PermIn SortedIn swp permIn_all permIn_refl permIn_trans permIn_mono swp_permIn)

theorem Fit.perm {b : Bool} {d d' : Array Tg} {lo hi : Nat} (h : Fit b d) (p : PermIn lo hi d d') (hh : hi ≤ d.size) : Fit b d' := fun k hk => by
  by_cases hin : lo ≤ k ∧ k < hi
  · exact permIn_all d d' lo hi (fun x => OkT b x.1) hh p (fun i h1 h2 => h i (by omega)) k hin.1 hin.2
  · rw [p.2.1 k (by omega)]
    exact h k (by rw [← p.1]; exact hk)

set_option maxHeartbeats 4000000 in
set_option maxRecDepth 100000 in
theorem rotate_any (w0 : World) (blk cap a m hi sz : Nat) (d : Array Tg) (cf : Value) (w : World) (hs : d.size = sz) (h63 : sz ≤ 4611686018427387904) (ham : a < m) (hmh : m < hi) (hh : hi ≤ sz) (h : St w0 blk d w) :
    Calls Tryd.prog 84 #[.slice (some ⟨blk, 0, none⟩) sz cap, .int .i64 a, .int .i64 m, .int .i64 hi, cf] w fun e w' => e = .returned (.tuple #[]) ∧ ∃ d', St w0 blk d' w' ∧ PermIn a hi d d' ∧ ∀ k, d'[k]! = d[rotI a (m - a) (hi - m) k]! := by
  have HST := Lib.hid h
  have HS := Lib.hid hs
  have C := Lib.hid fun (dk : Array Tg) (x y n : Nat) (w1 : World) (h1 : dk.size = sz) (h2 : x + n ≤ y) (h3 : y + n ≤ sz) (h4 : St w0 blk dk w1) => swapRange_any w0 blk cap x y n sz dk cf w1 h1 h63 h2 h3 h4
  clear h hs
  go_enter Tryd.func84, Tryd.ntmps84
  go_wp2_with fail
  go_loopw [10, 11] (fun u v wr => ∃ (i j : Nat) (dk : Array Tg), u = .int .i64 i ∧ v = .int .i64 j ∧ 0 < i ∧ 0 < j ∧ a + i ≤ m ∧ m + j ≤ hi ∧ dk.size = sz ∧ St w0 blk dk wr ∧ PermIn a hi d dk ∧ ∀ k, dk[rotI (m - i) i j k]! = d[rotI a (m - a) (hi - m) k]!) (fun u v _ => (Lib.intOf u).toNat + (Lib.intOf v).toNat)
  case atStart => exact ⟨m - a, hi - m, d, by go_num, by go_num, by omega, by omega, by omega, by omega, HS.out, HST.out, permIn_refl _ _ _, fun k => by rw [show m - (m - a) = a by omega]⟩
  case round =>
    obtain ⟨i, j, dk, rfl, rfl, hi0, hj0, hia, hjh, hsk, hst, hp, hrot⟩ := hrel
    have HSTK := Lib.hid hst
    have HP := Lib.hid hp
    have HR := Lib.hid hrot
    clear hst hp hrot
    by_cases hij : i = j
    · subst hij
      go_wp2_with fail
      rw [show (m : Int) - (i : Int) = ((m - i : Nat) : Int) by omega]
      refine (C.out dk (m - i) m i _ hsk (by omega) (by omega) HSTK.out).mono ?_
      rintro e w1 ⟨rfl, hst1⟩
      go_wp2_with fail
      go_end0
      refine ⟨rfl, _, hst1, ?_, fun k => ?_⟩
      · exact permIn_trans _ _ _ _ _ HP.out (swpR_perm dk (m - i) m a hi i (by omega) (by omega) (by omega) (by omega))
      · rw [← HR.out k]
        have := rot_last dk (m - i) i (by omega) k
        rw [show m - i + i = m by omega] at this
        exact this
    · have hne : ((i : Int) == (j : Int)) = false := by simp; omega
      by_cases hgt : j < i
      · have hgz : (j : Int) < (i : Int) := by omega
        go_wp2_with fail
        rw [show (m : Int) - (i : Int) = ((m - i : Nat) : Int) by omega]
        refine (C.out dk (m - i) m j _ hsk (by omega) (by omega) HSTK.out).mono ?_
        rintro e w1 ⟨rfl, hst1⟩
        have HST1 := Lib.hid hst1
        clear hst1
        go_wp2_with fail
        refine ⟨⟨i - j, j, _, by go_num, by go_num, by omega, hj0, by omega, hjh, by rw [swpR_size]; exact hsk, HST1.out, permIn_trans _ _ _ _ _ HP.out (swpR_perm dk (m - i) m a hi j (by omega) (by omega) (by omega) (by omega)), fun k => ?_⟩, by simp [Lib.intOf]; omega⟩
        rw [← HR.out k]
        have := rot_left dk (m - i) i j hgt (by omega) k
        rw [show m - i + i = m by omega, show m - i + j = m - (i - j) by omega] at this
        exact this
      · have hgz : ¬ (j : Int) < (i : Int) := by omega
        go_wp2_with fail
        rw [show (m : Int) - (i : Int) = ((m - i : Nat) : Int) by omega, show (m : Int) + (j : Int) - (i : Int) = ((m + j - i : Nat) : Int) by omega]
        refine (C.out dk (m - i) (m + j - i) i _ hsk (by omega) (by omega) HSTK.out).mono ?_
        rintro e w1 ⟨rfl, hst1⟩
        have HST1 := Lib.hid hst1
        clear hst1
        go_wp2_with fail
        refine ⟨⟨i, j - i, _, by go_num, by go_num, hi0, by omega, hia, by omega, by rw [swpR_size]; exact hsk, HST1.out, permIn_trans _ _ _ _ _ HP.out (swpR_perm dk (m - i) (m + j - i) a hi i (by omega) (by omega) (by omega) (by omega)), fun k => ?_⟩, by simp [Lib.intOf]; omega⟩
        rw [← HR.out k]
        have := rot_right dk (m - i) i j (by omega) (by omega) k
        rw [show m - i + j = m + j - i by omega] at this
        exact this
end Go.Proofs.YtcjakmafojbhlaaDoor
namespace Go.Proofs.YtcjakmafojbhlaaDoor
set_option linter.unusedVariables false
set_option linter.unusedSimpArgs false
open Go.RowKit
open Go.Sort (PermIn SortedIn swp permIn_all permIn_refl permIn_trans permIn_mono swp_permIn)

/-- What is said of a merge of two runs, side by side. -/
def MergeDoes (w0 : World) (blk : Nat) (b : Bool) (a hi : Nat) (d : Array Tg) (e : Ending) (w' : World) : Prop := e = .returned (.tuple #[]) ∧ ∃ d', St w0 blk d' w' ∧ PermIn a hi d d' ∧ SortedIn (ltB b) a hi d'

/-- One exchange more: the first element goes one place up. -/
theorem rot_up (a k : Nat) (d dk : Array Tg) (hak : a ≤ k) (hk : k + 1 < dk.size) (h : ∀ x, dk[x]! = d[rotI a 1 (k - a) x]!) (x : Nat) : (swp dk k (k + 1))[x]! = d[rotI a 1 (k + 1 - a) x]! := by
  rw [Go.Sort.swp_get dk (by omega) hk, h, h, h]
  unfold rotI
  repeat' split
  all_goals first | rfl | omega | (congr 1; omega)
/-- One exchange more: the last element goes one place down. -/
theorem rot_down (m k : Nat) (d dk : Array Tg) (hkm : k + 1 ≤ m) (hm : m < dk.size) (h : ∀ x, dk[x]! = d[rotI (k + 1) (m - (k + 1)) 1 x]!) (x : Nat) : (swp dk (k + 1) k)[x]! = d[rotI k (m - k) 1 x]! := by
  rw [Go.Sort.swp_get dk (by omega) (by omega), h, h, h]
  unfold rotI
  repeat' split
  all_goals first | rfl | omega | (congr 1; omega)

set_option maxHeartbeats 4000000 in
set_option maxRecDepth 100000 in
theorem sym_left (w0 : World) (blk pc cap a m hi sz : Nat) (hm : m = a + 1) (b : Bool) (d : Array Tg) (w : World) (C : CmpC w0 blk pc b) (hs : d.size = sz) (h63 : sz ≤ 4611686018427387903) (hmh : a + 1 < hi) (hh : hi ≤ sz) (hf : Fit b d) (h2 : SortedIn (ltB b) (a + 1) hi d) (ht : Apart a (a + 1) hi d) (h : St w0 blk d w) :
    Calls Tryd.prog 81 #[.slice (some ⟨blk, 0, none⟩) sz cap, .int .i64 a, .int .i64 m, .int .i64 hi, sortFn pc] w (MergeDoes w0 blk b a hi d) := by
  unfold MergeDoes
  have hb : ((m : Int) - (a : Int) == 1) = true := by simp; omega
  have HM := Lib.hid hm
  have hm1 : a < m := by omega
  have hm2 : m < hi := by omega
  have HST := Lib.hid h
  have HS := Lib.hid hs
  have HF := Lib.hid hf
  have HC := Lib.hid C
  have H2 := Lib.hid h2
  have HT := Lib.hid ht
  have eg := enters_sorted1
  have hmx : Tryd.prog.follows .mixedOrders = true := by kernel_rfl
  clear h hs hf C h2 ht hm hmh
  go_enter Tryd.func81, Tryd.ntmps81
  go_wp2_with fail
  go_loopw [10, 11] (fun u v wr => ∃ i j : Nat, u = .int .i64 i ∧ v = .int .i64 j ∧ m ≤ i ∧ i ≤ j ∧ j ≤ hi ∧ (i = m ∨ Tm.cmpK b d[i - 1]!.1 d[a]!.1 < 0) ∧ (j = hi ∨ 0 ≤ Tm.cmpK b d[j]!.1 d[a]!.1) ∧ St w0 blk d wr) (fun u v _ => (Lib.intOf v).toNat - (Lib.intOf u).toNat)
  case atStart => exact ⟨m, hi, rfl, rfl, Nat.le_refl _, by omega, Nat.le_refl _, .inl rfl, .inl rfl, HST.out⟩
  case round =>
    obtain ⟨i, j, rfl, rfl, hmi, hij, hjh, k1, k2, hst⟩ := hrel
    have K1 := Lib.hid k1
    have K2 := Lib.hid k2
    clear k1 k2
    by_cases hlt : i < j
    · obtain ⟨q, hq⟩ : ∃ q, q = (i + j) / 2 := ⟨_, rfl⟩
      have hqi : i ≤ q := by omega
      have hqj : q < j := by omega
      have hsz := HS.out
      obtain ⟨A, c, ni⟩ := hst.row q (by omega)
      obtain ⟨B, e, nj⟩ := hst.row a (by omega)
      have hcall := HC.out.at hst (HF.out q (by omega)) (HF.out a (by omega)) ni nj
      have hblk : blk < wr.heap.size := Nat.lt_of_lt_of_le hst.lt hst.only.size
      have y0 := cell_bw (a := ⟨blk, q * 4, none⟩) hblk ni.kind
      have y1 := cell_bw (a := ⟨blk, q * 4 + 1, none⟩) hblk ni.num
      have y2 := cell_bw (a := ⟨blk, q * 4 + 2, none⟩) hblk ni.name
      have y3 := cell_bw (a := ⟨blk, q * 4 + 3, none⟩) hblk ni.args
      have z0 := cell_bw (a := ⟨blk, a * 4, none⟩) hblk nj.kind
      have z1 := cell_bw (a := ⟨blk, a * 4 + 1, none⟩) hblk nj.num
      have z2 := cell_bw (a := ⟨blk, a * 4 + 2, none⟩) hblk nj.name
      have z3 := cell_bw (a := ⟨blk, a * 4 + 3, none⟩) hblk nj.args
      have HSTR := Lib.hid hst
      have HQ := Lib.hid hq
      clear hq
      obtain ⟨cv, hcv⟩ : ∃ cv, cv = Tm.cmpK b d[q]!.1 d[a]!.1 := ⟨_, rfl⟩
      rw [← hcv] at hcall
      have HCV := Lib.hid hcv
      clear hst ni nj hcv
      by_cases hlv : cv < 0
      · go_wp2_with fail
        rw [show ((i : Int) + (j : Int)) / 2 = (q : Int) by have := HQ.out; omega]
        refine wp_region_bw hmx (by kernel_rfl) ?_
        repeat (go_big_quiet_step (exact calls_bw (hcall _)))
        refine wpQuiet_nil ?_
        intro _ hw'
        obtain ⟨pq, hw''⟩ := hw'
        subst hw''
        go_wp2
        exact ⟨⟨q + 1, j, by go_num, rfl, by omega, by omega, hjh, .inr (by rw [Nat.add_sub_cancel, ← HCV.out]; exact hlv), K2.out, HSTR.out.below pq.ok⟩, by simp [Lib.intOf]; omega⟩
      · go_wp2_with fail
        rw [show ((i : Int) + (j : Int)) / 2 = (q : Int) by have := HQ.out; omega]
        refine wp_region_bw hmx (by kernel_rfl) ?_
        repeat (go_big_quiet_step (exact calls_bw (hcall _)))
        refine wpQuiet_nil ?_
        intro _ hw'
        obtain ⟨pq, hw''⟩ := hw'
        subst hw''
        go_wp2
        exact ⟨⟨i, q, rfl, rfl, hmi, hqi, by omega, K1.out, .inr (by rw [← HCV.out]; omega), HSTR.out.below pq.ok⟩, by simp [Lib.intOf]; omega⟩
    · obtain rfl : i = j := by omega
      have HSTI := Lib.hid hst
      clear hst
      go_wp2_with fail
      go_loopw [13] (fun u wr => ∃ (k : Nat) (dk : Array Tg), u = .int .i64 k ∧ a ≤ k ∧ k ≤ i - 1 ∧ dk.size = sz ∧ St w0 blk dk wr ∧ PermIn a hi d dk ∧ ∀ x, dk[x]! = d[rotI a 1 (k - a) x]!) (fun u _ => i - (Lib.intOf u).toNat)
      case atStart => exact ⟨a, d, rfl, Nat.le_refl _, by omega, HS.out, HSTI.out, permIn_refl _ _ _, fun x => by unfold rotI; rw [if_neg (by omega)]; split <;> simp⟩
      case round =>
        obtain ⟨k, dk, rfl, hak, hki, hsk, hst, hp, hrot⟩ := hrel
        have HP := Lib.hid hp
        have HR := Lib.hid hrot
        clear hp hrot
        by_cases hlt : k < i - 1
        · obtain ⟨A, c, ni⟩ := hst.row k (by omega)
          obtain ⟨B, e, nj⟩ := hst.row (k + 1) (by omega)
          have hfin := hst.swap (i := k) (j := k + 1) (by omega) (by omega) (by omega) ni nj
          have hblk : blk < wr.heap.size := Nat.lt_of_lt_of_le hst.lt hst.only.size
          have f0 := hst.soft (k * 4)
          have f1 := hst.soft (k * 4 + 1)
          have f2 := hst.soft (k * 4 + 2)
          have f3 := hst.soft (k * 4 + 3)
          have g0 := hst.soft ((k + 1) * 4)
          have g1 := hst.soft ((k + 1) * 4 + 1)
          have g2 := hst.soft ((k + 1) * 4 + 2)
          have g3 := hst.soft ((k + 1) * 4 + 3)
          have y0 := ni.kind
          have y1 := ni.num
          have y2 := ni.name
          have y3 := ni.args
          have z0 := nj.kind
          have z1 := nj.num
          have z2 := nj.name
          have z3 := nj.args
          have hltz : (k : Int) < (i : Int) - 1 := by omega
          generalize dk[k]!.1.1 = p at *
          generalize Tm.len dk[k]!.1.2 = lp at *
          generalize dk[k + 1]!.1.1 = q at *
          generalize Tm.len dk[k + 1]!.1.2 = lq at *
          have HFIN := Lib.hid hfin
          clear hfin ni nj hst
          go_wp2_with fail
          go_big_region_o
          all_goals go_wp2
          refine ⟨⟨k + 1, _, by go_num, by omega, by omega, by rw [Go.Sort.size_swp]; exact hsk, HFIN.out.drew, permIn_trans _ _ _ _ _ HP.out (swp_permIn _ a hi k (k + 1) (by omega) (by omega) (by omega) (by omega) (by omega)), fun x => ?_⟩, by simp [Lib.intOf]; omega⟩
          exact rot_up a k d dk (by omega) (by omega) HR.out x
        · have HP2 := Lib.hid hst
          clear hst
          have hltz : ¬ (k : Int) < (i : Int) - 1 := by omega
          go_wp2_with fail
          refine bodyPost_ret (results_none rfl _ _ _) rfl ?_
          refine ⟨rfl, dk, HP2.out, HP.out, ?_⟩
          have hmo := HM.out
          subst hmo
          exact one_left H2.out HT.out hmi hjh K1.out (K2.out.imp id fun h => by omega) fun x => by rw [HR.out x, show k - a = i - (a + 1) by omega]
end Go.Proofs.YtcjakmafojbhlaaDoor
namespace Go.Proofs.YtcjakmafojbhlaaDoor
set_option linter.unusedVariables false
set_option linter.unusedSimpArgs false
open Go.RowKit
open Go.Sort (PermIn SortedIn swp permIn_all permIn_refl permIn_trans permIn_mono swp_permIn)

set_option maxHeartbeats 4000000 in
set_option maxRecDepth 100000 in
theorem sym_right (w0 : World) (blk pc cap a m hi sz : Nat) (hm : hi = m + 1) (ham : a + 1 < m) (b : Bool) (d : Array Tg) (w : World) (C : CmpC w0 blk pc b) (hs : d.size = sz) (h63 : sz ≤ 4611686018427387903) (hh : hi ≤ sz) (hf : Fit b d) (h2 : SortedIn (ltB b) a m d) (ht : Apart a m hi d) (h : St w0 blk d w) :
    Calls Tryd.prog 81 #[.slice (some ⟨blk, 0, none⟩) sz cap, .int .i64 a, .int .i64 m, .int .i64 hi, sortFn pc] w (MergeDoes w0 blk b a hi d) := by
  unfold MergeDoes
  have hb0 : ((m : Int) - (a : Int) == 1) = false := by simp; omega
  have hb : ((hi : Int) - (m : Int) == 1) = true := by simp; omega
  have HM := Lib.hid hm
  have hm2 : m < hi := by omega
  have HST := Lib.hid h
  have HS := Lib.hid hs
  have HF := Lib.hid hf
  have HC := Lib.hid C
  have H2 := Lib.hid h2
  have HT := Lib.hid ht
  have eg := enters_sorted1
  have hmx : Tryd.prog.follows .mixedOrders = true := by kernel_rfl
  clear h hs hf C h2 ht hm
  go_enter Tryd.func81, Tryd.ntmps81
  go_wp2_with fail
  go_loopw [14, 15] (fun u v wr => ∃ i j : Nat, u = .int .i64 i ∧ v = .int .i64 j ∧ a ≤ i ∧ i ≤ j ∧ j ≤ m ∧ (i = a ∨ 0 ≤ Tm.cmpK b d[m]!.1 d[i - 1]!.1) ∧ (j = m ∨ Tm.cmpK b d[m]!.1 d[j]!.1 < 0) ∧ St w0 blk d wr) (fun u v _ => (Lib.intOf v).toNat - (Lib.intOf u).toNat)
  case atStart => exact ⟨a, m, rfl, rfl, Nat.le_refl _, by omega, Nat.le_refl _, .inl rfl, .inl rfl, HST.out⟩
  case round =>
    obtain ⟨i, j, rfl, rfl, hmi, hij, hjh, k1, k2, hst⟩ := hrel
    have K1 := Lib.hid k1
    have K2 := Lib.hid k2
    clear k1 k2
    by_cases hlt : i < j
    · obtain ⟨q, hq⟩ : ∃ q, q = (i + j) / 2 := ⟨_, rfl⟩
      have hqi : i ≤ q := by omega
      have hqj : q < j := by omega
      have hsz := HS.out
      obtain ⟨A, c, ni⟩ := hst.row m (by omega)
      obtain ⟨B, e, nj⟩ := hst.row q (by omega)
      have hcall := HC.out.at hst (HF.out m (by omega)) (HF.out q (by omega)) ni nj
      have hblk : blk < wr.heap.size := Nat.lt_of_lt_of_le hst.lt hst.only.size
      have y0 := cell_bw (a := ⟨blk, m * 4, none⟩) hblk ni.kind
      have y1 := cell_bw (a := ⟨blk, m * 4 + 1, none⟩) hblk ni.num
      have y2 := cell_bw (a := ⟨blk, m * 4 + 2, none⟩) hblk ni.name
      have y3 := cell_bw (a := ⟨blk, m * 4 + 3, none⟩) hblk ni.args
      have z0 := cell_bw (a := ⟨blk, q * 4, none⟩) hblk nj.kind
      have z1 := cell_bw (a := ⟨blk, q * 4 + 1, none⟩) hblk nj.num
      have z2 := cell_bw (a := ⟨blk, q * 4 + 2, none⟩) hblk nj.name
      have z3 := cell_bw (a := ⟨blk, q * 4 + 3, none⟩) hblk nj.args
      have HSTR := Lib.hid hst
      have HQ := Lib.hid hq
      clear hq
      obtain ⟨cv, hcv⟩ : ∃ cv, cv = Tm.cmpK b d[m]!.1 d[q]!.1 := ⟨_, rfl⟩
      rw [← hcv] at hcall
      have HCV := Lib.hid hcv
      clear hst ni nj hcv
      by_cases hlv : cv < 0
      · go_wp2_with fail
        rw [show ((i : Int) + (j : Int)) / 2 = (q : Int) by have := HQ.out; omega]
        refine wp_region_bw hmx (by kernel_rfl) ?_
        repeat (go_big_quiet_step (exact calls_bw (hcall _)))
        refine wpQuiet_nil ?_
        intro _ hw'
        obtain ⟨pq, hw''⟩ := hw'
        subst hw''
        go_wp2
        exact ⟨⟨i, q, rfl, rfl, hmi, hqi, by omega, K1.out, .inr (by rw [← HCV.out]; exact hlv), HSTR.out.below pq.ok⟩, by simp [Lib.intOf]; omega⟩
      · have hlv2 : (!decide (cv < 0)) = true := by simp; omega
        go_wp2_with fail
        rw [show ((i : Int) + (j : Int)) / 2 = (q : Int) by have := HQ.out; omega]
        refine wp_region_bw hmx (by kernel_rfl) ?_
        repeat (go_big_quiet_step (exact calls_bw (hcall _)))
        refine wpQuiet_nil ?_
        intro _ hw'
        obtain ⟨pq, hw''⟩ := hw'
        subst hw''
        go_wp2
        exact ⟨⟨q + 1, j, by go_num, rfl, by omega, by omega, hjh, .inr (by rw [Nat.add_sub_cancel, ← HCV.out]; omega), K2.out, HSTR.out.below pq.ok⟩, by simp [Lib.intOf]; omega⟩
    · obtain rfl : i = j := by omega
      have HSTI := Lib.hid hst
      clear hst
      go_wp2_with fail
      go_loopw [17] (fun u wr => ∃ (k : Nat) (dk : Array Tg), u = .int .i64 k ∧ i ≤ k ∧ k ≤ m ∧ dk.size = sz ∧ St w0 blk dk wr ∧ PermIn a hi d dk ∧ ∀ x, dk[x]! = d[rotI k (m - k) 1 x]!) (fun u _ => (Lib.intOf u).toNat)
      case atStart => exact ⟨m, d, rfl, hjh, Nat.le_refl _, HS.out, HSTI.out, permIn_refl _ _ _, fun x => by unfold rotI; congr 1; split <;> (try split) <;> omega⟩
      case round =>
        obtain ⟨k, dk, rfl, hik, hkm, hsk, hst, hp, hrot⟩ := hrel
        have HP := Lib.hid hp
        have HR := Lib.hid hrot
        clear hp hrot
        by_cases hlt : i < k
        · obtain ⟨kp, rfl⟩ : ∃ kp, k = kp + 1 := ⟨k - 1, by omega⟩
          have jz1 : (kp : Int) < (sz : Int) := by omega
          have jz : (kp : Int) + 1 < (sz : Int) := by omega
          have hltz : (i : Int) < (kp : Int) + 1 := by omega
          have p0 : (0 : Int) ≤ (kp : Int) + 1 := by omega
          have e0 : ((kp : Int) + 1).toNat = kp + 1 := by omega
          obtain ⟨A, c, ni⟩ := hst.row (kp + 1) (by omega)
          obtain ⟨B, e, nj⟩ := hst.row kp (by omega)
          have hfin := hst.swap (i := kp + 1) (j := kp) (by omega) (by omega) (by omega) ni nj
          have hblk : blk < wr.heap.size := Nat.lt_of_lt_of_le hst.lt hst.only.size
          have f0 := hst.soft ((kp + 1) * 4)
          have f1 := hst.soft ((kp + 1) * 4 + 1)
          have f2 := hst.soft ((kp + 1) * 4 + 2)
          have f3 := hst.soft ((kp + 1) * 4 + 3)
          have g0 := hst.soft (kp * 4)
          have g1 := hst.soft (kp * 4 + 1)
          have g2 := hst.soft (kp * 4 + 2)
          have g3 := hst.soft (kp * 4 + 3)
          have y0 := ni.kind
          have y1 := ni.num
          have y2 := ni.name
          have y3 := ni.args
          have z0 := nj.kind
          have z1 := nj.num
          have z2 := nj.name
          have z3 := nj.args
          generalize dk[kp + 1]!.1.1 = p at *
          generalize Tm.len dk[kp + 1]!.1.2 = lp at *
          generalize dk[kp]!.1.1 = q at *
          generalize Tm.len dk[kp]!.1.2 = lq at *
          have HFIN := Lib.hid hfin
          clear hfin ni nj hst
          go_wp2_with fail
          go_big_region_o
          all_goals go_wp2
          refine ⟨⟨kp, _, by first | rfl | go_num, by omega, by omega, by rw [Go.Sort.size_swp]; exact hsk, HFIN.out.drew, permIn_trans _ _ _ _ _ HP.out (swp_permIn _ a hi (kp + 1) kp (by omega) (by omega) (by omega) (by omega) (by omega)), fun x => ?_⟩, by simp [Lib.intOf]⟩
          exact rot_down m kp d dk (by omega) (by omega) HR.out x
        · obtain rfl : k = i := by omega
          have HP2 := Lib.hid hst
          clear hst
          go_wp2_with fail
          refine bodyPost_ret (results_none rfl _ _ _) rfl ?_
          refine ⟨rfl, dk, HP2.out, HP.out, ?_⟩
          have hmo := HM.out
          subst hmo
          exact one_right H2.out HT.out hmi hkm (K1.out.imp id fun h => by omega) K2.out HR.out
end Go.Proofs.YtcjakmafojbhlaaDoor
namespace Go.Proofs.YtcjakmafojbhlaaDoor
set_option linter.unusedVariables false
set_option linter.unusedSimpArgs false
open Go.RowKit

section
variable {ops : Array Oper} {Q : Exit → Act → World → Prop} {E : Nat → Kd} {D : Nat → Nat} {base : Nat → Option Kd} {N : Nat}

theorem step_conv_u {i : Nat} {x : Operand} {n : Nat} (hn : n ≤ 9223372036854775807) (hop : (ops[i]?).map (·.op) = some (.convert 3 61 x)) (hx : Opd ops E D base N i x (.val (.int .i64 (n : Int)))) (hE : E i = .val (.int .u64 (n : Int))) : Step Tryd.prog ops Q E D base N i :=
  step_still hop hE fun a w h dst ty' pos after guard => by
    have e : a.eval x = .int .i64 (n : Int) := hx a w h
    refine ⟨.int .u64 (n : Int), ?_, rfl⟩
    unfold execOp
    simp only [e]
    go_simp
    rw [IntKind.wrap_u64]
    omega
theorem step_conv_i {i : Nat} {x : Operand} {n : Nat} (hn : n ≤ 9223372036854775807) (hop : (ops[i]?).map (·.op) = some (.convert 61 3 x)) (hx : Opd ops E D base N i x (.val (.int .u64 (n : Int)))) (hE : E i = .val (.int .i64 (n : Int))) : Step Tryd.prog ops Q E D base N i :=
  step_still hop hE fun a w h dst ty' pos after guard => by
    have e : a.eval x = .int .u64 (n : Int) := hx a w h
    refine ⟨.int .i64 (n : Int), ?_, rfl⟩
    unfold execOp
    simp only [e]
    go_simp
    rw [IntKind.wrap_i64]
    omega
theorem step_half {i : Nat} {x : Operand} {n : Nat} (hn : n ≤ 9223372036854775807) (hop : (ops[i]?).map (·.op) = some (.binOp .shr 61 x (.const (.int .u64 1)) 61)) (hx : Opd ops E D base N i x (.val (.int .u64 (n : Int)))) (hE : E i = .val (.int .u64 ((n / 2 : Nat) : Int))) : Step Tryd.prog ops Q E D base N i :=
  step_still hop hE fun a w h dst ty' pos after guard => by
    have e : a.eval x = .int .u64 (n : Int) := hx a w h
    refine ⟨.int .u64 ((n / 2 : Nat) : Int), ?_, rfl⟩
    unfold execOp
    simp only [e, show a.eval (.const (.int .u64 1)) = .int .u64 1 from rfl]
    go_simp
    try omega
theorem step_eqb_bool {i : Nat} {x y : Operand} {m n b : Bool} (hop : (ops[i]?).map (·.op) = some (.binOp .eql 4 x y 4)) (hx : Opd ops E D base N i x (.val (.bool m))) (hy : Opd ops E D base N i y (.val (.bool n))) (hb : (m == n) = b) (hE : E i = .val (.bool b)) : Step Tryd.prog ops Q E D base N i :=
  step_still hop hE fun a w h dst ty' pos after guard => by
    have e : a.eval x = .bool m := hx a w h
    have e' : a.eval y = .bool n := hy a w h
    refine ⟨.bool b, ?_, rfl⟩
    rw [← hb]
    unfold execOp
    simp only [e, e']
    cases m <;> cases n <;> go_simp
theorem step_ne_bool {i : Nat} {x y : Operand} {m n b : Bool} (hop : (ops[i]?).map (·.op) = some (.binOp .neq 4 x y 4)) (hx : Opd ops E D base N i x (.val (.bool m))) (hy : Opd ops E D base N i y (.val (.bool n))) (hb : (m != n) = b) (hE : E i = .val (.bool b)) : Step Tryd.prog ops Q E D base N i :=
  step_still hop hE fun a w h dst ty' pos after guard => by
    have e : a.eval x = .bool m := hx a w h
    have e' : a.eval y = .bool n := hy a w h
    refine ⟨.bool b, ?_, rfl⟩
    rw [← hb]
    unfold execOp
    simp only [e, e']
    cases m <;> cases n <;> go_simp <;> exact hb.symm
/-- A call of a function value. -/
theorem step_callv {i : Nat} {t : Tmp} {f : Nat} {cap : Array Value} {xs : Array Operand} {tys : Array TypeId} (hop : (ops[i]?).map (·.op) = some (.call { callee := .value (.tmp t), args := xs, argTypes := tys })) (ht : Opd ops E D base N i (.tmp t) (.val (.func (.func f) #[] cap))) (he : ∀ (args : Array Value) (w : World), (callFunc f args).run Tryd.prog w = .ok (.enter f args) w)
    (hc : ∀ a w, Ctx ops E D base N i a w → Calls Tryd.prog f (xs.map a.eval ++ cap) w fun e w' => ∃ v, e = .returned v ∧ (E i).R v w' ∧ Below w.heap.size w w') : Step Tryd.prog ops Q E D base N i := by
  intro o ho a w h K hK
  have hxo := op_of ho hop
  obtain ⟨dst, op, ty, pos, after, guard⟩ := o
  have hx' : op = _ := hxo
  subst hx'
  have et : a.eval (.tmp t) = .func (.func f) #[] cap := ht a w h
  have hrun : (execOp a.eval ⟨dst, .call { callee := .value (.tmp t), args := xs, argTypes := tys }, ty, pos, after, guard⟩).run Tryd.prog w = .ok (.enter f (xs.map a.eval ++ cap)) w := by
    have h1 : (execOp a.eval ⟨dst, .call { callee := .value (.tmp t), args := xs, argTypes := tys }, ty, pos, after, guard⟩).run Tryd.prog w = (callFunc f ((#[] ++ xs.map a.eval) ++ cap)).run Tryd.prog w := by
      unfold execOp
      simp only [resolve, et]
      rfl
    rw [h1, Array.empty_append]
    exact he _ w
  unfold Oper.wp
  rw [hrun]
  show Calls _ _ _ _ _
  refine (hc a w h).mono ?_
  rintro e w' ⟨v, rfl, hv, hb⟩
  exact hK v w' hv hb
theorem step_rowErr0 {i : Nat} {x : Operand} {F : Fo} {n : Int} (hop : (ops[i]?).map (·.op) = some (.extract x 0)) (hx : Opd ops E D base N i x (.rowErr F n)) (hE : E i = .row F) : Step Tryd.prog ops Q E D base N i :=
  step_still hop hE fun a w h dst ty' pos after guard => by
    obtain ⟨A, c, e, ha⟩ := hx a w h
    refine ⟨.slice A (Tm.len F) c, ?_, A, c, rfl, ha⟩
    unfold execOp
    simp only [e]
    go_simp
theorem step_rowErr1 {i : Nat} {x : Operand} {F : Fo} {n : Int} (hop : (ops[i]?).map (·.op) = some (.extract x 1)) (hx : Opd ops E D base N i x (.rowErr F n)) (hE : E i = .val (.int .i64 n)) : Step Tryd.prog ops Q E D base N i :=
  step_still hop hE fun a w h dst ty' pos after guard => by
    obtain ⟨A, c, e, ha⟩ := hx a w h
    refine ⟨.int .i64 n, ?_, rfl⟩
    unfold execOp
    simp only [e]
    go_simp
theorem step_two0 {i : Nat} {x : Operand} {u v : Value} (hop : (ops[i]?).map (·.op) = some (.extract x 0)) (hx : Opd ops E D base N i x (.val (.tuple #[u, v]))) (hE : E i = .val u) : Step Tryd.prog ops Q E D base N i :=
  step_still hop hE fun a w h dst ty' pos after guard => by
    have e : a.eval x = .tuple #[u, v] := hx a w h
    refine ⟨u, ?_, rfl⟩
    unfold execOp
    simp only [e]
    go_simp
theorem step_two1 {i : Nat} {x : Operand} {u v : Value} (hop : (ops[i]?).map (·.op) = some (.extract x 1)) (hx : Opd ops E D base N i x (.val (.tuple #[u, v]))) (hE : E i = .val v) : Step Tryd.prog ops Q E D base N i :=
  step_still hop hE fun a w h dst ty' pos after guard => by
    have e : a.eval x = .tuple #[u, v] := hx a w h
    refine ⟨v, ?_, rfl⟩
    unfold execOp
    simp only [e]
    go_simp
/-- The last operation of a region is a call, whatever it does to the world. -/
theorem env_call {env : Env} {w0 w : World} {a : Act} {i d f : Nat} {xs : Array Operand} {tys : Array TypeId} {vs : Array Value} {R : Ending → World → Prop} (hop : (ops[i]?).map (fun o => (o.op, o.dst, o.guard)) = some (.call { callee := .value (.func f), args := xs, argTypes := tys }, some d, none)) (he : ∀ (args : Array Value) (w : World), (callFunc f args).run Tryd.prog w = .ok (.enter f args) w)
    (hxs : xs.map a.eval = vs) (hc : Calls Tryd.prog f vs w R) (h : ∀ e w', R e w' → ∃ v, e = .returned v ∧ Q .normal (a.put (some d) v) w') : wpOps Tryd.prog ops Q [i] a w := by
  cases ho : ops[i]? with
  | none => rw [ho] at hop; cases hop
  | some o =>
    rw [ho] at hop
    have hop := Option.some.inj hop
    obtain ⟨dst, op, ty, pos, after, guard⟩ := o
    simp only [Prod.mk.injEq] at hop
    obtain ⟨e1, e2, e3⟩ := hop
    subst e1 e2 e3
    simp only [wpOps, ho, wanted_free (o := ⟨some d, _, ty, pos, after, none⟩) rfl, if_true]
    refine .inl ?_
    have hrun : (execOp a.eval ⟨some d, .call { callee := .value (.func f), args := xs, argTypes := tys }, ty, pos, after, none⟩).run Tryd.prog w = .ok (.enter f (xs.map a.eval)) w := by
      have h1 : (execOp a.eval ⟨some d, .call { callee := .value (.func f), args := xs, argTypes := tys }, ty, pos, after, none⟩).run Tryd.prog w = (callFunc f ((#[] ++ xs.map a.eval) ++ #[])).run Tryd.prog w := rfl
      rw [h1, Array.empty_append, Array.append_empty]
      exact he _ w
    unfold Oper.wp
    rw [hrun, hxs]
    show Calls _ _ _ _ _
    refine hc.mono ?_
    intro e w' hr
    obtain ⟨v, rfl, hq⟩ := h e w' hr
    exact hq
/-- The slots, the world let go. -/
theorem Hold.here {env : Env} {w0 w : World} {a : Act} (h : Hold N env w0 a w) : Hold N env w a w := ⟨h.size, h.defers, Below.refl _ _, h.slots⟩
/-- .. in another world, where all slots that count hold mere values. -/
def Kd.isVal : Kd → Bool
  | .val _ => true
  | _ => false
theorem Hold.move {env : Env} {w0 w w' : World} {a : Act} {d : Nat} {v : Value} (h : Hold N env w0 a w) (hv : env.all (fun e => e.2.isVal) = true) (hd : look env d = none) : Hold N env w' (a.put (some d) v) w' := by
  refine ⟨put_size.trans h.size, h.defers, Below.refl _ _, fun t k hk => ?_⟩
  have hne : t ≠ d := fun e => by subst e; rw [hk] at hd; cases hd
  rw [put_other hne]
  have h1 := h.slots t k hk
  have hval : k.isVal = true := by
    unfold look at hk
    obtain ⟨e, he, rfl⟩ := Option.map_eq_some_iff.1 hk
    exact List.all_eq_true.1 hv e (List.mem_of_find?_eq_some he)
  cases k <;> simp only [Kd.isVal] at hval <;> first | exact h1 | cases hval
end
end Go.Proofs.YtcjakmafojbhlaaDoor
