/-
  Clone of the reference returns a copy in new memory, for any slice of at most 1,000 pairs.
-/
import Derived.Test.YtdlobgnhoiednaaDoorSet
import Derived.Laws.AppendOwnNone
namespace Go.Proofs.YtdlobgnhoiednaaDoor
set_option linter.unusedVariables false
set_option linter.unusedSimpArgs false
open Go.RowKit

/-- A row of the call's own reads as pairs. -/
theorem own_pairs {w : World} {base n : Nat} {v : Value} {L : List (Int × Int)} (h : w.ownsRow base 30 2 v n (cellsOf L)) :
    ∃ A c, v = .slice A n c ∧ n ≤ c ∧ PairsIn w w.heap.size A n L := by
  have hlen : L.length = n := by have := h.1; rw [cellsOf_length] at this; omega
  rcases h.2 with ⟨rfl, rfl⟩ | ⟨g, cap, cur, rfl, hb, hg, hnc, hcm, hcs, htake⟩
  · have : L = [] := List.eq_nil_of_length_eq_zero hlen
    subst this
    exact ⟨none, 0, rfl, Nat.le_refl _, PairsIn.nil _ _ _⟩
  · have hlt : g < w.heap.size := by
      rcases Nat.lt_or_ge g w.heap.size with hlt | hge
      · exact hlt
      · rw [Array.getElem?_eq_none hge] at hg; cases hg
    have ht : Tab w g cap L := ⟨cur.toList, by simpa using hg, by simpa using hcs, by omega, by rw [hlen]; exact htake⟩
    subst hlen
    exact ⟨_, cap, rfl, hnc, ht.pairs hlt⟩

def CloneEnd (w' : World) (L : List (Int × Int)) (e : Ending) : Prop :=
  ∃ A c, e = .returned (.slice A L.length c) ∧ L.length ≤ c ∧ PairsIn w' w'.heap.size A L.length L

set_option maxHeartbeats 1000000 in
theorem clone_nil (w : World) :
    Calls Tryd.prog 21 #[.slice none 0 0] w fun e w' => CloneEnd w' [] e ∧ Below w.heap.size w w' := by
  obtain ⟨i0, hi0, hz0, hz1, hz2⟩ := info_parts pair_info
  have hown : Hid ((w.alloc (.cells #[] 30)).ownsRow w.heap.size 30 2 (.slice (some ⟨w.heap.size, 0, none⟩) 0 0) 0 []) := World.ownsRow_made w #[] 0 (Nat.le_refl _) (by decide) rfl
  go_enter Tryd.func21, Tryd.ntmps21
  go_wp2_with (at_builtin; refine wpList_append_own_none rfl (.tmp 3) (.tmp 4) 31 rfl w.heap.size 30 i0 2 Tryd.underlying31 hi0 _ 0 [] rfl hown.out rfl ?_)
  go_ret
  exact ⟨⟨some ⟨w.heap.size, 0, none⟩, 0, rfl, Nat.le_refl _, PairsIn.nil _ _ _⟩, (Below.refl _ _).alloc (Nat.le_refl _) _⟩

set_option maxHeartbeats 1000000 in
theorem clone_some (a : Addr) (n cap : Nat) (L : List (Int × Int)) (w : World) (hn : n ≤ 1000) (h : PairsIn w w.heap.size (some a) n L) :
    Calls Tryd.prog 21 #[.slice (some a) n cap] w fun e w' => CloneEnd w' L e ∧ Below w.heap.size w w' := by
  obtain ⟨i0, hi0, hz0, hz1, hz2⟩ := info_parts pair_info
  have hown : Hid ((w.alloc (.cells #[] 30)).ownsRow w.heap.size 30 2 (.slice (some ⟨w.heap.size, 0, none⟩) 0 0) 0 []) := World.ownsRow_made w #[] 0 (Nat.le_refl _) (by decide) rfl
  have hl : Hid ((cellsOf L).length = n * 2) := by show (cellsOf L).length = _; rw [cellsOf_length, h.len]
  have hsrc : Hid (∀ j u, (cellsOf L)[j]? = some u → (w.alloc (.cells #[] 30)).cell? (a.add j) = some u) := by
    intro j u hu
    have hpos : 0 < n := by
      have := (List.getElem?_eq_some_iff.1 hu).1
      rw [cellsOf_length, h.len] at this
      omega
    obtain ⟨b, off, he, hb, hc⟩ := h.cells hpos
    injection he with he
    subst he
    rw [add_plain, World.cell?_alloc_lt _ _ _ (by show b < _; omega)]
    exact PairsIn.cell h.len hc j u hu
  have hlen := Lib.hid h.len
  clear h
  go_enter Tryd.func21, Tryd.ntmps21
  go_wp2_with (at_builtin; refine wpList_append_own _ rfl (.tmp 3) (.tmp 4) 31 rfl w.heap.size 30 i0 (.agg #[.int .i64 0, .int .i64 0]) 2 16 Tryd.underlying31 hi0 hz0 hz1 hz2 rfl (by decide) _ 0 [] rfl hown.out a n cap (cellsOf L) rfl hl.out hsrc.out (cellsOf_one _) (by unfold maxLen; omega) (by omega) (by simp) ?_; intro v1 w1 hown1 hg1 _)
  have hb1 : Below w.heap.size w w1 := ((Below.refl w.heap.size w).alloc (Nat.le_refl _) (.cells #[] 30)).grown hg1 (by simp) (fun k hk => by have e : some w.heap.size = some k := hk; injection e with e; omega)
  have HB1 := Lib.hid hb1
  have HO1 := Lib.hid hown1
  clear hown1 hg1 hb1
  go_wp2_with fail
  go_ret
  obtain ⟨A, c, hv, hc, hp⟩ := own_pairs (n := n) (L := L) (by have := HO1.out; simpa using this)
  have hl2 := hlen.out
  subst hl2
  exact ⟨⟨A, c, by rw [← hv]; rfl, hc, hp⟩, HB1.out⟩

end Go.Proofs.YtdlobgnhoiednaaDoor
