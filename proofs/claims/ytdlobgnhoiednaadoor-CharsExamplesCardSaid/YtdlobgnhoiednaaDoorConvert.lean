/-
  Convert of package chars, and Convert of the reference, return what the plain function gives, for any slice of at most 1,000 pairs and any integer.
-/
import Derived.Test.YtdlobgnhoiednaaDoorPosition
import Derived.Test.YtdlobgnhoiednaaDoorRefValid
namespace Go.Proofs.YtdlobgnhoiednaaDoor
set_option linter.unusedVariables false
set_option linter.unusedSimpArgs false
open Go.RowKit

/-- What a table makes of a character. -/
def convP (L : List (Int × Int)) (c : Int) : Int := ((L.find? fun p => p.1 == c).map (·.2)).getD c
def conv (L : List (Int × Int)) (c : Int) : Int := if goodB L && Ch.isCh c then convP L c else 0

theorem getD_at {L : List (Int × Int)} {j : Nat} (h : j < L.length) : L.getD j (0, 0) = L[j] := by
  rw [List.getD_eq_getElem?_getD, List.getElem?_eq_getElem h]; rfl
theorem convP_miss {L : List (Int × Int)} {c : Int} (h : ∀ j, j < L.length → fs L j ≠ c) : convP L c = c := by
  have e : L.find? (fun p => p.1 == c) = none := by
    rw [List.find?_eq_none]
    intro p hp hpc
    obtain ⟨j, hj, rfl⟩ := List.getElem_of_mem hp
    have := h j hj
    unfold fs at this
    rw [getD_at hj] at this
    exact this (by simpa using hpc)
  unfold convP
  rw [e]
  rfl
theorem convP_hit {L : List (Int × Int)} {c : Int} {i : Nat} (hs : Sorted L) (hi : i < L.length) (h : fs L i = c) : convP L c = sn L i := by
  have e : L.find? (fun p => p.1 == c) = some L[i] := by
    rw [List.find?_eq_some_iff_getElem]
    refine ⟨?_, i, hi, rfl, ?_⟩
    · have := h
      unfold fs at this
      rw [getD_at hi] at this
      simpa using this
    · intro j hj
      have h1 := hs j i hj hi
      have h2 : fs L j ≠ c := by omega
      unfold fs at h2
      rw [getD_at (by omega)] at h2
      simpa using h2
  unfold convP sn
  rw [e, getD_at hi]
  rfl
theorem goodB_iff {L : List (Int × Int)} : goodB L = true ↔ Good L := by unfold goodB; exact decide_eq_true_iff
theorem conv_no {L : List (Int × Int)} {c : Int} (h : goodB L = false ∨ Ch.isCh c = false) : conv L c = 0 := by
  unfold conv
  rcases h with h | h <;> rw [h] <;> simp
theorem conv_yes {L : List (Int × Int)} {c : Int} (h1 : goodB L = true) (h2 : Ch.isCh c = true) : conv L c = convP L c := by
  unfold conv
  rw [h1, h2]
  rfl

set_option maxHeartbeats 1000000 in
theorem convert_any (A : Option Addr) (n cap : Nat) (c : Int) (L : List (Int × Int)) (w : World) (hn : n ≤ 1000) (hcap : n ≤ cap) (h : PairsIn w w.heap.size A n L) :
    Calls Tryd.prog 16 #[.slice A n cap, .int .i64 c] w fun e w' => e = .returned (.int .i64 (conv L c)) ∧ Below w.heap.size w w' := by
  have HP := Lib.hid h
  clear h
  cases hg : goodB L
  · have HE := Lib.hid (conv_no (c := c) (.inl hg))
    go_enter Tryd.func16, Tryd.ntmps16
    go_wp2_with fail
    refine (valid_any A n cap L _ hn HP.out).mono ?_
    rintro e w1 ⟨rfl, hb1⟩
    go_wp2_with fail
    go_ret
    exact ⟨by rw [HE.out]; rfl, hb1⟩
  cases hc : Ch.isCh c
  · have HE := Lib.hid (conv_no (L := L) (.inr hc))
    go_enter Tryd.func16, Tryd.ntmps16
    go_wp2_with fail
    refine (valid_any A n cap L _ hn HP.out).mono ?_
    rintro e w1 ⟨rfl, hb1⟩
    go_wp2_with fail
    refine (isChar_any _ _).mono ?_
    rintro e w2 ⟨rfl, rfl⟩
    go_wp2_with fail
    go_ret
    exact ⟨by rw [HE.out]; rfl, hb1⟩
  · have HE := Lib.hid (conv_yes hg hc)
    have HS := Lib.hid (goodB_iff.1 hg).sorted
    go_enter Tryd.func16, Tryd.ntmps16
    go_wp2_with fail
    refine (valid_any A n cap L _ hn HP.out).mono ?_
    rintro e w1 ⟨rfl, hb1⟩
    go_wp2_with fail
    refine (isChar_any _ _).mono ?_
    rintro e w2 ⟨rfl, rfl⟩
    go_wp2_with fail
    refine (position_any A n cap c L _ hn ((HP.out.below hb1).more hb1.size) HS.out).mono ?_
    rintro e w2 ⟨⟨i, hi, rfl⟩, hb2⟩
    have HI := Lib.hid hi
    clear hi
    have HB := Lib.hid (hb1.trans (hb2.mono hb1.size))
    clear hb1 hb2
    cases hh : hitB L c i
    · have hmiss : convP L c = c := convP_miss fun j hj hjc => by
        have hno : ¬ (i < L.length ∧ fs L i = c) := of_decide_eq_false hh
        by_cases hji : j < i
        · have := HI.out.2.1 j hji; omega
        · have h1 := HI.out.2.2 j (by omega) hj
          have h2 := HI.out.2.2 i (Nat.le_refl _) (by omega)
          by_cases hij : i = j
          · subst hij; exact hno ⟨hj, hjc⟩
          · have := HS.out i j (by omega) hj; omega
      have HM := Lib.hid hmiss
      clear hmiss
      go_wp2_with fail
      go_ret
      exact ⟨by rw [HE.out, HM.out]; rfl, HB.out⟩
    · have hyes : i < L.length ∧ fs L i = c := of_decide_eq_true hh
      have HM := Lib.hid (convP_hit HS.out hyes.1 hyes.2)
      have hil : i < n := by have := HP.out.len; omega
      obtain ⟨b, off, rfl, hb, hcell⟩ := HP.out.cells (by omega)
      have h2 : w2.cell? ⟨b, off + i * 2 + 1, none⟩ = some (.int .i64 (sn L i)) := (HB.out.cell hb).trans (hcell i hil).2
      clear hyes hcell
      go_wp2_with fail
      go_ret
      exact ⟨by rw [HE.out, HM.out]; rfl, HB.out⟩

end Go.Proofs.YtdlobgnhoiednaaDoor
