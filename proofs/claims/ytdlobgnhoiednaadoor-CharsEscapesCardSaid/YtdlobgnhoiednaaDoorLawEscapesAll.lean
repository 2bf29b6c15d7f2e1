/-
  CharsEscapes returns true for every two integers: the forms of an escape, and the cases put together.
-/
import Derived.Test.YtdlobgnhoiednaaDoorLawEscapes
namespace Go.Proofs.YtdlobgnhoiednaaDoor
set_option linter.unusedVariables false
set_option linter.unusedSimpArgs false
open Go.RowKit

/-- The character that an escape stands for. -/
def undo (l : List UInt8) : Nat :=
  if l.length = 1 then (l.getD 0 0).toNat else if l.length = 2 then (unV ((l.getD 1 0).toNat : Int)).toNat
  else if l.length = 4 then (Ch.digV ((l.getD 2 0).toNat : Int) 16).toNat else (Ch.digV ((l.getD 2 0).toNat : Int) 16).toNat * 16 + (Ch.digV ((l.getD 3 0).toNat : Int) 16).toNat
theorem undo_escL (n : Nat) (h : n < 256) : undo (escL n) = n := by
  have hf : ∀ m : Fin 256, undo (escL m.val) = m.val := by decide +kernel
  exact hf ⟨n, h⟩
/-- The four forms of an escape. -/
theorem forms (n : Nat) (h : n < 256) :
    (escL n = [(escL n).getD 0 0] ∧ (((escL n).getD 0 0).toNat : Int) = n ∧ 32 ≤ ((escL n).getD 0 0).toNat ∧ ((escL n).getD 0 0).toNat ≤ 126) ∨
    (escL n = [92, (escL n).getD 1 0] ∧ 32 ≤ ((escL n).getD 1 0).toNat ∧ ((escL n).getD 1 0).toNat ≤ 126 ∧ unV ((escL n).getD 1 0).toNat = n ∧ unB ((escL n).getD 1 0).toNat = true) ∨
    (escL n = [92, 120, (escL n).getD 2 0, 92] ∧ 32 ≤ ((escL n).getD 2 0).toNat ∧ ((escL n).getD 2 0).toNat ≤ 126 ∧ Ch.digV ((escL n).getD 2 0).toNat 16 = n ∧ Ch.digB ((escL n).getD 2 0).toNat 16 = true) ∨
    (escL n = [92, 120, (escL n).getD 2 0, (escL n).getD 3 0, 92] ∧ (32 ≤ ((escL n).getD 2 0).toNat ∧ ((escL n).getD 2 0).toNat ≤ 126) ∧ (32 ≤ ((escL n).getD 3 0).toNat ∧ ((escL n).getD 3 0).toNat ≤ 126) ∧
      (Ch.digV ((escL n).getD 2 0).toNat 16 = (n : Int) / 16 ∧ Ch.digB ((escL n).getD 2 0).toNat 16 = true) ∧ Ch.digV ((escL n).getD 3 0).toNat 16 = (n : Int) % 16 ∧ Ch.digB ((escL n).getD 3 0).toNat 16 = true) := by
  have hf : ∀ m : Fin 256, (escL m.val = [(escL m.val).getD 0 0] ∧ (((escL m.val).getD 0 0).toNat : Int) = m.val ∧ 32 ≤ ((escL m.val).getD 0 0).toNat ∧ ((escL m.val).getD 0 0).toNat ≤ 126) ∨
    (escL m.val = [92, (escL m.val).getD 1 0] ∧ 32 ≤ ((escL m.val).getD 1 0).toNat ∧ ((escL m.val).getD 1 0).toNat ≤ 126 ∧ unV ((escL m.val).getD 1 0).toNat = m.val ∧ unB ((escL m.val).getD 1 0).toNat = true) ∨
    (escL m.val = [92, 120, (escL m.val).getD 2 0, 92] ∧ 32 ≤ ((escL m.val).getD 2 0).toNat ∧ ((escL m.val).getD 2 0).toNat ≤ 126 ∧ Ch.digV ((escL m.val).getD 2 0).toNat 16 = m.val ∧ Ch.digB ((escL m.val).getD 2 0).toNat 16 = true) ∨
    (escL m.val = [92, 120, (escL m.val).getD 2 0, (escL m.val).getD 3 0, 92] ∧ (32 ≤ ((escL m.val).getD 2 0).toNat ∧ ((escL m.val).getD 2 0).toNat ≤ 126) ∧ (32 ≤ ((escL m.val).getD 3 0).toNat ∧ ((escL m.val).getD 3 0).toNat ≤ 126) ∧
      (Ch.digV ((escL m.val).getD 2 0).toNat 16 = (m.val : Int) / 16 ∧ Ch.digB ((escL m.val).getD 2 0).toNat 16 = true) ∧ Ch.digV ((escL m.val).getD 3 0).toNat 16 = (m.val : Int) % 16 ∧ Ch.digB ((escL m.val).getD 3 0).toNat 16 = true) := by decide +kernel
  exact hf ⟨n, h⟩

theorem esc_data (c : Int) (h : 0 ≤ c ∧ c ≤ 255) : esc c = ⟨(escL c.toNat).toArray⟩ := by
  unfold esc
  rw [if_pos (Ch.isCh_yes h.1 h.2)]

theorem lies_of (a b : Int) (ha : 0 ≤ a ∧ a ≤ 255) (ls : List UInt8) (hls : escL a.toNat = ls) : Lies a b ⟨ls.toArray⟩ (esc b) ls (Ch.isCh b) := by
  by_cases hb : 0 ≤ b ∧ b ≤ 255
  · rw [Ch.isCh_yes hb.1 hb.2]
    by_cases hab : a = b
    · subst hab
      exact .inr (.inr (.inl ⟨rfl, by rw [esc_data a ha, hls], rfl⟩))
    · have hne : ¬ ls = (esc b).toList := by
        intro h
        rw [esc_data b hb, ByteArray.toList_mk] at h
        have h1 := undo_escL a.toNat (by omega)
        have h2 := undo_escL b.toNat (by omega)
        rw [hls, h, h2] at h1
        omega
      exact .inr (.inr (.inr ⟨hb.1, hb.2, by simpa using hab, hne, by simpa using hne, rfl⟩))
  · rw [Ch.isCh_no hb]
    by_cases h0 : b < 0
    · exact .inl ⟨h0, rfl⟩
    · exact .inr (.inl ⟨by omega, rfl⟩)

set_option maxHeartbeats 4000000 in
set_option maxRecDepth 100000 in
theorem escapes_none (a b : Int) (w : World) (hT : Tabs w) (h : ¬ (0 ≤ a ∧ a ≤ 255)) :
    Calls Tryd.prog 7 #[.int .i64 a, .int .i64 b] w fun e w' => e = .returned (.bool true) ∧ Below w.heap.size w w' := by
  have HT := Lib.hid hT
  clear hT
  obtain ⟨t, ht⟩ : ∃ t, t = esc b := ⟨_, rfl⟩
  have e1 := fun w hT => escape_any a w hT
  have e2 := fun w hT => escape_any b w hT
  rw [show esc a = ⟨#[]⟩ from by unfold esc; rw [Ch.isCh_no h]; rfl, Ch.isCh_no h] at e1
  rw [← ht] at e2
  have E1 := Lib.hid e1
  clear e1 ht
  have ha : a < 0 ∨ 255 < a := by omega
  have hb : (0 ≤ b ∧ b ≤ 255) ∨ b < 0 ∨ 255 < b := by omega
  clear h
  rcases hb with hb | hb | hb
  · rw [Ch.isCh_yes hb.1 hb.2] at e2
    have E2 := Lib.hid e2
    clear e2
    obtain ⟨hb0, hb1⟩ := hb
    rcases ha with ha | ha
    all_goals
      (try have hd : decide (a ≤ 255) = false := decide_eq_false (by omega))
      go_enter Tryd.func7, Tryd.ntmps7
      go_wp2_with fail
      refine (E1.out _ HT.out).mono ?_
      rintro e w1 ⟨rfl, hb1⟩
      have HB1 := Lib.hid hb1
      clear hb1
      go_wp2_with fail
      refine (E2.out _ (HT.out.below HB1.out)).mono ?_
      rintro e w2 ⟨rfl, hb2⟩
      have HB2 := Lib.hid (HB1.out.trans (hb2.mono HB1.out.size))
      clear hb2
      go_wp2_with fail
      refine (awake_true _ (HT.out.below HB2.out)).mono ?_
      rintro e w3 ⟨rfl, hb3⟩
      go_wp2_with fail
      go_ret
      exact ⟨rfl, HB2.out.trans (hb3.mono HB2.out.size)⟩
  all_goals
    rw [Ch.isCh_no (by omega)] at e2
    have E2 := Lib.hid e2
    clear e2
    rcases ha with ha | ha
    all_goals
      (try have hd : decide (a ≤ 255) = false := decide_eq_false (by omega))
      (try have hd2 : decide (b ≤ 255) = false := decide_eq_false (by omega))
      go_enter Tryd.func7, Tryd.ntmps7
      go_wp2_with fail
      refine (E1.out _ HT.out).mono ?_
      rintro e w1 ⟨rfl, hb1⟩
      have HB1 := Lib.hid hb1
      clear hb1
      go_wp2_with fail
      refine (E2.out _ (HT.out.below HB1.out)).mono ?_
      rintro e w2 ⟨rfl, hb2⟩
      have HB2 := Lib.hid (HB1.out.trans (hb2.mono HB1.out.size))
      clear hb2
      go_wp2_with fail
      refine (awake_true _ (HT.out.below HB2.out)).mono ?_
      rintro e w3 ⟨rfl, hb3⟩
      go_wp2_with fail
      go_ret
      exact ⟨rfl, HB2.out.trans (hb3.mono HB2.out.size)⟩

/-- CharsEscapes returns true, for every two integers. -/
theorem walk_escapes (a b : Int) (w : World) (hT : Tabs w) :
    Calls Tryd.prog 7 #[.int .i64 a, .int .i64 b] w fun e w' => e = .returned (.bool true) ∧ Below w.heap.size w w' := by
  by_cases ha : 0 ≤ a ∧ a ≤ 255
  · have hpre : ∀ ls : List UInt8, escL a.toNat = ls → Pre a b ⟨ls.toArray⟩ (esc b) (Ch.isCh b) := fun ls hls =>
      ⟨fun w hT => by
        have h := escape_any a w hT
        rw [Ch.isCh_yes ha.1 ha.2, esc_data a ha, hls] at h
        exact h, fun w hT => escape_any b w hT⟩
    have hn : ((a.toNat : Nat) : Int) = a := by omega
    rcases forms a.toNat (by omega) with ⟨h, h1, h2, h3⟩ | ⟨h, h1, h2, h3, h4⟩ | ⟨h, h1, h2, h3, h4⟩ | ⟨h, ⟨h1, h2⟩, ⟨h3, h4⟩, ⟨h5, h6⟩, h7, h8⟩
    · exact escapes_one a b _ (esc b) _ w hT (hpre _ h) ha.1 ha.2 (lies_of a b ha _ h) (by rw [h1, hn]) h2 h3
    · exact escapes_two a b _ (esc b) _ w hT (hpre _ h) ha.1 ha.2 (lies_of a b ha _ h) h1 h2 (by rw [h3, hn]) h4
    · exact escapes_four a b _ (esc b) _ w hT (hpre _ h) ha.1 ha.2 (lies_of a b ha _ h) h1 h2 (by rw [h3, hn]) h4
    · exact escapes_five a b _ _ (esc b) _ w hT (hpre _ h) ha.1 ha.2 (lies_of a b ha _ h) h1 h2 h3 h4 (by rw [h5, hn]) h6 (by rw [h7, hn]) h8
  · exact escapes_none a b w hT ha

end Go.Proofs.YtdlobgnhoiednaaDoor
