/-
  Escape of package chars, and Escape of the reference, return what the plain function gives, for any integer.
-/
import Derived.Test.YtdlobgnhoiednaaDoorFormat
namespace Go.Proofs.YtdlobgnhoiednaaDoor
set_option linter.unusedVariables false
set_option linter.unusedSimpArgs false
open Go.RowKit

/-- How a character is written within single quotes, byte by byte. -/
def letterAt (n : Nat) : UInt8 := if n = 7 then 97 else if n = 8 then 98 else if n = 9 then 116 else if n = 10 then 110 else if n = 11 then 118 else if n = 12 then 102 else 114
def escL (n : Nat) : List UInt8 :=
  if 7 ≤ n ∧ n ≤ 13 then [92, letterAt n] else if n = 39 ∨ n = 92 then [92, n.toUInt8] else if 32 ≤ n ∧ n ≤ 126 then [n.toUInt8] else [92, 120] ++ hexL n ++ [92]
def esc (c : Int) : ByteArray := if Ch.isCh c then ⟨(escL c.toNat).toArray⟩ else ⟨#[]⟩

theorem enc_one (c : Int) (h0 : 0 ≤ c) (h1 : c < 128) : Utf8.encode c = ⟨#[c.toNat.toUInt8]⟩ := by
  obtain ⟨n, rfl⟩ := Int.eq_ofNat_of_zero_le h0
  have hn : n = n % 128 := by omega
  have hf : ∀ m : Fin 128, (Utf8.encode (m.val : Int)).data = #[m.val.toUInt8] := by decide +kernel
  have := hf ⟨n, by omega⟩
  simp only at this
  cases h : Utf8.encode (n : Int) with
  | mk d => rw [h] at this; simp only at this; subst this; rfl

theorem join3 (l : List UInt8) : (⟨#[92, 120]⟩ ++ ⟨l.toArray⟩ ++ ⟨#[92]⟩ : ByteArray) = ⟨(92 :: 120 :: (l ++ [92])).toArray⟩ := by
  apply ByteArray.ext
  simp [ByteArray.data_append]

set_option maxHeartbeats 1000000 in
theorem escape_plain (c : Int) (w : World) (h0 : 32 ≤ c) (h1 : c ≤ 126) (n1 : c ≠ 39) (n2 : c ≠ 92) :
    Calls Tryd.prog 13 #[.int .i64 c] w fun e w' => e = .returned (.tuple #[.string ⟨#[c.toNat.toUInt8]⟩, .bool true]) ∧ w = w' := by
  have q1 : (c == 39) = false := by rw [beq_eq_false_iff_ne]; omega
  have q2 : (c == 92) = false := by rw [beq_eq_false_iff_ne]; omega
  have hi := Ch.isCh_yes (c := c) (by omega) (by omega)
  have he := enc_one c (by omega) (by omega)
  clear n1 n2
  go_enter Tryd.func13, Tryd.ntmps13
  go_wp2_with fail
  refine (isChar_any _ _).mono ?_
  rintro e w' ⟨rfl, rfl⟩
  go_wp2_with fail
  go_ret2
  exact ⟨rfl, rfl⟩

set_option maxHeartbeats 1000000 in
theorem escape_short (c : Int) (w : World) (h : c = 7 ∨ c = 8 ∨ c = 9 ∨ c = 10 ∨ c = 11 ∨ c = 12 ∨ c = 13 ∨ c = 39 ∨ c = 92) :
    Calls Tryd.prog 13 #[.int .i64 c] w fun e w' => e = .returned (.tuple #[.string (esc c), .bool true]) ∧ w = w' := by
  rcases h with rfl | rfl | rfl | rfl | rfl | rfl | rfl | rfl | rfl
  all_goals
    go_enter Tryd.func13, Tryd.ntmps13
    go_wp2_with fail
    refine (isChar_any _ _).mono ?_
    rintro e w' ⟨he, rfl⟩
    rw [Ch.isCh_yes (by omega) (by omega)] at he
    subst he
    go_wp2_with fail
    go_ret2
    exact ⟨rfl, rfl⟩

set_option maxHeartbeats 1000000 in
theorem escape_hex (c : Int) (w : World) (h0 : 0 ≤ c) (h1 : c ≤ 255) (h : c < 7 ∨ (13 < c ∧ c < 32) ∨ 126 < c) (hT : Tabs w) :
    Calls Tryd.prog 13 #[.int .i64 c] w fun e w' => e = .returned (.tuple #[.string ⟨([92, 120] ++ hexL c.toNat ++ [92]).toArray⟩, .bool true]) ∧ Below w.heap.size w w' := by
  have q1 : (c == 39) = false := by rw [beq_eq_false_iff_ne]; omega
  have q2 : (c == 92) = false := by rw [beq_eq_false_iff_ne]; omega
  have hi := Ch.isCh_yes (c := c) (by omega) (by omega)
  have hlen : (hexL c.toNat).length ≤ 2 := by unfold hexL; split <;> simp
  have hF := format16 c w h0 (by omega) hT
  clear hT
  rcases h with h | ⟨h, h'⟩ | h
  all_goals
    go_enter Tryd.func13, Tryd.ntmps13
    go_wp2_with fail
    refine (isChar_any _ _).mono ?_
    rintro e w' ⟨rfl, rfl⟩
    go_wp2_with fail
    refine hF.mono ?_
    clear hF
    rintro e w1 ⟨rfl, hb⟩
    go_wp2_with fail
    go_ret2
    refine ⟨congrArg (fun s => Ending.returned (.tuple #[.string s, .bool true])) (show _ = _ from ?_), hb⟩
    exact join3 _

theorem escape_no (c : Int) (w : World) (h : ¬ (0 ≤ c ∧ c ≤ 255)) :
    Calls Tryd.prog 13 #[.int .i64 c] w fun e w' => e = .returned (.tuple #[.string ⟨#[]⟩, .bool false]) ∧ w = w' := by
  have hi := Ch.isCh_no h
  clear h
  go_enter Tryd.func13, Tryd.ntmps13
  go_wp2_with fail
  refine (isChar_any _ _).mono ?_
  rintro e w' ⟨rfl, rfl⟩
  go_wp2_with fail
  go_ret2
  exact ⟨rfl, rfl⟩

/-- Escape, for every integer. -/
theorem escape_any (c : Int) (w : World) (hT : Tabs w) :
    Calls Tryd.prog 13 #[.int .i64 c] w fun e w' => e = .returned (.tuple #[.string (esc c), .bool (Ch.isCh c)]) ∧ Below w.heap.size w w' := by
  by_cases hc : 0 ≤ c ∧ c ≤ 255
  · rw [Ch.isCh_yes hc.1 hc.2]
    by_cases h1 : c = 7 ∨ c = 8 ∨ c = 9 ∨ c = 10 ∨ c = 11 ∨ c = 12 ∨ c = 13 ∨ c = 39 ∨ c = 92
    · exact (escape_short c w h1).mono fun _ _ ⟨he, hw⟩ => ⟨he, hw ▸ Below.refl _ _⟩
    · by_cases h2 : 32 ≤ c ∧ c ≤ 126
      · have e : esc c = ⟨#[c.toNat.toUInt8]⟩ := by
          unfold esc escL
          rw [if_pos (Ch.isCh_yes hc.1 hc.2), if_neg (by omega), if_neg (by omega), if_pos (by omega)]
        rw [e]
        exact (escape_plain c w h2.1 h2.2 (by omega) (by omega)).mono fun _ _ ⟨he, hw⟩ => ⟨he, hw ▸ Below.refl _ _⟩
      · have e : esc c = ⟨([92, 120] ++ hexL c.toNat ++ [92]).toArray⟩ := by
          unfold esc escL
          rw [if_pos (Ch.isCh_yes hc.1 hc.2), if_neg (by omega), if_neg (by omega), if_neg (by omega)]
        rw [e]
        exact escape_hex c w hc.1 hc.2 (by omega) hT
  · have e : esc c = ⟨#[]⟩ := by
      unfold esc
      rw [Ch.isCh_no hc]
      rfl
    rw [e, Ch.isCh_no hc]
    exact (escape_no c w hc).mono fun _ _ ⟨he, hw⟩ => ⟨he, hw ▸ Below.refl _ _⟩

end Go.Proofs.YtdlobgnhoiednaaDoor
