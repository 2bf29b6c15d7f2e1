/-
  Escape and Unescape of the reference return what the plain functions give, for any integer.
-/
import Derived.Test.YtdlobgnhoiednaaDoorEscape
import Derived.Test.YtdlobgnhoiednaaDoorUnescape
namespace Go.Proofs.YtdlobgnhoiednaaDoor
set_option linter.unusedVariables false
set_option linter.unusedSimpArgs false
open Go.RowKit

theorem conv0 (c : Int) (h0 : 0 ≤ c) (h1 : c ≤ 255) (w : World) : (convert 52 9 (.slice (some ⟨w.heap.size, 0, none⟩) 1 1)).run Tryd.prog (w.alloc (.cells #[.int .u8 c] 5)) = .ok (.string ⟨#[c.toNat.toUInt8]⟩) (w.alloc (.cells #[.int .u8 c] 5)) := by
  refine run_convert_bytes_back (P := Tryd.prog) _ 52 9 5 ⟨w.heap.size, 0, none⟩ 1 [c.toNat.toUInt8] Tryd.underlying52 Tryd.underlying5 Tryd.underlying9 ?_
  intro j hj
  have hj0 : j = 0 := by simpa using hj
  subst hj0
  rw [show Addr.add ⟨w.heap.size, 0, none⟩ 0 = ⟨w.heap.size, 0, none⟩ from rfl, World.cell?_alloc_at _ _ _ _ rfl]
  simp
  omega

theorem slice_hex (n : Int) (h0 : 0 ≤ n) (h : n < 16) (w : World) :
    (Instr.slice 9 (.string ⟨#[48, 49, 50, 51, 52, 53, 54, 55, 56, 57, 97, 98, 99, 100, 101, 102]⟩) (some (.int .i64 n)) (some (.int .i64 (n + 1))) none).run Tryd.prog w = .ok (.string ⟨#[hexc n.toNat]⟩) w := by
  have hn : n = 0 ∨ n = 1 ∨ n = 2 ∨ n = 3 ∨ n = 4 ∨ n = 5 ∨ n = 6 ∨ n = 7 ∨ n = 8 ∨ n = 9 ∨ n = 10 ∨ n = 11 ∨ n = 12 ∨ n = 13 ∨ n = 14 ∨ n = 15 := by omega
  clear h0 h
  rcases hn with rfl | rfl | rfl | rfl | rfl | rfl | rfl | rfl | rfl | rfl | rfl | rfl | rfl | rfl | rfl | rfl
  all_goals (show _ = _; kernel_rfl)

set_option maxHeartbeats 1000000 in
theorem refEscape_plain (c : Int) (w : World) (h0 : 32 ≤ c) (h1 : c ≤ 126) (n1 : c ≠ 39) (n2 : c ≠ 92) :
    Calls Tryd.prog 18 #[.int .i64 c] w fun e w' => e = .returned (.tuple #[.string ⟨#[c.toNat.toUInt8]⟩, .bool true]) ∧ Below w.heap.size w w' := by
  have q1 : (c == 39) = false := by rw [beq_eq_false_iff_ne]; omega
  have q2 : (c == 92) = false := by rw [beq_eq_false_iff_ne]; omega
  have hi := Ch.isCh_yes (c := c) (by omega) (by omega)
  have hcv := conv0 c (by omega) (by omega)
  clear n1 n2
  go_enter Tryd.func18, Tryd.ntmps18
  go_wp2_with fail
  refine (refIs_any _ _).mono ?_
  rintro e w' ⟨rfl, rfl⟩
  go_wp2_with fail
  go_ret2
  exact ⟨rfl, (Below.refl _ _).alloc (Nat.le_refl _) _⟩

set_option maxHeartbeats 1000000 in
theorem refEscape_short (c : Int) (w : World) (h : c = 7 ∨ c = 8 ∨ c = 9 ∨ c = 10 ∨ c = 11 ∨ c = 12 ∨ c = 13) :
    Calls Tryd.prog 18 #[.int .i64 c] w fun e w' => e = .returned (.tuple #[.string (esc c), .bool true]) ∧ Below w.heap.size w w' := by
  rcases h with rfl | rfl | rfl | rfl | rfl | rfl | rfl
  all_goals
    go_enter Tryd.func18, Tryd.ntmps18
    go_wp2_with fail
    refine (refIs_any _ _).mono ?_
    rintro e w' ⟨he, rfl⟩
    rw [Ch.isCh_yes (by omega) (by omega)] at he
    subst he
    go_wp2_with fail
    go_ret2
    exact ⟨rfl, Below.refl _ _⟩

theorem conv92 (c : Int) (h0 : 0 ≤ c) (h1 : c ≤ 255) (w : World) : (convert 52 9 (.slice (some ⟨w.heap.size, 0, none⟩) 2 2)).run Tryd.prog (w.alloc (.cells #[.int .u8 92, .int .u8 c] 5)) = .ok (.string ⟨#[92, c.toNat.toUInt8]⟩) (w.alloc (.cells #[.int .u8 92, .int .u8 c] 5)) := by
  refine run_convert_bytes_back (P := Tryd.prog) _ 52 9 5 ⟨w.heap.size, 0, none⟩ 2 [92, c.toNat.toUInt8] Tryd.underlying52 Tryd.underlying5 Tryd.underlying9 ?_
  intro j hj
  have hj2 : j = 0 ∨ j = 1 := by simp at hj; omega
  rcases hj2 with rfl | rfl
  · rw [show Addr.add ⟨w.heap.size, 0, none⟩ 0 = ⟨w.heap.size, 0, none⟩ from rfl, World.cell?_alloc_at _ _ _ _ rfl]
    simp
  · rw [show Addr.add ⟨w.heap.size, 0, none⟩ 1 = ⟨w.heap.size, 1, none⟩ from rfl, World.cell?_alloc_at _ _ _ _ rfl]
    simp
    omega

set_option maxHeartbeats 1000000 in
theorem refEscape_quote (c : Int) (w : World) (h : c = 39 ∨ c = 92) :
    Calls Tryd.prog 18 #[.int .i64 c] w fun e w' => e = .returned (.tuple #[.string (esc c), .bool true]) ∧ Below w.heap.size w w' := by
  have h39 := conv92 39 (by omega) (by omega)
  have h92 := conv92 92 (by omega) (by omega)
  rcases h with rfl | rfl
  all_goals
    go_enter Tryd.func18, Tryd.ntmps18
    go_wp2_with fail
    refine (refIs_any _ _).mono ?_
    rintro e w' ⟨he, rfl⟩
    rw [Ch.isCh_yes (by omega) (by omega)] at he
    subst he
    go_wp2_with fail
    go_ret2
    exact ⟨rfl, (Below.refl _ _).alloc (Nat.le_refl _) _⟩

theorem refEscape_no (c : Int) (w : World) (h : ¬ (0 ≤ c ∧ c ≤ 255)) :
    Calls Tryd.prog 18 #[.int .i64 c] w fun e w' => e = .returned (.tuple #[.string ⟨#[]⟩, .bool false]) ∧ w = w' := by
  have hi := Ch.isCh_no h
  clear h
  go_enter Tryd.func18, Tryd.ntmps18
  go_wp2_with fail
  refine (refIs_any _ _).mono ?_
  rintro e w' ⟨rfl, rfl⟩
  go_wp2_with fail
  go_ret2
  exact ⟨rfl, rfl⟩

set_option maxHeartbeats 1000000 in
theorem refEscape_low (c : Int) (w : World) (h0 : 0 ≤ c) (h : c < 7 ∨ (13 < c ∧ c < 16)) :
    Calls Tryd.prog 18 #[.int .i64 c] w fun e w' => e = .returned (.tuple #[.string ⟨([92, 120] ++ hexL c.toNat ++ [92]).toArray⟩, .bool true]) ∧ Below w.heap.size w w' := by
  have q1 : (c == 39) = false := by rw [beq_eq_false_iff_ne]; omega
  have q2 : (c == 92) = false := by rw [beq_eq_false_iff_ne]; omega
  have hi := Ch.isCh_yes (c := c) (by omega) (by omega)
  have hl : hexL c.toNat = [hexc (c % 16).toNat] := by rw [hexL_low c h0 (by omega), show (c % 16).toNat = c.toNat from by omega]
  have HL := Lib.hid hl
  clear hl
  have hr : c % 16 < 16 := by omega
  have hr0 : 0 ≤ c % 16 := by omega
  have hsl := slice_hex (c % 16) hr0 hr
  rcases h with h | ⟨h, h'⟩
  all_goals
    go_enter Tryd.func18, Tryd.ntmps18
    go_wp2_with fail
    refine (refIs_any _ _).mono ?_
    rintro e w' ⟨rfl, rfl⟩
    go_wp2_with fail
    go_ret2
    refine ⟨congrArg (fun s => Ending.returned (.tuple #[.string s, .bool true])) (show _ = _ from ?_), Below.refl _ _⟩
    rw [HL.out]
    rfl

set_option maxHeartbeats 1000000 in
theorem refEscape_high (c : Int) (w : World) (h1 : c ≤ 255) (h : (16 ≤ c ∧ c < 32) ∨ 126 < c) :
    Calls Tryd.prog 18 #[.int .i64 c] w fun e w' => e = .returned (.tuple #[.string ⟨([92, 120] ++ hexL c.toNat ++ [92]).toArray⟩, .bool true]) ∧ Below w.heap.size w w' := by
  have q1 : (c == 39) = false := by rw [beq_eq_false_iff_ne]; omega
  have q2 : (c == 92) = false := by rw [beq_eq_false_iff_ne]; omega
  have hi := Ch.isCh_yes (c := c) (by omega) (by omega)
  have hl : hexL c.toNat = [hexc (c / 16).toNat, hexc (c % 16).toNat] := hexL_high c (by omega)
  have HL := Lib.hid hl
  clear hl
  have hr : c % 16 < 16 := by omega
  have hr0 : 0 ≤ c % 16 := by omega
  have hsl := slice_hex (c % 16) hr0 hr
  have hq : c / 16 < 16 := by omega
  have hq0 : 0 ≤ c / 16 := by omega
  have hsq := slice_hex (c / 16) hq0 hq
  rcases h with ⟨h, h'⟩ | h
  all_goals
    go_enter Tryd.func18, Tryd.ntmps18
    go_wp2_with fail
    refine (refIs_any _ _).mono ?_
    rintro e w' ⟨rfl, rfl⟩
    go_wp2_with fail
    go_ret2
    refine ⟨congrArg (fun s => Ending.returned (.tuple #[.string s, .bool true])) (show _ = _ from ?_), Below.refl _ _⟩
    rw [HL.out]
    rfl

/-- Escape of the reference, for every integer. -/
theorem refEscape_any (c : Int) (w : World) :
    Calls Tryd.prog 18 #[.int .i64 c] w fun e w' => e = .returned (.tuple #[.string (esc c), .bool (Ch.isCh c)]) ∧ Below w.heap.size w w' := by
  by_cases hc : 0 ≤ c ∧ c ≤ 255
  · rw [Ch.isCh_yes hc.1 hc.2]
    by_cases h1 : c = 7 ∨ c = 8 ∨ c = 9 ∨ c = 10 ∨ c = 11 ∨ c = 12 ∨ c = 13
    · exact refEscape_short c w h1
    · by_cases h3 : c = 39 ∨ c = 92
      · exact refEscape_quote c w h3
      · by_cases h2 : 32 ≤ c ∧ c ≤ 126
        · have e : esc c = ⟨#[c.toNat.toUInt8]⟩ := by
            unfold esc escL
            rw [if_pos (Ch.isCh_yes hc.1 hc.2), if_neg (by omega), if_neg (by omega), if_pos (by omega)]
          rw [e]
          exact refEscape_plain c w h2.1 h2.2 (by omega) (by omega)
        · have e : esc c = ⟨([92, 120] ++ hexL c.toNat ++ [92]).toArray⟩ := by
            unfold esc escL
            rw [if_pos (Ch.isCh_yes hc.1 hc.2), if_neg (by omega), if_neg (by omega), if_neg (by omega)]
          rw [e]
          by_cases h4 : c < 16
          · exact refEscape_low c w hc.1 (by omega)
          · exact refEscape_high c w hc.2 (by omega)
  · have e : esc c = ⟨#[]⟩ := by
      unfold esc
      rw [Ch.isCh_no hc]
      rfl
    rw [e, Ch.isCh_no hc]
    exact (refEscape_no c w hc).mono fun _ _ ⟨he, hw⟩ => ⟨he, hw ▸ Below.refl _ _⟩

/-- Whether a character is one of a row of bytes. -/
def amongB (l : List UInt8) (c : Int) : Bool := l.any fun b => (b.toNat : Int) == c
theorem amongB_snoc (l : List UInt8) (b : UInt8) (c : Int) : amongB (l ++ [b]) c = (amongB l c || ((b.toNat : Int) == c)) := by
  simp [amongB]
theorem amongB_none {l : List UInt8} {c : Int} (h : amongB l c = false) (k : Nat) : amongB (l.take k) c = false := by
  unfold amongB at *
  rw [List.any_eq_false] at *
  intro x hx
  exact h x (List.mem_of_mem_take hx)
theorem amongB_at {l : List UInt8} {c : Int} {k : Nat} (hk : k < l.length) (h : ((l[k].toNat : Int) == c) = true) : amongB l c = true := by
  unfold amongB
  rw [List.any_eq_true]
  exact ⟨l[k], List.getElem_mem _, h⟩
theorem take_snoc (s : ByteArray) (k : Nat) (h : k < s.size) : s.data.toList.take (k + 1) = s.data.toList.take k ++ [s[k]] := by
  rw [List.take_succ_eq_append_getElem (by simpa using h)]; rfl

set_option maxHeartbeats 400000 in
theorem among_any (s : ByteArray) (c : Int) (w : World) (hs : s.size ≤ 100) :
    Calls Tryd.prog 35 #[.string s, .int .i64 c] w fun e w' => e = .returned (.bool (amongB s.data.toList c)) ∧ w = w' := by
  go_enter Tryd.func35, Tryd.ntmps35
  go_wp2_with fail
  go_loop [5] (fun i => ∃ k : Nat, k ≤ s.size ∧ i = .int .i64 k ∧ amongB (s.data.toList.take k) c = false) (fun i => s.size - (intOf i).toNat)
  case atStart => exact ⟨0, Nat.zero_le _, rfl, rfl⟩
  case round =>
    obtain ⟨k, hk, rfl, hn⟩ := hrel
    have HN := Lib.hid hn
    clear hn
    by_cases hlt : k < s.size
    · have hts := Lib.hid (take_snoc s k hlt)
      have hbd : (s[k].toNat : Int) < 256 := by have := s[k].toNat_lt; omega
      cases hb : ((s[k].toNat : Int) == c)
      · go_wp2_with fail
        exact ⟨⟨k + 1, by omega, by go_num, by rw [hts.out, amongB_snoc, HN.out, hb]; rfl⟩, by simp [intOf]; omega⟩
      · have hx := Lib.hid (amongB_at (l := s.data.toList) (k := k) (by simpa using hlt) hb)
        go_wp2_with fail
        go_ret
        exact ⟨by rw [hx.out]; rfl, rfl⟩
    · go_wp2_with fail
      go_ret
      exact ⟨by rw [List.take_of_length_le (by simp; omega)] at HN; rw [HN.out]; rfl, rfl⟩

theorem among4 (c : Int) : amongB [92, 39, 34, 96] c = decide (c = 92 ∨ c = 39 ∨ c = 34 ∨ c = 96) := by
  rw [Bool.eq_iff_iff]
  simp [amongB]
  omega

set_option maxHeartbeats 1000000 in
theorem refUnescape_any (c : Int) (w : World) :
    Calls Tryd.prog 19 #[.int .i64 c] w fun e w' => e = .returned (.tuple #[.int .i64 (unV c), .bool (unB c)]) ∧ w = w' := by
  have x0 : ((⟨#[97, 98, 116, 110, 118, 102, 114]⟩ : ByteArray)[0]'(by decide)).toNat = 97 := rfl
  have x1 : ((⟨#[97, 98, 116, 110, 118, 102, 114]⟩ : ByteArray)[1]'(by decide)).toNat = 98 := rfl
  have x2 : ((⟨#[97, 98, 116, 110, 118, 102, 114]⟩ : ByteArray)[2]'(by decide)).toNat = 116 := rfl
  have x3 : ((⟨#[97, 98, 116, 110, 118, 102, 114]⟩ : ByteArray)[3]'(by decide)).toNat = 110 := rfl
  have x4 : ((⟨#[97, 98, 116, 110, 118, 102, 114]⟩ : ByteArray)[4]'(by decide)).toNat = 118 := rfl
  have x5 : ((⟨#[97, 98, 116, 110, 118, 102, 114]⟩ : ByteArray)[5]'(by decide)).toNat = 102 := rfl
  have x6 : ((⟨#[97, 98, 116, 110, 118, 102, 114]⟩ : ByteArray)[6]'(by decide)).toNat = 114 := rfl
  by_cases hl : c = 97 ∨ c = 98 ∨ c = 116 ∨ c = 110 ∨ c = 118 ∨ c = 102 ∨ c = 114
  · rcases hl with rfl | rfl | rfl | rfl | rfl | rfl | rfl
    · go_enter Tryd.func19, Tryd.ntmps19
      go_wp2_with fail
      refine wp_loop_rounds 1 ?_
      rw [rounds_succ]
      go_wp2_with fail
      go_ret2
      exact ⟨rfl, rfl⟩
    · go_enter Tryd.func19, Tryd.ntmps19
      go_wp2_with fail
      refine wp_loop_rounds 2 ?_
      rw [rounds_succ]
      go_wp2_with fail
      rw [rounds_succ]
      go_wp2_with fail
      go_ret2
      exact ⟨rfl, rfl⟩
    all_goals
      go_enter Tryd.func19, Tryd.ntmps19
      go_wp2_with fail
      refine wp_loop_rounds 7 ?_
      repeat (rw [rounds_succ]; go_wp2_with fail)
      go_ret2
      exact ⟨rfl, rfl⟩
  · have n1 : (97 == c) = false := by rw [beq_eq_false_iff_ne]; omega
    have n2 : (98 == c) = false := by rw [beq_eq_false_iff_ne]; omega
    have n3 : (116 == c) = false := by rw [beq_eq_false_iff_ne]; omega
    have n4 : (110 == c) = false := by rw [beq_eq_false_iff_ne]; omega
    have n5 : (118 == c) = false := by rw [beq_eq_false_iff_ne]; omega
    have n6 : (102 == c) = false := by rw [beq_eq_false_iff_ne]; omega
    have n7 : (114 == c) = false := by rw [beq_eq_false_iff_ne]; omega
    have ha := among_any ⟨#[92, 39, 34, 96]⟩ c w (by decide)
    have e4 := among4 c
    by_cases hq : c = 92 ∨ c = 39 ∨ c = 34 ∨ c = 96
    · have ev : unV c = c := by unfold unV; rw [if_pos hq]
      have eb : unB c = true := by unfold unB; rw [decide_eq_true]; omega
      rw [ev, eb]
      rw [decide_eq_true hq] at e4
      have E4 := Lib.hid e4
      clear e4 ev eb hq hl
      have HA := Lib.hid ha
      clear ha
      go_enter Tryd.func19, Tryd.ntmps19
      go_wp2_with fail
      refine wp_loop_rounds 8 ?_
      repeat (rw [rounds_succ]; go_wp2_with fail)
      refine (HA.out).mono ?_
      rintro e w' ⟨he, rfl⟩
      rw [E4.out] at he
      subst he
      go_wp2_with fail
      go_ret2
      exact ⟨rfl, rfl⟩
    · have ev : unV c = 0 := by unfold unV; repeat rw [if_neg (by omega)]
      have eb : unB c = false := by unfold unB; rw [decide_eq_false]; omega
      rw [ev, eb]
      rw [decide_eq_false hq] at e4
      have E4 := Lib.hid e4
      clear e4 ev eb hq hl
      have HA := Lib.hid ha
      clear ha
      go_enter Tryd.func19, Tryd.ntmps19
      go_wp2_with fail
      refine wp_loop_rounds 8 ?_
      repeat (rw [rounds_succ]; go_wp2_with fail)
      refine (HA.out).mono ?_
      rintro e w' ⟨he, rfl⟩
      rw [E4.out] at he
      subst he
      go_wp2_with fail
      go_ret2
      exact ⟨rfl, rfl⟩

end Go.Proofs.YtdlobgnhoiednaaDoor
