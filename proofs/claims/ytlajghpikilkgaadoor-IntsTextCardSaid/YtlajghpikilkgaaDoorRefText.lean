/-
  The reference's Text: the decimal numeral.
-/
import Derived.Test.YtlajghpikilkgaaDoorRefKnown
import Derived.Test.YtlajghpikilkgaaDoorParse
import Derived.Laws.IdiomStrings
import Derived.Deep.Heap
namespace Go.Proofs.YtlajghpikilkgaaDoor
set_option linter.unusedVariables false
set_option linter.unusedSimpArgs false
open Go.RowKit

namespace In
/-- Every digit of a numeral is one of 0 to 9, and there is one; how many at most. -/
theorem dec_len : ∀ (k u : Nat), u < 10 ^ k → 1 ≤ k → (Lib.decDigits u).length ≤ k := by
  intro k
  induction k with
  | zero => intro u _ h; omega
  | succ k ih =>
    intro u hu _
    rw [Lib.decDigits]
    split
    · simp
    · rename_i h10
      rw [List.length_append, List.length_singleton]
      have hk : 1 ≤ k := by
        rcases Nat.eq_zero_or_pos k with e | e
        · subst e; simp at hu; omega
        · exact e
      have := ih (u / 10) (by rw [Nat.pow_succ] at hu; omega) hk
      omega
theorem dec_small {u : Nat} (h : u < 10) : Lib.decDigits u = [UInt8.ofNat (48 + u)] := by rw [Lib.decDigits, dif_pos h]
theorem dec_big {u : Nat} (h : ¬ u < 10) : Lib.decDigits u = Lib.decDigits (u / 10) ++ [UInt8.ofNat (48 + u % 10)] := by rw [Lib.decDigits, dif_neg h]
end In

theorem glue (c : UInt8) (l : List UInt8) : (⟨#[c]⟩ : ByteArray) ++ str l = str (c :: l) := by
  refine bytes_of (l := c :: l) ?_
  rw [ByteArray.toList_data_append]
  rfl
namespace In
theorem text_last {n m : Int} {l : List UInt8} {X S : ByteArray} {c : Int} (hl : Lib.decDigits n.natAbs = Lib.decDigits m.natAbs ++ l) (hm : m.natAbs < 10) (hX : X = ⟨#[UInt8.ofNat c.toNat]⟩) (hc : c.toNat = 48 + m.natAbs) (hS : S = str l) :
    X ++ S = str (Lib.decDigits n.natAbs) := by
  rw [hX, hS, glue, hl, dec_small hm, hc]; rfl
theorem text_more {n m q : Int} {l : List UInt8} {X S : ByteArray} {c : Int} (hl : Lib.decDigits n.natAbs = Lib.decDigits m.natAbs ++ l) (hm : ¬ m.natAbs < 10) (hq : q.natAbs = m.natAbs / 10) (hX : X = ⟨#[UInt8.ofNat c.toNat]⟩) (hc : c.toNat = 48 + m.natAbs % 10) (hS : S = str l) :
    Lib.decDigits n.natAbs = Lib.decDigits q.natAbs ++ (UInt8.ofNat (48 + m.natAbs % 10) :: l) ∧ X ++ S = str (UInt8.ofNat (48 + m.natAbs % 10) :: l) := by
  refine ⟨?_, by rw [hX, hS, glue, hc]⟩
  rw [hl, dec_big hm, hq, List.append_assoc]; rfl
theorem itoa_neg {n : Int} (h : n < 0) : (⟨#[45]⟩ : ByteArray) ++ str (Lib.decDigits n.natAbs) = ⟨(Lib.itoa n).toArray⟩ := by
  rw [glue]; unfold Lib.itoa; rw [if_pos h]; rfl
theorem itoa_pos {n : Int} (h : ¬ n < 0) : str (Lib.decDigits n.natAbs) = ⟨(Lib.itoa n).toArray⟩ := by
  unfold Lib.itoa; rw [if_neg h, show n.toNat = n.natAbs by omega]; rfl
end In
theorem below_alloc' {B : Nat} {w w' : World} (h : Below B w w') {o : Obj} (hB : B ≤ w.heap.size := by exact Nat.le_refl _) : Below B w' (w'.alloc o) := (Below.refl _ _).alloc (Nat.le_trans hB h.size) o
theorem ret_str {a b : ByteArray} (h : a = b) : Ending.returned (.string a) = .returned (.string b) := by rw [h]

theorem conv1 (w : World) (c : Int) (h0 : 0 ≤ c) (h1 : c < 256) : (convert 65 9 (.slice (some ⟨w.heap.size, 0, none⟩) 1 1)).run Tryd.prog (w.alloc (.cells #[.int .u8 c] 5)) = .ok (.string ⟨#[UInt8.ofNat c.toNat]⟩) (w.alloc (.cells #[.int .u8 c] 5)) := by
  refine run_convert_bytes_back (P := Tryd.prog) _ 65 9 5 ⟨w.heap.size, 0, none⟩ 1 [UInt8.ofNat c.toNat] Tryd.underlying65 Tryd.underlying5 Tryd.underlying9 ?_
  intro j hj
  obtain rfl : j = 0 := by simpa using hj
  rw [show Addr.add ⟨w.heap.size, 0, none⟩ 0 = ⟨w.heap.size, 0, none⟩ from rfl, World.cell?_alloc_at _ _ _ _ rfl]
  have : (UInt8.ofNat c.toNat).toNat = c.toNat := by simp [UInt8.toNat_ofNat]; omega
  simp [this]
  omega

set_option maxHeartbeats 2000000 in
set_option maxRecDepth 100000 in
theorem refText_any (n : Int) (w : World) (hn : In.ok n) :
    Calls Tryd.prog 23 #[.int .i64 n] w fun e w' => e = .returned (.string ⟨(Lib.itoa n).toArray⟩) ∧ Below w.heap.size w w' := by
  have hn1 : n.natAbs ≤ 9223372036854775808 := by unfold In.ok at hn; omega
  have hlen := In.dec_len 20 n.natAbs (by omega) (by decide)
  obtain ⟨hn0, hn2⟩ := hn
  go_enter Tryd.func23, Tryd.ntmps23
  go_wp2_with fail
  go_loopw [3, 4] (fun u v wr => ∃ (l : List UInt8) (m : Int), In.ok m ∧ Lib.decDigits n.natAbs = Lib.decDigits m.natAbs ++ l ∧ u = .string (str l) ∧ v = .int .i64 m ∧ Below w.heap.size w wr) (fun _ v _ => (Lib.intOf v).natAbs)
  case atStart => exact ⟨[], n, ⟨hn0, hn2⟩, by simp, rfl, rfl, Below.refl _ _⟩
  case round =>
    obtain ⟨l, m, hm, hl, rfl, rfl, hb⟩ := hrel
    have hll : (str l).size ≤ 20 := by
      have h1 : (str l).size = l.length := rfl
      have h2 : (Lib.decDigits n.natAbs).length = (Lib.decDigits m.natAbs).length + l.length := by rw [hl, List.length_append]
      omega
    have HL := Lib.hid hl
    have HB := Lib.hid hb
    obtain ⟨S, hS⟩ : ∃ S, S = str l := ⟨_, rfl⟩
    rw [← hS] at hll ⊢
    have HS := Lib.hid hS
    clear hl hb hS hlen
    obtain ⟨m0, m1⟩ := hm
    have tq : (m.tdiv 10).natAbs = m.natAbs / 10 := by rw [Int.natAbs_tdiv]; rfl
    have TQ := Lib.hid tq
    have tq : (m.tdiv 10).natAbs = m.natAbs / 10 := by rw [Int.natAbs_tdiv]; rfl
    have TQ := Lib.hid tq
    have tq : (m.tdiv 10).natAbs = m.natAbs / 10 := by rw [Int.natAbs_tdiv]; rfl
    have TQ := Lib.hid tq
    have tq : (m.tdiv 10).natAbs = m.natAbs / 10 := by rw [Int.natAbs_tdiv]; rfl
    have TQ := Lib.hid tq
    by_cases hneg : m < 0
    · have ht := In.tmod_sign m 10
      have ha := In.tmod_abs m 10 (by decide)
      have hta : (m.tmod 10).natAbs = m.natAbs % 10 := by rw [Int.natAbs_tmod]; rfl
      have ht0 : m.tmod 10 ≤ 0 := ht.2 (by omega)
      have ht9 : -9 ≤ m.tmod 10 := by omega
      have hq0 : -9223372036854775808 ≤ m.tdiv 10 := by omega
      have hq1 : m.tdiv 10 ≤ 9223372036854775807 := by omega
      have HTA := Lib.hid hta
      clear ht ha tq
      by_cases htn : m.tmod 10 < 0
      · have hd0 : 0 < -m.tmod 10 := by omega
        have hcv := conv1 wr (48 + -m.tmod 10) (by omega) (by omega)
        obtain ⟨X, hX⟩ : ∃ X : ByteArray, X = ⟨#[UInt8.ofNat (48 + -m.tmod 10).toNat]⟩ := ⟨_, rfl⟩
        rw [← hX] at hcv
        have hXs : X.size = 1 := by rw [hX]; rfl
        have HX := Lib.hid hX
        have hsum : X.size + S.size ≤ 9223372036854775807 := by omega
        have hcn : (48 + -m.tmod 10).toNat = 48 + m.natAbs % 10 := by omega
        have HC := Lib.hid hcn
        clear hX hcn
        by_cases hq : m.natAbs < 10
        · have hqq : (m.tdiv 10 == 0) = true := by have := TQ.out; simp; omega
          clear hta
          have HQ := Lib.hid hq
          have hXS := Lib.hid (In.text_last HL.out HQ.out HX.out (by rw [HC.out]; omega) HS.out)
          clear hq
          by_cases hn : n < 0
          · have HN := Lib.hid hn
            have hsum2 : (⟨#[45]⟩ : ByteArray).size + (X ++ S).size ≤ 9223372036854775807 := by rw [ByteArray.size_append]; show 1 + _ ≤ _; omega
            clear hXs
            go_wp2_with fail
            go_ret
            exact ⟨ret_str ((congrArg (fun z => (⟨#[45]⟩ : ByteArray) ++ z) hXS.out).trans (In.itoa_neg HN.out)), HB.out.trans (below_alloc' HB.out)⟩
          · have hn' : 0 ≤ n := by omega
            have HN := Lib.hid hn
            clear hn hXs
            go_wp2_with fail
            go_ret
            exact ⟨ret_str (hXS.out.trans (In.itoa_pos (by have := HN.out; omega))), HB.out.trans (below_alloc' HB.out)⟩
        · have hqq : (m.tdiv 10 == 0) = false := by have := TQ.out; simp; omega
          clear hta
          have HQ := Lib.hid hq
          clear hq hXs
          go_wp2_with fail
          go_roundw
          case rel =>
            obtain ⟨e1, e2⟩ := In.text_more (q := m.tdiv 10) HL.out HQ.out (TQ.out) HX.out HC.out HS.out
            exact ⟨_, m.tdiv 10, by have := TQ.out; unfold In.ok; omega, e1, by rw [e2], rfl, HB.out.trans (below_alloc' HB.out)⟩
          case measure =>
            have := TQ.out
            have := HQ.out
            simp only [Lib.intOf]
            omega
      · have htz : 0 ≤ m.tmod 10 := by omega
        clear htn
        have hcv := conv1 wr (48 + m.tmod 10) (by omega) (by omega)
        obtain ⟨X, hX⟩ : ∃ X : ByteArray, X = ⟨#[UInt8.ofNat (48 + m.tmod 10).toNat]⟩ := ⟨_, rfl⟩
        rw [← hX] at hcv
        have hXs : X.size = 1 := by rw [hX]; rfl
        have HX := Lib.hid hX
        have hsum : X.size + S.size ≤ 9223372036854775807 := by omega
        have hcn : (48 + m.tmod 10).toNat = 48 + m.natAbs % 10 := by omega
        have HC := Lib.hid hcn
        clear hX hcn
        by_cases hq : m.natAbs < 10
        · have hqq : (m.tdiv 10 == 0) = true := by have := TQ.out; simp; omega
          clear hta
          have HQ := Lib.hid hq
          have hXS := Lib.hid (In.text_last HL.out HQ.out HX.out (by rw [HC.out]; omega) HS.out)
          clear hq
          by_cases hn : n < 0
          · have HN := Lib.hid hn
            have hsum2 : (⟨#[45]⟩ : ByteArray).size + (X ++ S).size ≤ 9223372036854775807 := by rw [ByteArray.size_append]; show 1 + _ ≤ _; omega
            clear hXs
            go_wp2_with fail
            go_ret
            exact ⟨ret_str ((congrArg (fun z => (⟨#[45]⟩ : ByteArray) ++ z) hXS.out).trans (In.itoa_neg HN.out)), HB.out.trans (below_alloc' HB.out)⟩
          · have hn' : 0 ≤ n := by omega
            have HN := Lib.hid hn
            clear hn hXs
            go_wp2_with fail
            go_ret
            exact ⟨ret_str (hXS.out.trans (In.itoa_pos (by have := HN.out; omega))), HB.out.trans (below_alloc' HB.out)⟩
        · have hqq : (m.tdiv 10 == 0) = false := by have := TQ.out; simp; omega
          clear hta
          have HQ := Lib.hid hq
          clear hq hXs
          go_wp2_with fail
          go_roundw
          case rel =>
            obtain ⟨e1, e2⟩ := In.text_more (q := m.tdiv 10) HL.out HQ.out (TQ.out) HX.out HC.out HS.out
            exact ⟨_, m.tdiv 10, by have := TQ.out; unfold In.ok; omega, e1, by rw [e2], rfl, HB.out.trans (below_alloc' HB.out)⟩
          case measure =>
            have := TQ.out
            have := HQ.out
            simp only [Lib.intOf]
            omega
    · have hm0 : 0 ≤ m := by omega
      have dq : (m / 10).natAbs = m.natAbs / 10 := by omega
      have DQ := Lib.hid dq
      clear hneg tq dq
      have hcv := conv1 wr (48 + m % 10) (by omega) (by omega)
      obtain ⟨X, hX⟩ : ∃ X : ByteArray, X = ⟨#[UInt8.ofNat (48 + m % 10).toNat]⟩ := ⟨_, rfl⟩
      rw [← hX] at hcv
      have hXs : X.size = 1 := by rw [hX]; rfl
      have HX := Lib.hid hX
      have hsum : X.size + S.size ≤ 9223372036854775807 := by omega
      have hcn : (48 + m % 10).toNat = 48 + m.natAbs % 10 := by omega
      have HC := Lib.hid hcn
      clear hX hcn
      by_cases hq : m.natAbs < 10
      · have hqq : m / 10 = 0 := by omega
        have HQ := Lib.hid hq
        have hXS := Lib.hid (In.text_last HL.out HQ.out HX.out (by rw [HC.out]; omega) HS.out)
        clear hq
        by_cases hn : n < 0
        · have HN := Lib.hid hn
          have hsum2 : (⟨#[45]⟩ : ByteArray).size + (X ++ S).size ≤ 9223372036854775807 := by rw [ByteArray.size_append]; show 1 + _ ≤ _; omega
          clear hXs
          go_wp2_with fail
          go_ret
          exact ⟨ret_str ((congrArg (fun z => (⟨#[45]⟩ : ByteArray) ++ z) hXS.out).trans (In.itoa_neg HN.out)), HB.out.trans (below_alloc' HB.out)⟩
        · have hn' : 0 ≤ n := by omega
          have HN := Lib.hid hn
          clear hn hXs
          go_wp2_with fail
          go_ret
          exact ⟨ret_str (hXS.out.trans (In.itoa_pos (by have := HN.out; omega))), HB.out.trans (below_alloc' HB.out)⟩
      · have hqq : (m / 10 == 0) = false := by simp; omega
        have hq10 : 10 ≤ m := by omega
        have HQ := Lib.hid hq
        clear hq hXs
        go_wp2_with fail
        go_roundw
        case rel =>
          obtain ⟨e1, e2⟩ := In.text_more (q := m.tdiv 10) HL.out HQ.out (TQ.out) HX.out HC.out HS.out
          exact ⟨_, m.tdiv 10, by have := TQ.out; unfold In.ok; omega, e1, by rw [e2], rfl, HB.out.trans (below_alloc' HB.out)⟩
        case measure =>
          have := TQ.out
          have := HQ.out
          simp only [Lib.intOf]
          omega
end Go.Proofs.YtlajghpikilkgaaDoor
