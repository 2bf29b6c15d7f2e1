/-
  The walk of CharsEscapes: it returns true for every two integers.
-/
import Derived.Test.YtdlobgnhoiednaaDoorAwake
import Derived.Test.YtdlobgnhoiednaaDoorUnescape
namespace Go.Proofs.YtdlobgnhoiednaaDoor
set_option linter.unusedVariables false
set_option linter.unusedSimpArgs false
open Go.RowKit

/-- What the two calls of Escape return. -/
structure Pre (a b : Int) (s t : ByteArray) (eb : Bool) : Prop where
  ea : ∀ w, Tabs w → Calls Tryd.prog 13 #[.int .i64 a] w fun e w' => e = .returned (.tuple #[.string s, .bool true]) ∧ Below w.heap.size w w'
  eb : ∀ w, Tabs w → Calls Tryd.prog 13 #[.int .i64 b] w fun e w' => e = .returned (.tuple #[.string t, .bool eb]) ∧ Below w.heap.size w w'
/-- How b may lie to a. -/
def Lies (a b : Int) (s t : ByteArray) (ls : List UInt8) (eb : Bool) : Prop :=
  (b < 0 ∧ eb = false) ∨ (255 < b ∧ eb = false) ∨ (a = b ∧ s = t ∧ eb = true) ∨ (0 ≤ b ∧ b ≤ 255 ∧ (a == b) = false ∧ ¬ ls = t.toList ∧ (ls == t.toList) = false ∧ eb = true)

set_option maxHeartbeats 8000000 in
set_option maxRecDepth 100000 in
theorem escapes_one (a b : Int) (x : UInt8) (t : ByteArray) (eb : Bool) (w : World) (hT : Tabs w) (h : Pre a b ⟨#[x]⟩ t eb) (ha0 : 0 ≤ a) (ha1 : a ≤ 255) (hl : Lies a b ⟨#[x]⟩ t [x] eb) (hx : (x.toNat : Int) = a) (hx0 : 32 ≤ x.toNat) (hx1 : x.toNat ≤ 126) :
    Calls Tryd.prog 7 #[.int .i64 a, .int .i64 b] w fun e w' => e = .returned (.bool true) ∧ Below w.heap.size w w' := by
  have HT := Lib.hid hT
  clear hT
  subst hx
  have x0 : ((⟨#[x]⟩ : ByteArray)[0]'(show 0 < 1 from by decide)).toNat = x.toNat := rfl
  rcases hl with ⟨hb, rfl⟩ | ⟨hb, rfl⟩ | ⟨rfl, rfl, rfl⟩ | ⟨hb0, hb1, hab, hst, hst2, rfl⟩
  all_goals
    (try have hd : decide (b ≤ 255) = false := decide_eq_false (by omega))
    have EA := Lib.hid h.ea
    have EB := Lib.hid h.eb
    clear h
    go_enter Tryd.func7, Tryd.ntmps7
    go_wp2_with fail
    refine (EA.out _ HT.out).mono ?_
    rintro e w1 ⟨rfl, hb1⟩
    have HB1 := Lib.hid hb1
    clear hb1
    go_wp2_with fail
    refine (EB.out _ (HT.out.below HB1.out)).mono ?_
    rintro e w2 ⟨rfl, hb2⟩
    have HB2 := Lib.hid (HB1.out.trans (hb2.mono HB1.out.size))
    clear hb2
    go_wp2_with fail
    refine wp_loop_rounds 2 ?_
    rw [rounds_succ]
    go_wp2_with fail
    rw [rounds_succ]
    go_wp2_with fail
    refine (awake_true _ (HT.out.below HB2.out)).mono ?_
    rintro e w3 ⟨rfl, hb3⟩
    go_wp2_with fail
    go_ret
    exact ⟨rfl, HB2.out.trans (hb3.mono HB2.out.size)⟩

set_option maxHeartbeats 8000000 in
set_option maxRecDepth 100000 in
theorem escapes_two (a b : Int) (x : UInt8) (t : ByteArray) (eb : Bool) (w : World) (hT : Tabs w) (h : Pre a b ⟨#[92, x]⟩ t eb) (ha0 : 0 ≤ a) (ha1 : a ≤ 255) (hl : Lies a b ⟨#[92, x]⟩ t [92, x] eb) (hx0 : 32 ≤ x.toNat) (hx1 : x.toNat ≤ 126) (hu : unV x.toNat = a) (hv : unB x.toNat = true) :
    Calls Tryd.prog 7 #[.int .i64 a, .int .i64 b] w fun e w' => e = .returned (.bool true) ∧ Below w.heap.size w w' := by
  have HT := Lib.hid hT
  clear hT
  have u1 := fun w => unescape_any x.toNat w
  rw [hu, hv] at u1
  have U1 := Lib.hid u1
  clear u1 hu hv
  have x0 : ((⟨#[92, x]⟩ : ByteArray)[0]'(show 0 < 2 from by decide)).toNat = 92 := rfl
  have x1 : ((⟨#[92, x]⟩ : ByteArray)[1]'(show 1 < 2 from by decide)).toNat = x.toNat := rfl
  rcases hl with ⟨hb, rfl⟩ | ⟨hb, rfl⟩ | ⟨rfl, rfl, rfl⟩ | ⟨hb0, hb1, hab, hst, hst2, rfl⟩
  all_goals
    (try have hd : decide (b ≤ 255) = false := decide_eq_false (by omega))
    have EA := Lib.hid h.ea
    have EB := Lib.hid h.eb
    clear h
    go_enter Tryd.func7, Tryd.ntmps7
    go_wp2_with fail
    refine (EA.out _ HT.out).mono ?_
    rintro e w1 ⟨rfl, hb1⟩
    have HB1 := Lib.hid hb1
    clear hb1
    go_wp2_with fail
    refine (EB.out _ (HT.out.below HB1.out)).mono ?_
    rintro e w2 ⟨rfl, hb2⟩
    have HB2 := Lib.hid (HB1.out.trans (hb2.mono HB1.out.size))
    clear hb2
    go_wp2_with fail
    refine wp_loop_rounds 3 ?_
    rw [rounds_succ]
    go_wp2_with fail
    rw [rounds_succ]
    go_wp2_with fail
    rw [rounds_succ]
    go_wp2_with fail
    refine (U1.out _).mono ?_
    rintro e w3 ⟨rfl, rfl⟩
    go_wp2_with fail
    refine (awake_true _ (HT.out.below HB2.out)).mono ?_
    rintro e w3 ⟨rfl, hb3⟩
    go_wp2_with fail
    go_ret
    exact ⟨rfl, HB2.out.trans (hb3.mono HB2.out.size)⟩

set_option maxHeartbeats 8000000 in
set_option maxRecDepth 100000 in
theorem escapes_four (a b : Int) (x : UInt8) (t : ByteArray) (eb : Bool) (w : World) (hT : Tabs w) (h : Pre a b ⟨#[92, 120, x, 92]⟩ t eb) (ha0 : 0 ≤ a) (ha1 : a ≤ 255) (hl : Lies a b ⟨#[92, 120, x, 92]⟩ t [92, 120, x, 92] eb) (hx0 : 32 ≤ x.toNat) (hx1 : x.toNat ≤ 126) (hd : Ch.digV x.toNat 16 = a) (hb : Ch.digB x.toNat 16 = true) :
    Calls Tryd.prog 7 #[.int .i64 a, .int .i64 b] w fun e w' => e = .returned (.bool true) ∧ Below w.heap.size w w' := by
  have HT := Lib.hid hT
  clear hT
  have d1 := fun w => digit_any x.toNat 16 w
  rw [hd, hb] at d1
  have D1 := Lib.hid d1
  clear d1 hd hb
  have x0 : ((⟨#[92, 120, x, 92]⟩ : ByteArray)[0]'(show 0 < 4 from by decide)).toNat = 92 := rfl
  have x1 : ((⟨#[92, 120, x, 92]⟩ : ByteArray)[1]'(show 1 < 4 from by decide)).toNat = 120 := rfl
  have x2 : ((⟨#[92, 120, x, 92]⟩ : ByteArray)[2]'(show 2 < 4 from by decide)).toNat = x.toNat := rfl
  have x3 : ((⟨#[92, 120, x, 92]⟩ : ByteArray)[3]'(show 3 < 4 from by decide)).toNat = 92 := rfl
  rcases hl with ⟨hb, rfl⟩ | ⟨hb, rfl⟩ | ⟨rfl, rfl, rfl⟩ | ⟨hb0, hb1, hab, hst, hst2, rfl⟩
  all_goals
    (try have hd : decide (b ≤ 255) = false := decide_eq_false (by omega))
    have EA := Lib.hid h.ea
    have EB := Lib.hid h.eb
    clear h
    go_enter Tryd.func7, Tryd.ntmps7
    go_wp2_with fail
    refine (EA.out _ HT.out).mono ?_
    rintro e w1 ⟨rfl, hb1⟩
    have HB1 := Lib.hid hb1
    clear hb1
    go_wp2_with fail
    refine (EB.out _ (HT.out.below HB1.out)).mono ?_
    rintro e w2 ⟨rfl, hb2⟩
    have HB2 := Lib.hid (HB1.out.trans (hb2.mono HB1.out.size))
    clear hb2
    go_wp2_with fail
    refine wp_loop_rounds 5 ?_
    rw [rounds_succ]
    go_wp2_with fail
    rw [rounds_succ]
    go_wp2_with fail
    rw [rounds_succ]
    go_wp2_with fail
    rw [rounds_succ]
    go_wp2_with fail
    rw [rounds_succ]
    go_wp2_with fail
    refine wp_loop_rounds 2 ?_
    rw [rounds_succ]
    go_wp2_with fail
    refine (D1.out _).mono ?_
    rintro e w3 ⟨rfl, rfl⟩
    go_wp2_with fail
    rw [rounds_succ]
    go_wp2_with fail
    refine (awake_true _ (HT.out.below HB2.out)).mono ?_
    rintro e w3 ⟨rfl, hb3⟩
    go_wp2_with fail
    go_ret
    exact ⟨rfl, HB2.out.trans (hb3.mono HB2.out.size)⟩

set_option maxHeartbeats 8000000 in
set_option maxRecDepth 100000 in
theorem escapes_five (a b : Int) (x y : UInt8) (t : ByteArray) (eb : Bool) (w : World) (hT : Tabs w) (h : Pre a b ⟨#[92, 120, x, y, 92]⟩ t eb) (ha0 : 0 ≤ a) (ha1 : a ≤ 255) (hl : Lies a b ⟨#[92, 120, x, y, 92]⟩ t [92, 120, x, y, 92] eb) (hx0 : 32 ≤ x.toNat) (hx1 : x.toNat ≤ 126) (hy0 : 32 ≤ y.toNat) (hy1 : y.toNat ≤ 126) (hd : Ch.digV x.toNat 16 = a / 16) (hb : Ch.digB x.toNat 16 = true) (hd2 : Ch.digV y.toNat 16 = a % 16) (hb2 : Ch.digB y.toNat 16 = true) :
    Calls Tryd.prog 7 #[.int .i64 a, .int .i64 b] w fun e w' => e = .returned (.bool true) ∧ Below w.heap.size w w' := by
  have HT := Lib.hid hT
  clear hT
  have d1 := fun w => digit_any x.toNat 16 w
  rw [hd, hb] at d1
  have D1 := Lib.hid d1
  have d2 := fun w => digit_any y.toNat 16 w
  rw [hd2, hb2] at d2
  have D2 := Lib.hid d2
  clear d1 hd hb d2 hd2 hb2
  have hq0 : 0 ≤ a / 16 := by omega
  have hq1 : a / 16 ≤ 15 := by omega
  have hr0 : 0 ≤ a % 16 := by omega
  have hr1 : a % 16 ≤ 15 := by omega
  have hqr : 16 * (a / 16) + a % 16 = a := by omega
  have x0 : ((⟨#[92, 120, x, y, 92]⟩ : ByteArray)[0]'(show 0 < 5 from by decide)).toNat = 92 := rfl
  have x1 : ((⟨#[92, 120, x, y, 92]⟩ : ByteArray)[1]'(show 1 < 5 from by decide)).toNat = 120 := rfl
  have x2 : ((⟨#[92, 120, x, y, 92]⟩ : ByteArray)[2]'(show 2 < 5 from by decide)).toNat = x.toNat := rfl
  have x3 : ((⟨#[92, 120, x, y, 92]⟩ : ByteArray)[3]'(show 3 < 5 from by decide)).toNat = y.toNat := rfl
  have x4 : ((⟨#[92, 120, x, y, 92]⟩ : ByteArray)[4]'(show 4 < 5 from by decide)).toNat = 92 := rfl
  rcases hl with ⟨hb, rfl⟩ | ⟨hb, rfl⟩ | ⟨rfl, rfl, rfl⟩ | ⟨hb0, hb1, hab, hst, hst2, rfl⟩
  all_goals
    (try have hd : decide (b ≤ 255) = false := decide_eq_false (by omega))
    have EA := Lib.hid h.ea
    have EB := Lib.hid h.eb
    clear h
    go_enter Tryd.func7, Tryd.ntmps7
    go_wp2_with fail
    refine (EA.out _ HT.out).mono ?_
    rintro e w1 ⟨rfl, hb1⟩
    have HB1 := Lib.hid hb1
    clear hb1
    go_wp2_with fail
    refine (EB.out _ (HT.out.below HB1.out)).mono ?_
    rintro e w2 ⟨rfl, hb2⟩
    have HB2 := Lib.hid (HB1.out.trans (hb2.mono HB1.out.size))
    clear hb2
    go_wp2_with fail
    refine wp_loop_rounds 6 ?_
    rw [rounds_succ]
    go_wp2_with fail
    rw [rounds_succ]
    go_wp2_with fail
    rw [rounds_succ]
    go_wp2_with fail
    rw [rounds_succ]
    go_wp2_with fail
    rw [rounds_succ]
    go_wp2_with fail
    rw [rounds_succ]
    go_wp2_with fail
    refine wp_loop_rounds 3 ?_
    rw [rounds_succ]
    go_wp2_with fail
    refine (D1.out _).mono ?_
    rintro e w3 ⟨rfl, rfl⟩
    go_wp2_with fail
    rw [rounds_succ]
    go_wp2_with fail
    refine (D2.out _).mono ?_
    rintro e w3 ⟨rfl, rfl⟩
    go_wp2_with fail
    rw [rounds_succ]
    go_wp2_with fail
    refine (awake_true _ (HT.out.below HB2.out)).mono ?_
    rintro e w3 ⟨rfl, hb3⟩
    go_wp2_with fail
    go_ret
    exact ⟨rfl, HB2.out.trans (hb3.mono HB2.out.size)⟩

end Go.Proofs.YtdlobgnhoiednaaDoor
