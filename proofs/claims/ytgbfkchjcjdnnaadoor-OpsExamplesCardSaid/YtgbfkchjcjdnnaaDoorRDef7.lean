/-
  Default of the reference returns the predefined operators.
-/
import Derived.Test.YtgbfkchjcjdnnaaDoorRSet7
namespace Go.Proofs.YtgbfkchjcjdnnaaDoor
set_option linter.unusedVariables false
set_option linter.unusedSimpArgs false
open Go.RowKit Q

theorem put_new (A : Option Addr) (cap m : Nat) (p t : Int) (names : List ByteArray) (V : Array Value) (L M : List Ent) (w W : World) (hV : V.toList = names.map Value.string) (hl : names.length = m) (hn : L.length + m ≤ 900) (h : OpsIn W W.heap.size A L.length L) (hM : M = putM L p t names) (hW : Below w.heap.size w W) :
    Calls Tryd.prog 44 #[.slice A L.length cap, .int .i64 p, .int .i64 t, .slice (some ⟨W.heap.size, 0, none⟩) m m] (W.alloc (.cells V 9)) fun e w' => TabEnd w' M e ∧ Below w.heap.size w w' := by
  have hb : Below W.heap.size W (W.alloc (.cells V 9)) := (Below.refl _ _).alloc (Nat.le_refl _) _
  subst hM
  refine (put_any A cap W.heap.size m p t names L _ hl hn (h.on hb hb.size) (by simp) fun j s hs => ?_).mono fun e w' ⟨he, hb2⟩ => ⟨he, hW.trans ((hb.trans (hb2.mono hb.size)).mono hW.size)⟩
  rw [cell_new]
  have : V.toList[j]? = some (.string s) := by rw [hV, List.getElem?_map, hs]; rfl
  simpa using this

def nm1 : List ByteArray := [⟨#[58, 45]⟩, ⟨#[45, 45, 62]⟩]
def nm2 : List ByteArray := [⟨#[58, 45]⟩, ⟨#[63, 45]⟩]
def nm3 : List ByteArray := [⟨#[59]⟩]
def nm4 : List ByteArray := [⟨#[45, 62]⟩]
def nm5 : List ByteArray := [⟨#[44]⟩]
def nm6 : List ByteArray := [⟨#[92, 43]⟩]
def nm7 : List ByteArray := [⟨#[61]⟩, ⟨#[92, 61]⟩, ⟨#[61, 61]⟩, ⟨#[92, 61, 61]⟩, ⟨#[64, 60]⟩, ⟨#[64, 61, 60]⟩, ⟨#[64, 62]⟩, ⟨#[64, 62, 61]⟩, ⟨#[61, 46, 46]⟩, ⟨#[105, 115]⟩, ⟨#[61, 58, 61]⟩, ⟨#[61, 92, 61]⟩, ⟨#[60]⟩, ⟨#[61, 60]⟩, ⟨#[62]⟩, ⟨#[62, 61]⟩]
def nm8 : List ByteArray := [⟨#[43]⟩, ⟨#[45]⟩, ⟨#[47, 92]⟩, ⟨#[92, 47]⟩]
def nm9 : List ByteArray := [⟨#[42]⟩, ⟨#[47]⟩, ⟨#[47, 47]⟩, ⟨#[114, 101, 109]⟩, ⟨#[109, 111, 100]⟩, ⟨#[100, 105, 118]⟩, ⟨#[60, 60]⟩, ⟨#[62, 62]⟩]
def nm10 : List ByteArray := [⟨#[42, 42]⟩]
def nm11 : List ByteArray := [⟨#[94]⟩]
def nm12 : List ByteArray := [⟨#[43]⟩, ⟨#[45]⟩, ⟨#[92]⟩]
def dl1 : List Ent := putM [] 1200 1 nm1
def dl2 : List Ent := putM dl1 1200 5 nm2
def dl3 : List Ent := putM dl2 1100 2 nm3
def dl4 : List Ent := putM dl3 1050 2 nm4
def dl5 : List Ent := putM dl4 1000 2 nm5
def dl6 : List Ent := putM dl5 900 4 nm6
def dl7 : List Ent := putM dl6 700 1 nm7
def dl8 : List Ent := putM dl7 500 3 nm8
def dl9 : List Ent := putM dl8 400 3 nm9
def dl10 : List Ent := putM dl9 200 1 nm10
def dl11 : List Ent := putM dl10 200 2 nm11
def dl12 : List Ent := putM dl11 200 4 nm12
theorem dl1_len : dl1.length = 2 := by unfold dl1; rw [putM_len]; rfl
theorem dl2_len : dl2.length = 4 := by unfold dl2; rw [putM_len, dl1_len]; rfl
theorem dl3_len : dl3.length = 5 := by unfold dl3; rw [putM_len, dl2_len]; rfl
theorem dl4_len : dl4.length = 6 := by unfold dl4; rw [putM_len, dl3_len]; rfl
theorem dl5_len : dl5.length = 7 := by unfold dl5; rw [putM_len, dl4_len]; rfl
theorem dl6_len : dl6.length = 8 := by unfold dl6; rw [putM_len, dl5_len]; rfl
theorem dl7_len : dl7.length = 24 := by unfold dl7; rw [putM_len, dl6_len]; rfl
theorem dl8_len : dl8.length = 28 := by unfold dl8; rw [putM_len, dl7_len]; rfl
theorem dl9_len : dl9.length = 36 := by unfold dl9; rw [putM_len, dl8_len]; rfl
theorem dl10_len : dl10.length = 37 := by unfold dl10; rw [putM_len, dl9_len]; rfl
theorem dl11_len : dl11.length = 38 := by unfold dl11; rw [putM_len, dl10_len]; rfl
theorem dl12_len : dl12.length = 41 := by unfold dl12; rw [putM_len, dl11_len]; rfl
theorem dl_def : dl12 = defL := by kernel_rfl

set_option maxHeartbeats 4000000 in
theorem rdefault_any (w : World) : Calls Tryd.prog 22 #[] w fun e w' => TabEnd w' defL e ∧ Below w.heap.size w w' := by
  rw [← dl_def]
  have h1 : dl1 = putM ([] : List Ent) 1200 1 nm1 := rfl
  have l1 := dl1_len
  have v1 : (#[Value.string ⟨#[58, 45]⟩, Value.string ⟨#[45, 45, 62]⟩] : Array Value).toList = nm1.map Value.string := rfl
  have h2 : dl2 = putM dl1 1200 5 nm2 := rfl
  have l2 := dl2_len
  have v2 : (#[Value.string ⟨#[58, 45]⟩, Value.string ⟨#[63, 45]⟩] : Array Value).toList = nm2.map Value.string := rfl
  have h3 : dl3 = putM dl2 1100 2 nm3 := rfl
  have l3 := dl3_len
  have v3 : (#[Value.string ⟨#[59]⟩] : Array Value).toList = nm3.map Value.string := rfl
  have h4 : dl4 = putM dl3 1050 2 nm4 := rfl
  have l4 := dl4_len
  have v4 : (#[Value.string ⟨#[45, 62]⟩] : Array Value).toList = nm4.map Value.string := rfl
  have h5 : dl5 = putM dl4 1000 2 nm5 := rfl
  have l5 := dl5_len
  have v5 : (#[Value.string ⟨#[44]⟩] : Array Value).toList = nm5.map Value.string := rfl
  have h6 : dl6 = putM dl5 900 4 nm6 := rfl
  have l6 := dl6_len
  have v6 : (#[Value.string ⟨#[92, 43]⟩] : Array Value).toList = nm6.map Value.string := rfl
  have h7 : dl7 = putM dl6 700 1 nm7 := rfl
  have l7 := dl7_len
  have v7 : (#[Value.string ⟨#[61]⟩, Value.string ⟨#[92, 61]⟩, Value.string ⟨#[61, 61]⟩, Value.string ⟨#[92, 61, 61]⟩, Value.string ⟨#[64, 60]⟩, Value.string ⟨#[64, 61, 60]⟩, Value.string ⟨#[64, 62]⟩, Value.string ⟨#[64, 62, 61]⟩, Value.string ⟨#[61, 46, 46]⟩, Value.string ⟨#[105, 115]⟩, Value.string ⟨#[61, 58, 61]⟩, Value.string ⟨#[61, 92, 61]⟩, Value.string ⟨#[60]⟩, Value.string ⟨#[61, 60]⟩, Value.string ⟨#[62]⟩, Value.string ⟨#[62, 61]⟩] : Array Value).toList = nm7.map Value.string := rfl
  have h8 : dl8 = putM dl7 500 3 nm8 := rfl
  have l8 := dl8_len
  have v8 : (#[Value.string ⟨#[43]⟩, Value.string ⟨#[45]⟩, Value.string ⟨#[47, 92]⟩, Value.string ⟨#[92, 47]⟩] : Array Value).toList = nm8.map Value.string := rfl
  have h9 : dl9 = putM dl8 400 3 nm9 := rfl
  have l9 := dl9_len
  have v9 : (#[Value.string ⟨#[42]⟩, Value.string ⟨#[47]⟩, Value.string ⟨#[47, 47]⟩, Value.string ⟨#[114, 101, 109]⟩, Value.string ⟨#[109, 111, 100]⟩, Value.string ⟨#[100, 105, 118]⟩, Value.string ⟨#[60, 60]⟩, Value.string ⟨#[62, 62]⟩] : Array Value).toList = nm9.map Value.string := rfl
  have h10 : dl10 = putM dl9 200 1 nm10 := rfl
  have l10 := dl10_len
  have v10 : (#[Value.string ⟨#[42, 42]⟩] : Array Value).toList = nm10.map Value.string := rfl
  have h11 : dl11 = putM dl10 200 2 nm11 := rfl
  have l11 := dl11_len
  have v11 : (#[Value.string ⟨#[94]⟩] : Array Value).toList = nm11.map Value.string := rfl
  have h12 : dl12 = putM dl11 200 4 nm12 := rfl
  have l12 := dl12_len
  have v12 : (#[Value.string ⟨#[43]⟩, Value.string ⟨#[45]⟩, Value.string ⟨#[92]⟩] : Array Value).toList = nm12.map Value.string := rfl
  generalize dl1 = M1 at *
  generalize dl2 = M2 at *
  generalize dl3 = M3 at *
  generalize dl4 = M4 at *
  generalize dl5 = M5 at *
  generalize dl6 = M6 at *
  generalize dl7 = M7 at *
  generalize dl8 = M8 at *
  generalize dl9 = M9 at *
  generalize dl10 = M10 at *
  generalize dl11 = M11 at *
  generalize dl12 = M12 at *
  have H1 := Lib.hid (fun (W : World) (hb : Below w.heap.size w W) => put_new none 0 2 1200 1 nm1 _ ([] : List Ent) M1 w W v1 rfl (by simp) (OpsIn.nil _ _ _) h1 hb)
  have H2 := Lib.hid (fun (A : Option Addr) (cap : Nat) (W : World) (ho : OpsIn W W.heap.size A M1.length M1) (hb : Below w.heap.size w W) => put_new A cap 2 1200 5 nm2 _ M1 M2 w W v2 rfl (by omega) ho h2 hb)
  have H3 := Lib.hid (fun (A : Option Addr) (cap : Nat) (W : World) (ho : OpsIn W W.heap.size A M2.length M2) (hb : Below w.heap.size w W) => put_new A cap 1 1100 2 nm3 _ M2 M3 w W v3 rfl (by omega) ho h3 hb)
  have H4 := Lib.hid (fun (A : Option Addr) (cap : Nat) (W : World) (ho : OpsIn W W.heap.size A M3.length M3) (hb : Below w.heap.size w W) => put_new A cap 1 1050 2 nm4 _ M3 M4 w W v4 rfl (by omega) ho h4 hb)
  have H5 := Lib.hid (fun (A : Option Addr) (cap : Nat) (W : World) (ho : OpsIn W W.heap.size A M4.length M4) (hb : Below w.heap.size w W) => put_new A cap 1 1000 2 nm5 _ M4 M5 w W v5 rfl (by omega) ho h5 hb)
  have H6 := Lib.hid (fun (A : Option Addr) (cap : Nat) (W : World) (ho : OpsIn W W.heap.size A M5.length M5) (hb : Below w.heap.size w W) => put_new A cap 1 900 4 nm6 _ M5 M6 w W v6 rfl (by omega) ho h6 hb)
  have H7 := Lib.hid (fun (A : Option Addr) (cap : Nat) (W : World) (ho : OpsIn W W.heap.size A M6.length M6) (hb : Below w.heap.size w W) => put_new A cap 16 700 1 nm7 _ M6 M7 w W v7 rfl (by omega) ho h7 hb)
  have H8 := Lib.hid (fun (A : Option Addr) (cap : Nat) (W : World) (ho : OpsIn W W.heap.size A M7.length M7) (hb : Below w.heap.size w W) => put_new A cap 4 500 3 nm8 _ M7 M8 w W v8 rfl (by omega) ho h8 hb)
  have H9 := Lib.hid (fun (A : Option Addr) (cap : Nat) (W : World) (ho : OpsIn W W.heap.size A M8.length M8) (hb : Below w.heap.size w W) => put_new A cap 8 400 3 nm9 _ M8 M9 w W v9 rfl (by omega) ho h9 hb)
  have H10 := Lib.hid (fun (A : Option Addr) (cap : Nat) (W : World) (ho : OpsIn W W.heap.size A M9.length M9) (hb : Below w.heap.size w W) => put_new A cap 1 200 1 nm10 _ M9 M10 w W v10 rfl (by omega) ho h10 hb)
  have H11 := Lib.hid (fun (A : Option Addr) (cap : Nat) (W : World) (ho : OpsIn W W.heap.size A M10.length M10) (hb : Below w.heap.size w W) => put_new A cap 1 200 2 nm11 _ M10 M11 w W v11 rfl (by omega) ho h11 hb)
  have H12 := Lib.hid (fun (A : Option Addr) (cap : Nat) (W : World) (ho : OpsIn W W.heap.size A M11.length M11) (hb : Below w.heap.size w W) => put_new A cap 3 200 4 nm12 _ M11 M12 w W v12 rfl (by omega) ho h12 hb)
  clear h1 l1 v1 h2 l2 v2 h3 l3 v3 h4 l4 v4 h5 l5 v5 h6 l6 v6 h7 l7 v7 h8 l8 v8 h9 l9 v9 h10 l10 v10 h11 l11 v11 h12 l12 v12
  go_enter Tryd.func22, Tryd.ntmps22
  go_wp2_with fail
  refine (H1.out w (Below.refl _ _)).mono ?_
  rintro e w1 ⟨⟨A1, c1, rfl, ho1⟩, hb1⟩
  have HO1 := Lib.hid ho1
  have HB1 := Lib.hid hb1
  clear ho1 hb1
  go_wp2_with fail
  refine (H2.out _ _ _ HO1.out HB1.out).mono ?_
  rintro e w2 ⟨⟨A2, c2, rfl, ho2⟩, hb2⟩
  have HO2 := Lib.hid ho2
  have HB2 := Lib.hid hb2
  clear ho2 hb2
  go_wp2_with fail
  refine (H3.out _ _ _ HO2.out HB2.out).mono ?_
  rintro e w3 ⟨⟨A3, c3, rfl, ho3⟩, hb3⟩
  have HO3 := Lib.hid ho3
  have HB3 := Lib.hid hb3
  clear ho3 hb3
  go_wp2_with fail
  refine (H4.out _ _ _ HO3.out HB3.out).mono ?_
  rintro e w4 ⟨⟨A4, c4, rfl, ho4⟩, hb4⟩
  have HO4 := Lib.hid ho4
  have HB4 := Lib.hid hb4
  clear ho4 hb4
  go_wp2_with fail
  refine (H5.out _ _ _ HO4.out HB4.out).mono ?_
  rintro e w5 ⟨⟨A5, c5, rfl, ho5⟩, hb5⟩
  have HO5 := Lib.hid ho5
  have HB5 := Lib.hid hb5
  clear ho5 hb5
  go_wp2_with fail
  refine (H6.out _ _ _ HO5.out HB5.out).mono ?_
  rintro e w6 ⟨⟨A6, c6, rfl, ho6⟩, hb6⟩
  have HO6 := Lib.hid ho6
  have HB6 := Lib.hid hb6
  clear ho6 hb6
  go_wp2_with fail
  refine (H7.out _ _ _ HO6.out HB6.out).mono ?_
  rintro e w7 ⟨⟨A7, c7, rfl, ho7⟩, hb7⟩
  have HO7 := Lib.hid ho7
  have HB7 := Lib.hid hb7
  clear ho7 hb7
  go_wp2_with fail
  refine (H8.out _ _ _ HO7.out HB7.out).mono ?_
  rintro e w8 ⟨⟨A8, c8, rfl, ho8⟩, hb8⟩
  have HO8 := Lib.hid ho8
  have HB8 := Lib.hid hb8
  clear ho8 hb8
  go_wp2_with fail
  refine (H9.out _ _ _ HO8.out HB8.out).mono ?_
  rintro e w9 ⟨⟨A9, c9, rfl, ho9⟩, hb9⟩
  have HO9 := Lib.hid ho9
  have HB9 := Lib.hid hb9
  clear ho9 hb9
  go_wp2_with fail
  refine (H10.out _ _ _ HO9.out HB9.out).mono ?_
  rintro e w10 ⟨⟨A10, c10, rfl, ho10⟩, hb10⟩
  have HO10 := Lib.hid ho10
  have HB10 := Lib.hid hb10
  clear ho10 hb10
  go_wp2_with fail
  refine (H11.out _ _ _ HO10.out HB10.out).mono ?_
  rintro e w11 ⟨⟨A11, c11, rfl, ho11⟩, hb11⟩
  have HO11 := Lib.hid ho11
  have HB11 := Lib.hid hb11
  clear ho11 hb11
  go_wp2_with fail
  refine (H12.out _ _ _ HO11.out HB11.out).mono ?_
  rintro e w12 ⟨⟨A12, c12, rfl, ho12⟩, hb12⟩
  have HO12 := Lib.hid ho12
  have HB12 := Lib.hid hb12
  clear ho12 hb12
  go_wp2_with fail
  go_ret
  exact ⟨⟨A12, c12, rfl, HO12.out⟩, HB12.out⟩
end Go.Proofs.YtgbfkchjcjdnnaaDoor
