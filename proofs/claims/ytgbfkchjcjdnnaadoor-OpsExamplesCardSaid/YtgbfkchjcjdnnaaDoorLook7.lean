/-
  lookUp, Prefix, Infix, Postfix of package ops: the operator of a class with a name.
-/
import Derived.Test.YtgbfkchjcjdnnaaDoorStore7
namespace Go.Proofs.YtgbfkchjcjdnnaaDoor
set_option linter.unusedVariables false
set_option linter.unusedSimpArgs false
open Go.RowKit Q

namespace Q
def lookE (L : List Ent) (c : Int) (nm : ByteArray) : Ent := (lookM L c nm).getD zE
def lookB (L : List Ent) (c : Int) (nm : ByteArray) : Bool := (lookM L c nm).isSome
theorem look_bad {L : List Ent} (h : goodB L = false) (c : Int) (nm : ByteArray) : lookE L c nm = zE ∧ lookB L c nm = false := by
  unfold lookE lookB lookM
  rw [h]
  exact ⟨rfl, rfl⟩
theorem look_pos {L : List Ent} {nm : ByteArray} {c : Int} {i : Nat} (hg : goodB L = true) (h : IsPos L nm c i) : lookM L c nm = if hitB L nm c i then some (ent L i) else none := by
  unfold lookM
  rw [hg, if_pos rfl]
  exact findM_pos h (goodB_iff.1 hg).sorted
end Q

theorem op_size : (Tryd.prog.info? 26).map (·.size) = some 3 := by kernel_rfl
theorem one3 (s : ByteArray) (t p : Int) : (#[Value.string s, .int .i64 t, .int .i64 p] : Array Value).all (·.oneCell') = true := by
  simp [Value.oneCell']

theorem h_len {w : World} {B n : Nat} {A : Option Addr} {L : List Ent} (h : OpsIn w B A n L) : L.length = n := h.len
/-- What a function that looks an operator up returns. -/
def LookEnd (L : List Ent) (c : Int) (nm : ByteArray) (e : Ending) : Prop := e = .returned (.tuple #[opV (lookE L c nm), .bool (lookB L c nm)])

set_option maxHeartbeats 4000000 in
theorem lookUp_any (A : Option Addr) (n cap : Nat) (nm : ByteArray) (c : Int) (L : List Ent) (w : World) (hT : Tabs w) (hm : n ≤ 9223372036854775807) (h : OpsIn w w.heap.size A n L) :
    Calls Tryd.prog 34 #[.slice A n cap, .string nm, .int .i64 c] w fun e w' => LookEnd L c nm e ∧ Below w.heap.size w w' := by
  have hb : Below w.heap.size w (w.alloc (.cells #[.string ⟨#[]⟩, .int .i64 0, .int .i64 0] 26)) := (Below.refl _ _).alloc (Nat.le_refl _) _
  have hnew : (w.alloc (.cells #[.string ⟨#[]⟩, .int .i64 0, .int .i64 0] 26)).heap[w.heap.size]? = some (.cells #[.string ⟨#[]⟩, .int .i64 0, .int .i64 0] 26 (0, 0)) := heap_alloc_new w _
  have hlt : w.heap.size < (w.alloc (.cells #[.string ⟨#[]⟩, .int .i64 0, .int .i64 0] 26)).heap.size := by simp
  have hV := valid_any A n cap L _ (hT.below hb) hm (h.on hb hb.size)
  have HB := Lib.hid hb
  have HP := Lib.hid h
  have HT := Lib.hid hT
  have HNEW := Lib.hid hnew
  have HLT := Lib.hid hlt
  clear hb h hT hnew hlt
  cases hg : goodB L
  · rw [hg] at hV
    have HV := Lib.hid hV
    have HE := Lib.hid (look_bad hg c nm)
    clear hV hg
    go_enter Tryd.func34, Tryd.ntmps34
    go_wp2_with fail
    refine HV.out.mono ?_
    rintro e w1 ⟨rfl, hb1⟩
    have HB1 := Lib.hid (HB.out.trans (hb1.mono HB.out.size))
    have HN1 := Lib.hid ((hb1.block _ HLT.out).trans HNEW.out)
    clear hb1
    go_wp2_with (refine wpList_store_own rfl 26 (.tmp 6) (.tmp 13) rfl w.heap.size #[.string ⟨#[]⟩, .int .i64 0, .int .i64 0] rfl rfl 26 _ HN1.out op_size rfl (one3 _ _ _) w.heap.size w HB1.out (Nat.le_refl _) ?_; intro w2 hg2 hb2 hs2)
    refine ret_op rfl rfl rfl rfl hg2.out ⟨?_, hb2.out⟩
    unfold LookEnd
    rw [HE.out.1, HE.out.2]
    rfl
  · rw [hg] at hV
    have HV := Lib.hid hV
    have hlen := h_len HP.out
    have HG := Lib.hid hg
    have hn : n ≤ 100 := by have := (goodB_iff.1 hg).1; omega
    clear hV hg
    go_enter Tryd.func34, Tryd.ntmps34
    go_wp2_with fail
    refine HV.out.mono ?_
    rintro e w1 ⟨rfl, hb1⟩
    have HB1 := Lib.hid (HB.out.trans (hb1.mono HB.out.size))
    have HN1 := Lib.hid ((hb1.block _ HLT.out).trans HNEW.out)
    have hlt1 : w.heap.size < w1.heap.size := Nat.lt_of_lt_of_le HLT.out hb1.size
    clear hb1
    go_wp2_with fail
    refine (find_any A n cap nm c L w1 (HT.out.below HB1.out) hn (HP.out.on HB1.out HB1.out.size) (goodB_iff.1 HG.out).sorted).mono ?_
    rintro e w2 ⟨⟨i, hi, rfl⟩, hb2⟩
    have HI := Lib.hid hi
    have HB2 := Lib.hid (HB1.out.trans (hb2.mono HB1.out.size))
    have HN2 := Lib.hid ((hb2.block _ hlt1).trans HN1.out)
    have HLK := Lib.hid (look_pos HG.out hi)
    clear hi hb2
    cases hh : hitB L nm c i
    · have HH := Lib.hid hh
      clear hh
      go_wp2_with (refine wpList_store_own rfl 26 (.tmp 6) (.tmp 23) rfl w.heap.size #[.string ⟨#[]⟩, .int .i64 0, .int .i64 0] rfl rfl 26 _ HN2.out op_size rfl (one3 _ _ _) w.heap.size w HB2.out (Nat.le_refl _) ?_; intro w3 hg3 hb3 hs3)
      refine ret_op rfl rfl rfl rfl hg3.out ⟨?_, hb3.out⟩
      unfold LookEnd lookE lookB
      rw [HLK.out, HH.out]
      rfl
    · have hil : i < n := by rw [← hlen]; exact (of_decide_eq_true hh : i < L.length ∧ _).1
      have HH := Lib.hid hh
      clear hh
      obtain ⟨b, off, rfl, hb', hc⟩ := HP.out.cells (by omega)
      have q0 := (HB2.out.cell (p := ⟨b, off + i * 3, none⟩) hb').trans (hc i hil).1
      have q1 := (HB2.out.cell (p := ⟨b, off + i * 3 + 1, none⟩) hb').trans (hc i hil).2.1
      have q2 := (HB2.out.cell (p := ⟨b, off + i * 3 + 2, none⟩) hb').trans (hc i hil).2.2
      obtain ⟨x, hx⟩ : ∃ x, x = ent L i := ⟨_, rfl⟩
      obtain ⟨x0, x1, x2⟩ := x
      rw [← hx] at q0 q1 q2
      have HX := Lib.hid hx
      clear hc hx
      simp only at q0 q1 q2
      go_wp2_with (refine wpList_store_own rfl 26 (.tmp 6) (.tmp 27) rfl w.heap.size #[.string x0, .int .i64 x1, .int .i64 x2] rfl rfl 26 _ HN2.out op_size rfl (one3 _ _ _) w.heap.size w HB2.out (Nat.le_refl _) ?_; intro w3 hg3 hb3 hs3)
      refine ret_op rfl rfl rfl rfl hg3.out ⟨?_, hb3.out⟩
      unfold LookEnd lookE lookB
      rw [HLK.out, HH.out, if_pos rfl, ← HX.out]
      rfl
end Go.Proofs.YtgbfkchjcjdnnaaDoor
