/-
  Set of the reference lists the pairs of all characters anew: it returns the table in which the character is mapped as asked.
-/
import Derived.Test.YtdlobgnhoiednaaDoorClone
import Derived.Test.YtdlobgnhoiednaaDoorRefConvert
namespace Go.Proofs.YtdlobgnhoiednaaDoor
set_option linter.unusedVariables false
set_option linter.unusedSimpArgs false
open Go.RowKit

/-- What the reference makes of a character, and the pairs of the first k characters. -/
def mapTo (L : List (Int × Int)) (a b : Int) (c : Int) : Int := if c = a then b else conv L c
def listTo (L : List (Int × Int)) (a b : Int) : Nat → List (Int × Int)
  | 0 => []
  | k + 1 => listTo L a b k ++ if mapTo L a b k = (k : Int) then [] else [((k : Int), mapTo L a b k)]
theorem listTo_len (L : List (Int × Int)) (a b : Int) (k : Nat) : (listTo L a b k).length ≤ k := by
  induction k with
  | zero => simp [listTo]
  | succ k ih =>
    simp only [listTo, List.length_append]
    split <;> simp <;> omega

set_option maxHeartbeats 1000000 in
theorem refSet_bad (A : Option Addr) (n cap B : Nat) (a b : Int) (L : List (Int × Int)) (w : World) (hn : n ≤ 1000) (h : PairsIn w B A n L) (hok : setOk L a b = false) :
    Calls Tryd.prog 23 #[.slice A n cap, .int .i64 a, .int .i64 b] w fun e w' => e = .returned (.tuple #[.slice none 0 0, .int .i64 1]) ∧ Below w.heap.size w w' := by
  have HP := Lib.hid h
  clear h
  rcases setOk_no hok with hg | ⟨hg, h1⟩ | ⟨hg, h1, h2⟩
  · clear hok
    go_enter Tryd.func23, Tryd.ntmps23
    go_wp2_with fail
    refine (refValid_any A n cap B L _ hn HP.out).mono ?_
    rintro e w1 ⟨rfl, hq⟩
    have HQ := Lib.hid hq
    clear hq
    go_wp2_with fail
    go_ret2
    exact ⟨rfl, below_of_drewN HQ.out⟩
  · clear hok
    go_enter Tryd.func23, Tryd.ntmps23
    go_wp2_with fail
    refine (refValid_any A n cap B L _ hn HP.out).mono ?_
    rintro e w1 ⟨rfl, hq⟩
    have HQ := Lib.hid hq
    clear hq
    go_wp2_with fail
    refine (refIs_any _ _).mono ?_
    rintro e w2 ⟨rfl, rfl⟩
    go_wp2_with fail
    go_ret2
    exact ⟨rfl, below_of_drewN HQ.out⟩
  · clear hok
    go_enter Tryd.func23, Tryd.ntmps23
    go_wp2_with fail
    refine (refValid_any A n cap B L _ hn HP.out).mono ?_
    rintro e w1 ⟨rfl, hq⟩
    have HQ := Lib.hid hq
    clear hq
    go_wp2_with fail
    refine (refIs_any _ _).mono ?_
    rintro e w2 ⟨rfl, rfl⟩
    go_wp2_with fail
    refine (refIs_any _ _).mono ?_
    rintro e w2 ⟨rfl, rfl⟩
    go_wp2_with fail
    go_ret2
    exact ⟨rfl, below_of_drewN HQ.out⟩

def RefSetEnd (w' : World) (M : List (Int × Int)) (e : Ending) : Prop :=
  ∃ A c, e = .returned (.tuple #[.slice A M.length c, .int .i64 0]) ∧ M.length ≤ c ∧ PairsIn w' w'.heap.size A M.length M

theorem mem_refconv {w w1 : World} {B n : Nat} {A : Option Addr} {L : List (Int × Int)} (h : PairsIn w B A n L) (hq : ∃ q, w1 = w.drewN q) : PairsIn w1 B A n L :=
  h.keep fun p _ => cell_drewN hq p

set_option maxHeartbeats 2000000 in
theorem refSet_good (A : Option Addr) (n cap : Nat) (a b : Int) (L : List (Int × Int)) (w : World) (hn : n ≤ 1000) (h : PairsIn w w.heap.size A n L) (hok : setOk L a b = true) :
    Calls Tryd.prog 23 #[.slice A n cap, .int .i64 a, .int .i64 b] w fun e w' => RefSetEnd w' (listTo L a b 256) e ∧ Below w.heap.size w w' := by
  obtain ⟨i0, hi0, hz0, hz1, hz2⟩ := info_parts pair_info
  obtain ⟨hg, h1, h2⟩ := setOk_yes hok
  clear hok
  have HP := Lib.hid h
  clear h
  go_enter Tryd.func23, Tryd.ntmps23
  go_wp2_with fail
  refine (refValid_any A n cap _ L _ hn HP.out).mono ?_
  rintro e w1 ⟨rfl, hq⟩
  have HQ := Lib.hid hq
  clear hq
  go_wp2_with fail
  refine (refIs_any _ _).mono ?_
  rintro e w2 ⟨rfl, rfl⟩
  go_wp2_with fail
  refine (refIs_any _ _).mono ?_
  rintro e w2 ⟨rfl, rfl⟩
  go_wp2_with fail
  go_loopw [8, 9] (fun v i wr => ∃ k : Nat, k ≤ 256 ∧ i = .int .i64 k ∧ wr.ownsRow w.heap.size 30 2 v (listTo L a b k).length (cellsOf (listTo L a b k)) ∧ Below w.heap.size w wr) (fun _ i _ => 256 - (intOf i).toNat)
  case atStart => exact ⟨0, by omega, rfl, World.ownsRow_nil _ _ _ _, below_of_drewN HQ.out⟩
  case round =>
    obtain ⟨k, hk, rfl, hown, hb⟩ := hrel
    have HO := Lib.hid hown
    have HB := Lib.hid hb
    clear hown hb
    by_cases hlt : k < 256
    · have hk1 : (k : Int) ≤ 255 := by omega
      go_wp2_with fail
      refine (refConvert_any A n cap w.heap.size k L _ hn (HP.out.below HB.out)).mono ?_
      rintro e w3 ⟨rfl, hq3⟩
      have HB3 := Lib.hid (HB.out.trans (below_of_drewN hq3))
      have HO3 := Lib.hid (show w3.ownsRow w.heap.size 30 2 u8 (listTo L a b k).length (cellsOf (listTo L a b k)) from by obtain ⟨q, rfl⟩ := hq3; exact HO.out)
      clear hq3
      by_cases hka : (k : Int) = a
      · have hkb : ((k : Int) == a) = true := by rw [beq_iff_eq]; exact hka
        have hm : mapTo L a b k = b := by unfold mapTo; rw [if_pos hka]
        clear hka
        by_cases hx : b = (k : Int)
        · have hxb : (b != (k : Int)) = false := by rw [bne_eq_false_iff_eq]; exact hx
          have hls : listTo L a b (k + 1) = listTo L a b k := by simp only [listTo]; rw [hm, if_pos hx, List.append_nil]
          have HLS := Lib.hid hls
          clear hls hx hm
          go_wp2_with fail
          exact ⟨⟨k + 1, by omega, by go_num, by rw [HLS.out]; exact HO3.out, HB3.out⟩, by simp [intOf]; omega⟩
        · have hxb : (b != (k : Int)) = true := by rw [bne_iff_ne]; exact hx
          have hls : listTo L a b (k + 1) = listTo L a b k ++ [((k : Int), b)] := by simp only [listTo]; rw [hm, if_neg hx]
          have HLS := Lib.hid hls
          clear hls hx hm
          have hll : Hid ((listTo L a b k).length ≤ k) := listTo_len L a b k
          have hnew : Hid (∀ j u, [Value.int .i64 k, Value.int .i64 b][j]? = some u → (w3.alloc (.cells #[.int .i64 k, .int .i64 b] 30)).cell? ((⟨w3.heap.size, 0, none⟩ : Addr).add j) = some u) := by
            intro j u hu
            rw [add_plain, Nat.zero_add, World.cell?_alloc_at _ _ _ _ rfl]
            simpa using hu
          have howna : Hid ((w3.alloc (.cells #[.int .i64 k, .int .i64 b] 30)).ownsRow w.heap.size 30 2 u8 (listTo L a b k).length (cellsOf (listTo L a b k))) := HO3.out.alloc _
          have hbs : Hid (w.heap.size ≤ w3.heap.size) := HB3.out.size
          have howb : Hid (∀ q, u8.ownBlock = some q → w.heap.size ≤ q) := fun q hq => (HO3.out.lt q hq).1
          go_wp2_with (at_builtin; refine wpList_append_own _ rfl (.tmp 38) (.tmp 42) 31 rfl w.heap.size 30 i0 (.agg #[.int .i64 0, .int .i64 0]) 2 16 Tryd.underlying31 hi0 hz0 hz1 hz2 rfl (by decide) _ _ _ rfl howna.out ⟨w3.heap.size, 0, none⟩ 1 1 [.int .i64 k, .int .i64 b] rfl rfl hnew.out (by intro v hv; simp at hv; rcases hv with rfl | rfl <;> rfl) (by have := hll.out; unfold maxLen; omega) (by have := hll.out; omega) (by have := hbs.out; simp; omega) ?_; intro v4 w4 hown4 hg4 _)
          have HO4 := Lib.hid hown4
          have HB4 := Lib.hid ((HB3.out.alloc hbs.out (.cells #[.int .i64 k, .int .i64 b] 30)).grown hg4 (by have := hbs.out; simp; omega) howb.out)
          clear hown4 hg4
          go_wp2_with fail
          exact ⟨⟨k + 1, by omega, by go_num, by rw [HLS.out, cellsOf_append, List.length_append]; exact HO4.out, HB4.out⟩, by simp [intOf]; omega⟩
      · have hkb : ((k : Int) == a) = false := by rw [beq_eq_false_iff_ne]; exact hka
        have hm : mapTo L a b k = conv L k := by unfold mapTo; rw [if_neg hka]
        clear hka
        by_cases hx : conv L k = (k : Int)
        · have hxb : (conv L k != (k : Int)) = false := by rw [bne_eq_false_iff_eq]; exact hx
          have hls : listTo L a b (k + 1) = listTo L a b k := by simp only [listTo]; rw [hm, if_pos hx, List.append_nil]
          have HLS := Lib.hid hls
          clear hls hx hm
          go_wp2_with fail
          exact ⟨⟨k + 1, by omega, by go_num, by rw [HLS.out]; exact HO3.out, HB3.out⟩, by simp [intOf]; omega⟩
        · have hxb : (conv L k != (k : Int)) = true := by rw [bne_iff_ne]; exact hx
          have hls : listTo L a b (k + 1) = listTo L a b k ++ [((k : Int), conv L k)] := by simp only [listTo]; rw [hm, if_neg hx]
          have HLS := Lib.hid hls
          clear hls hx hm
          have hll : Hid ((listTo L a b k).length ≤ k) := listTo_len L a b k
          have hnew : Hid (∀ j u, [Value.int .i64 k, Value.int .i64 (conv L k)][j]? = some u → (w3.alloc (.cells #[.int .i64 k, .int .i64 (conv L k)] 30)).cell? ((⟨w3.heap.size, 0, none⟩ : Addr).add j) = some u) := by
            intro j u hu
            rw [add_plain, Nat.zero_add, World.cell?_alloc_at _ _ _ _ rfl]
            simpa using hu
          have howna : Hid ((w3.alloc (.cells #[.int .i64 k, .int .i64 (conv L k)] 30)).ownsRow w.heap.size 30 2 u8 (listTo L a b k).length (cellsOf (listTo L a b k))) := HO3.out.alloc _
          have hbs : Hid (w.heap.size ≤ w3.heap.size) := HB3.out.size
          have howb : Hid (∀ q, u8.ownBlock = some q → w.heap.size ≤ q) := fun q hq => (HO3.out.lt q hq).1
          go_wp2_with (at_builtin; refine wpList_append_own _ rfl (.tmp 38) (.tmp 42) 31 rfl w.heap.size 30 i0 (.agg #[.int .i64 0, .int .i64 0]) 2 16 Tryd.underlying31 hi0 hz0 hz1 hz2 rfl (by decide) _ _ _ rfl howna.out ⟨w3.heap.size, 0, none⟩ 1 1 [.int .i64 k, .int .i64 (conv L k)] rfl rfl hnew.out (by intro v hv; simp at hv; rcases hv with rfl | rfl <;> rfl) (by have := hll.out; unfold maxLen; omega) (by have := hll.out; omega) (by have := hbs.out; simp; omega) ?_; intro v4 w4 hown4 hg4 _)
          have HO4 := Lib.hid hown4
          have HB4 := Lib.hid ((HB3.out.alloc hbs.out (.cells #[.int .i64 k, .int .i64 (conv L k)] 30)).grown hg4 (by have := hbs.out; simp; omega) howb.out)
          clear hown4 hg4
          go_wp2_with fail
          exact ⟨⟨k + 1, by omega, by go_num, by rw [HLS.out, cellsOf_append, List.length_append]; exact HO4.out, HB4.out⟩, by simp [intOf]; omega⟩
    · obtain rfl : k = 256 := by omega
      go_wp2_with fail
      go_ret2
      obtain ⟨A', c, hv, hc, hp⟩ := own_pairs HO.out
      exact ⟨⟨A', c, by rw [← hv]; rfl, hc, hp⟩, HB.out⟩

end Go.Proofs.YtdlobgnhoiednaaDoor
