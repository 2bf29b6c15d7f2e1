/-
  Plain mathematics of BallsShape: an error term's parts.
-/
import Derived.Test.YtapcnehpechkpaaIndM
namespace Go.Proofs.Ytapcnehpechkpaa
set_option linter.unusedVariables false
set_option linter.unusedSimpArgs false
set_option maxRecDepth 100000
namespace Bl
/-- Names, as atoms, with a culprit behind them. -/
def namesF : List ByteArray → Pay → Fo → Fo
  | [], p, l => .node p l .nil
  | k :: ks, p, l => .node (2, 0, k) .nil (namesF ks p l)
theorem namesF_len (ks : List ByteArray) (p : Pay) (l : Fo) : Tm.len (namesF ks p l) = ks.length + 1 := by
  induction ks with
  | nil => rfl
  | cons k ks ih => simp only [namesF, Tm.len, ih, List.length_cons]
theorem namesF_size (ks : List ByteArray) (p : Pay) (l : Fo) : Tm.size (namesF ks p l) = ks.length + (1 + Tm.size l) := by
  induction ks with
  | nil => simp [namesF, Tm.size]
  | cons k ks ih => simp only [namesF, Tm.size, ih, List.length_cons]; omega
theorem name_valid {k : ByteArray} (h : k.size ≤ 100) : Tm.validB (2, 0, k) .nil = true := by
  unfold Tm.validB Tm.goodB Tm.nodeB
  simp [Tm.size, Tm.len, Tm.allB, h]
theorem namesF_valid {ks : List ByteArray} {p : Pay} {l : Fo} (hk : ∀ k ∈ ks, k.size ≤ 100) (hv : Tm.validB p l = true) : Tm.allV (namesF ks p l) = true := by
  induction ks with
  | nil => simp [namesF, Tm.allV, hv]
  | cons k ks ih =>
    show (Tm.validB (2, 0, k) .nil && Tm.allV (namesF ks p l)) = true
    rw [name_valid (hk k (by simp)), ih fun x hx => hk x (by simp [hx])]
    rfl
theorem namesF_pre (ks : List ByteArray) (p : Pay) (l : Fo) (q : Pay) (m : Fo) : Tm.app (Tm.preF (namesF ks p l) ks.length) (.node q m .nil) = namesF ks q m := by
  induction ks with
  | nil => rfl
  | cons k ks ih =>
    show Fo.node (2, 0, k) .nil (Tm.app (Tm.preF (namesF ks p l) ks.length) (.node q m .nil)) = _
    rw [ih]
    rfl
/-- The culprit, or what stands for it. -/
def lastOf (n : Nat) (p : Pay) (l : Fo) : Pay × Fo := if 2000 < 1 + Tm.size l + 3 + n then (Tm.dots, .nil) else (p, l)
theorem err_shape {s : ByteArray} {ks : List ByteArray} {p : Pay} {l : Fo} (hs : s.size ≤ 100) (hn : ks.length ≤ 7) (hk : ∀ k ∈ ks, k.size ≤ 100) (hv : Tm.validB p l = true) :
    Tm.errOf s (namesF ks p l) = ((3, 0, Tm.errName), .node (3, 0, s) (namesF ks (lastOf ks.length p l).1 (lastOf ks.length p l).2) (.node Tm.emptyA .nil .nil)) := by
  have hd : Tm.validB Tm.dots .nil = true := by kernel_rfl
  have hl := namesF_len ks p l
  have hz := namesF_size ks p l
  unfold lastOf
  by_cases hb : 2000 < 1 + Tm.size l + 3 + ks.length
  · rw [if_pos hb]
    have hl2 := namesF_len ks Tm.dots .nil
    have hz2 := namesF_size ks Tm.dots .nil
    rw [← err_small (s := s) (F := namesF ks Tm.dots .nil) hs ⟨by omega, by omega⟩ (namesF_valid hk hd) (by rw [hz2]; simp only [Tm.size]; omega)]
    have c1 : Tm.cutF (namesF ks p l) = namesF ks Tm.dots .nil := by
      unfold Tm.cutF
      rw [if_pos (by omega), hl, Nat.add_sub_cancel]
      exact namesF_pre ks p l Tm.dots .nil
    have c2 : Tm.cutF (namesF ks Tm.dots .nil) = namesF ks Tm.dots .nil := by
      unfold Tm.cutF
      rw [if_neg (by rw [hz2]; simp only [Tm.size]; omega)]
    unfold Tm.errOf
    rw [if_pos (namesF_valid hk hv), if_pos (namesF_valid hk hd), c1, c2]
  · rw [if_neg hb]
    exact err_small hs ⟨by omega, by omega⟩ (namesF_valid hk hv) (by omega)
theorem un_names (p : Pay) (l : Fo) : un p l = Tm.errOf unN (namesF [] p l) := rfl
theorem ty_names (k : ByteArray) (p : Pay) (l : Fo) : ty k p l = Tm.errOf tyN (namesF [k] p l) := rfl
theorem dom_names (k : ByteArray) (p : Pay) (l : Fo) : dom k p l = Tm.errOf domN (namesF [k] p l) := rfl
theorem ext_names (k : ByteArray) (p : Pay) (l : Fo) : ext k p l = Tm.errOf extN (namesF [k] p l) := rfl
theorem perm_names (a k : ByteArray) (p : Pay) (l : Fo) : perm a k p l = Tm.errOf permN (namesF [a, k] p l) := rfl
/-- Formal of such a term. -/
theorem formal_shape {e : Pay × Fo} {s : ByteArray} {F : Fo} (he : e = ((3, 0, Tm.errName), .node (3, 0, s) F (.node Tm.emptyA .nil .nil))) (hv : Tm.validB e.1 e.2 = true) : formal e.1 e.2 = (((3, 0, s), F), true) := by
  subst he
  have hs : isS (3, 0, Tm.errName) (Fo.node (3, 0, s) F (Fo.node Tm.emptyA Fo.nil Fo.nil)) ⟨#[101, 114, 114, 111, 114]⟩ 2 = true := isS_true rfl rfl rfl
  have h0 : Tm.validB (3, 0, s) F = true := valid_arg0 hv rfl
  unfold formal
  rw [if_pos hv]
  show (if isS (3, 0, Tm.errName) (Fo.node (3, 0, s) F (Fo.node Tm.emptyA Fo.nil Fo.nil)) ⟨#[101, 114, 114, 111, 114]⟩ 2 = true then (Tm.cloneOf (3, 0, s) F, true) else ((zp, .nil), false)) = _
  rw [if_pos hs]
  unfold Tm.cloneOf
  rw [if_pos h0]
end Bl
end Go.Proofs.Ytapcnehpechkpaa
