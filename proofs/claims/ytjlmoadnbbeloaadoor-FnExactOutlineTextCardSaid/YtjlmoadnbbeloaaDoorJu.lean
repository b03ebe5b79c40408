/- Texts of outlines: plain facts. -/
import Derived.Test.YtjlmoadnbbeloaaDoorJb
import Derived.Test.YtjlmoadnbbeloaaDoorLh
namespace Go.Proofs.YtjlmoadnbbeloaaDoor
open Go.RowKit
set_option linter.unusedVariables false
/-- The text of a knot: a tilde ahead if it is off the curve. -/
def knT (a : AKnot) : ByteArray := (if a.2.2 = true then ⟨#[]⟩ else ⟨#[126]⟩) ++ ptB a.1 a.2.1
/-- The text of k knots. -/
def jt (l : List AKnot) (k : Nat) : ByteArray := joinB ⟨#[32]⟩ ((l.take k).map knT)
/-- The text of k loops. -/
def outL (ds : List DLoop) (k : Nat) : ByteArray := (ds.take k).foldl (fun s l => s ++ jt l l.length ++ ⟨#[10]⟩) ⟨#[]⟩
def outTx (ds : List DLoop) : ByteArray := if vOl ds = true then outL ds ds.length else ⟨#[]⟩
theorem outTx_t {ds : List DLoop} (h : vOl ds = true) : outTx ds = outL ds ds.length := by unfold outTx; rw [if_pos h]
theorem outTx_f {ds : List DLoop} (h : vOl ds = false) : outTx ds = ⟨#[]⟩ := by unfold outTx; rw [h]; rfl
theorem outL_step {ds : List DLoop} {k : Nat} {l : DLoop} (h : ds[k]? = some l) : outL ds (k + 1) = outL ds k ++ jt l l.length ++ ⟨#[10]⟩ := by
  unfold outL; rw [List.take_add_one, h, List.foldl_append]; rfl
theorem jt_zero (l : List AKnot) : jt l 0 = ⟨#[]⟩ := rfl
theorem app_nil (s : ByteArray) : s ++ ⟨#[]⟩ = s := byt_ext (by simp)
theorem nil_app (s : ByteArray) : (⟨#[]⟩ : ByteArray) ++ s = s := byt_ext (by simp)
theorem app3 (a b c : ByteArray) : a ++ (b ++ c) = a ++ b ++ c := byt_ext (by simp)
theorem jt_first {l : List AKnot} {a : AKnot} (h : l[0]? = some a) : jt l (0 + 1) = knT a := by
  unfold jt; rw [List.take_add_one, h]; rfl
theorem jt_next {l : List AKnot} {k : Nat} {a : AKnot} (hk : 0 < k) (h : l[k]? = some a) : jt l (k + 1) = jt l k ++ ⟨#[32]⟩ ++ knT a := by
  unfold jt
  rw [List.take_add_one, h, List.map_append]
  refine joinB_snoc _ ?_ _
  have := (List.getElem?_eq_some_iff.1 h).1
  rw [List.length_map, List.length_take]; omega
theorem st_0t {O : ByteArray} {l : List AKnot} {x y : Int} (h : l[0]? = some (x, y, true)) : O ++ ptB x y = O ++ jt l (0 + 1) := by
  rw [jt_first h]; unfold knT; rw [if_pos rfl, nil_app]
theorem st_0f {O : ByteArray} {l : List AKnot} {x y : Int} (h : l[0]? = some (x, y, false)) : O ++ ⟨#[126]⟩ ++ ptB x y = O ++ jt l (0 + 1) := by
  rw [jt_first h]; unfold knT; rw [if_neg (by simp), app3]
theorem st_kt {O : ByteArray} {l : List AKnot} {k : Nat} {x y : Int} (hk : 0 < k) (h : l[k]? = some (x, y, true)) : O ++ jt l k ++ ⟨#[32]⟩ ++ ptB x y = O ++ jt l (k + 1) := by
  rw [jt_next hk h]; unfold knT; rw [if_pos rfl, nil_app]; exact byt_ext (by simp)
theorem st_kf {O : ByteArray} {l : List AKnot} {k : Nat} {x y : Int} (hk : 0 < k) (h : l[k]? = some (x, y, false)) : O ++ jt l k ++ ⟨#[32]⟩ ++ ⟨#[126]⟩ ++ ptB x y = O ++ jt l (k + 1) := by
  rw [jt_next hk h]; unfold knT; rw [if_neg (by simp)]; exact byt_ext (by simp)
theorem vOl_parts {ds : List DLoop} (h : vOl ds = true) : ds.length ≤ 12 ∧ ∀ (i : Nat) (d : DLoop), ds[i]? = some d → (1 ≤ d.length ∧ d.length ≤ 60) ∧ ∀ (k : Nat) (a : AKnot), d[k]? = some a → okB a.1 a.2.1 = true := by
  unfold vOl lUp at h
  simp only [Bool.and_eq_true, decide_eq_true_eq] at h
  refine ⟨h.1, fun i d hd => ?_⟩
  have h2 := h.2
  rw [List.take_length, List.all_eq_true] at h2
  have h3 := h2 d (List.mem_of_getElem? hd)
  unfold vLp kUp at h3
  simp only [Bool.and_eq_true, decide_eq_true_eq] at h3
  refine ⟨h3.1.1, fun k a ha => ?_⟩
  have h4 := h3.2
  rw [List.take_length, List.all_eq_true] at h4
  exact h4 a (List.mem_of_getElem? ha)
theorem okB_in {x y : Int} (h : okB x y = true) : (-9223372036854775808 ≤ x ∧ x ≤ 9223372036854775807) ∧ (-9223372036854775808 ≤ y ∧ y ≤ 9223372036854775807) := by
  have := okB_bounds h
  exact ⟨⟨by omega, by omega⟩, ⟨by omega, by omega⟩⟩
theorem knT_size {a : AKnot} (h : okB a.1 a.2.1 = true) : (knT a).size ≤ 44 := by
  have := ptB_size (okB_in h).1 (okB_in h).2
  unfold knT
  rw [size_app]
  split
  · have : (⟨#[]⟩ : ByteArray).size = 0 := rfl
    omega
  · have : (⟨#[126]⟩ : ByteArray).size = 1 := rfl
    omega
theorem jt_size {l : List AKnot} {k : Nat} (h60 : l.length ≤ 60) (h : ∀ (k : Nat) (a : AKnot), l[k]? = some a → okB a.1 a.2.1 = true) : (jt l k).size ≤ 2700 := by
  have h2 := joinB_size ⟨#[32]⟩ ((l.take k).map knT) 44 (fun y hy => by
    obtain ⟨a, ha, rfl⟩ := List.mem_map.1 hy
    obtain ⟨i, hi⟩ := List.mem_iff_getElem?.1 (List.mem_of_mem_take ha)
    exact knT_size (h i a hi))
  have h3 : ((l.take k).map knT).length ≤ 60 := by rw [List.length_map, List.length_take]; omega
  have h4 : (⟨#[32]⟩ : ByteArray).size = 1 := rfl
  rw [h4] at h2
  unfold jt
  have := Nat.mul_le_mul_right (1 + 44) h3
  omega
theorem outL_size {ds : List DLoop} (h : ∀ (i : Nat) (d : DLoop), ds[i]? = some d → (1 ≤ d.length ∧ d.length ≤ 60) ∧ ∀ (k : Nat) (a : AKnot), d[k]? = some a → okB a.1 a.2.1 = true) : ∀ k, k ≤ ds.length → (outL ds k).size ≤ k * 2701
  | 0, _ => Nat.zero_le _
  | k + 1, hk => by
    have ih := outL_size h k (by omega)
    obtain ⟨d, hd⟩ : ∃ d, ds[k]? = some d := ⟨ds[k]'(by omega), List.getElem?_eq_getElem (by omega)⟩
    rw [outL_step hd, size_app, size_app]
    have := jt_size (k := d.length) (h k d hd).1.2 (h k d hd).2
    have : (⟨#[10]⟩ : ByteArray).size = 1 := rfl
    omega
theorem RdLoop.elem0 {w : World} {B : Nat} {A : Option Addr} {ds : List DLoop} (h : RdLoop w B A ds) {k : Nat} {d : DLoop} (hd : ds[k]? = some d) : ∃ (g o : Nat) (A' : Option Addr) (c' : Nat), A = some ⟨g, o, none⟩ ∧ g < B ∧ w.cell? ⟨g, o + k, none⟩ = some (.slice A' d.length c') ∧ Rd cKnot 3 w B A' d := by
  obtain ⟨g, o, A', c', hA, hg, hc, hr⟩ := h.elem hd
  have h2 := hc 0 _ rfl
  rw [Nat.mul_one] at h2
  exact ⟨g, o, A', c', hA, hg, h2, hr⟩
end Go.Proofs.YtjlmoadnbbeloaaDoor
