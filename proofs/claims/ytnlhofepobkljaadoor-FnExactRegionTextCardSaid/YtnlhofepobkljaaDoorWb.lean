/- Texts of regions: plain facts. -/
import Derived.Test.YtnlhofepobkljaaDoorWa
import Derived.Test.YtnlhofepobkljaaDoorVp
namespace Go.Proofs.YtnlhofepobkljaaDoor
open Go.RowKit
set_option linter.unusedVariables false
/-- The text of k rings. -/
def outR (ds : List DRing) (k : Nat) : ByteArray := (ds.take k).foldl (fun s l => s ++ ptsB l ++ ⟨#[10]⟩) ⟨#[]⟩
def regTx (ds : List DRing) : ByteArray := if vRn ds = true then outR ds ds.length else ⟨#[]⟩
theorem regTx_t {ds : List DRing} (h : vRn ds = true) : regTx ds = outR ds ds.length := by unfold regTx; rw [if_pos h]
theorem regTx_f {ds : List DRing} (h : vRn ds = false) : regTx ds = ⟨#[]⟩ := by unfold regTx; rw [h]; rfl
theorem outR_step {ds : List DRing} {k : Nat} {l : DRing} (h : ds[k]? = some l) : outR ds (k + 1) = outR ds k ++ ptsB l ++ ⟨#[10]⟩ := by
  unfold outR; rw [List.take_add_one, h, List.foldl_append]; rfl
theorem outR_step2 {ds : List DRing} {k : Nat} {l : DRing} (h : ds[k]? = some l) : outR ds k ++ (ptsB l ++ ⟨#[10]⟩) = outR ds (k + 1) := by
  rw [outR_step h]; exact byt_ext (by simp)
theorem app_nil (s : ByteArray) : s ++ ⟨#[]⟩ = s := byt_ext (by simp)
theorem st_0 {O : ByteArray} {l : List APt} {x y : Int} (h : l[0]? = some (x, y)) : O ++ ptB x y = O ++ ptsB (l.take (0 + 1)) := by
  rw [ptsB_first h]
theorem st_k {O : ByteArray} {l : List APt} {k : Nat} {x y : Int} (hk : 0 < k) (h : l[k]? = some (x, y)) : O ++ ptsB (l.take k) ++ ⟨#[32]⟩ ++ ptB x y = O ++ ptsB (l.take (k + 1)) := by
  rw [ptsB_step hk h]; exact byt_ext (by simp)
theorem vRn_all2 {ds : List DRing} (h : vRn ds = true) : ds.length ≤ 40 ∧ ∀ (i : Nat) (d : DRing), ds[i]? = some d → (1 ≤ d.length ∧ d.length ≤ 400) ∧ ∀ (k : Nat) (a : APt), d[k]? = some a → okB a.1 a.2 = true := by
  obtain ⟨h1, h2, h3⟩ := vRn_parts h
  refine ⟨h1, fun i d hd => ?_⟩
  unfold rUp at h2
  rw [List.take_length, List.all_eq_true] at h2
  obtain ⟨g1, g2, g3⟩ := vRg_parts (h2 d (List.mem_of_getElem? hd))
  exact ⟨⟨g1, g2⟩, fun k a ha => pts_all g3 (x := a.1) (y := a.2) ha⟩
theorem okB_in {x y : Int} (h : okB x y = true) : (-9223372036854775808 ≤ x ∧ x ≤ 9223372036854775807) ∧ (-9223372036854775808 ≤ y ∧ y ≤ 9223372036854775807) := by
  have := okB_bounds h
  exact ⟨⟨by omega, by omega⟩, ⟨by omega, by omega⟩⟩
theorem ptsB_sz {l : List APt} (h4 : l.length ≤ 400) (h : ∀ (k : Nat) (a : APt), l[k]? = some a → okB a.1 a.2 = true) (q : Nat) : (ptsB (l.take q)).size ≤ 17600 := by
  have h2 := ptsB_size (take_in (fun i a ha => okB_in (h i a ha)) q)
  have h3 : (l.take q).length ≤ 400 := by rw [List.length_take]; omega
  have := Nat.mul_le_mul_right 44 h3
  omega
theorem outR_size {ds : List DRing} (h : ∀ (i : Nat) (d : DRing), ds[i]? = some d → (1 ≤ d.length ∧ d.length ≤ 400) ∧ ∀ (k : Nat) (a : APt), d[k]? = some a → okB a.1 a.2 = true) (k : Nat) (hk : k ≤ ds.length) : (outR ds k).size ≤ k * 17601 := by
  generalize hN : 17601 = N
  induction k with
  | zero => exact Nat.zero_le _
  | succ k ih =>
    obtain ⟨d, hd⟩ : ∃ d, ds[k]? = some d := ⟨ds[k]'(by omega), List.getElem?_eq_getElem (by omega)⟩
    have h1 := ih (by omega)
    rw [outR_step hd, size_app, size_app, Nat.succ_mul]
    have h2 := ptsB_sz (h k d hd).1.2 (h k d hd).2 d.length
    rw [List.take_length] at h2
    have : (⟨#[10]⟩ : ByteArray).size = 1 := rfl
    omega
theorem RdRing.elem0 {w : World} {B : Nat} {A : Option Addr} {ds : List DRing} (h : RdRing w B A ds) {k : Nat} {d : DRing} (hd : ds[k]? = some d) : ∃ (g o : Nat) (A' : Option Addr) (c' : Nat), A = some ⟨g, o, none⟩ ∧ g < B ∧ w.cell? ⟨g, o + k, none⟩ = some (.slice A' d.length c') ∧ Rd cPt 2 w B A' d := by
  obtain ⟨g, o, A', c', hA, hg, hc, hr⟩ := h.elem hd
  have h2 := hc 0 _ rfl
  rw [Nat.mul_one] at h2
  exact ⟨g, o, A', c', hA, hg, h2, hr⟩
end Go.Proofs.YtnlhofepobkljaaDoor
