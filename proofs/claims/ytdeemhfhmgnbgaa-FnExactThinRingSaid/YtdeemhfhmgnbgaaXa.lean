/- Walks: twice the area of a region, the reference's side. -/
import Derived.Test.YtdeemhfhmgnbgaaVp
namespace Go.Proofs.Ytdeemhfhmgnbgaa
open Go.RowKit
set_option linter.unusedVariables false
def crI (x y u v : Int) : Int := x * v - y * u
def crE (a : AEdge) : Int := crI a.1 a.2.1 a.2.2.1 a.2.2.2
def crAt (l : List APt) (k : Nat) : Int :=
  match l[k]?, l[(k + 1) % l.length]? with
  | some a, some b => crI a.1 a.2 b.1 b.2
  | _, _ => 0
def twUp (l : List APt) (k : Nat) : Int := ((List.range k).map (crAt l)).sum
def twL (l : List APt) : Int := twUp l l.length
def arUp (ds : List DRing) (k : Nat) : Int := ((ds.take k).map twL).sum
def arL (ds : List DRing) : Int := arUp ds ds.length
def crS (es : List AEdge) (k : Nat) : Int := ((es.take k).map crE).sum
theorem isum_app (a b : List Int) : (a ++ b).sum = a.sum + b.sum := by
  induction a with
  | nil => simp
  | cons x a ih => simp only [List.cons_append, List.sum_cons, ih]; omega
theorem crAt_is {l : List APt} {k j : Nat} {x y u v : Int} (ha : l[k]? = some (x, y)) (hj : (k + 1) % l.length = j) (hb : l[j]? = some (u, v)) : crAt l k = x * v - y * u := by
  unfold crAt; rw [ha, hj, hb]; rfl
theorem twUp_zero (l : List APt) : twUp l 0 = 0 := rfl
theorem twUp_succ (l : List APt) (k : Nat) : twUp l (k + 1) = twUp l k + crAt l k := by
  unfold twUp; rw [List.range_succ, List.map_append, isum_app]; simp
theorem arUp_zero (ds : List DRing) : arUp ds 0 = 0 := rfl
theorem arUp_succ {ds : List DRing} {k : Nat} {d : DRing} (h : ds[k]? = some d) : arUp ds k + twL d = arUp ds (k + 1) := by
  unfold arUp; rw [List.take_add_one, h, List.map_append, isum_app]; simp
theorem crS_zero (es : List AEdge) : crS es 0 = 0 := rfl
theorem crS_succ {es : List AEdge} {k : Nat} {a : AEdge} (h : es[k]? = some a) : crS es k + crE a = crS es (k + 1) := by
  unfold crS; rw [List.take_add_one, h, List.map_append, isum_app]; simp
theorem cr_same {x y u v : Int} (h : x = u ∧ y = v) : crI x y u v = 0 := by
  unfold crI; obtain ⟨rfl, rfl⟩ := h; rw [Int.mul_comm]; omega
theorem edgeAt_cr (l : List APt) (k : Nat) : ((edgeAt l k).map crE).sum = crAt l k := by
  unfold edgeAt crAt
  rcases l[k]? with _ | ⟨x, y⟩
  · rfl
  · rcases l[(k + 1) % l.length]? with _ | ⟨u, v⟩
    · rfl
    · by_cases h : x = u ∧ y = v
      · simp only [if_pos h]; exact (cr_same h).symm
      · simp only [if_neg h]; simp [crE]
theorem edUp_cr (l : List APt) : ∀ k, ((edUp l k).map crE).sum = twUp l k
  | 0 => rfl
  | k + 1 => by rw [edUp_succ, List.map_append, isum_app, edUp_cr l k, edgeAt_cr, twUp_succ]
theorem allE_cr : ∀ ds : List DRing, ((allE ds).map crE).sum = (ds.map twL).sum
  | [] => rfl
  | d :: ds => by
    show ((edL d ++ allE ds).map crE).sum = _
    rw [List.map_append, isum_app, allE_cr ds, show ((edL d).map crE).sum = twL d from edUp_cr d _]
    simp
theorem crS_all (ds : List DRing) : crS (allE ds) (allE ds).length = arL ds := by
  unfold crS arL arUp; rw [List.take_length, List.take_length]; exact allE_cr ds
theorem cr_bound {x y u v : Int} (h1 : okB x y = true) (h2 : okB u v = true) :
    (-274877906944 ≤ x * v ∧ x * v ≤ 274877906944) ∧ (-274877906944 ≤ y * u ∧ y * u ≤ 274877906944) := by
  have a := okB_bounds h1
  have b := okB_bounds h2
  exact ⟨prod_bound (by omega) (by omega) (by omega) (by omega), prod_bound (by omega) (by omega) (by omega) (by omega)⟩
theorem crAt_bound {l : List APt} (h : ptsUp l l.length = true) (k : Nat) : -549755813888 ≤ crAt l k ∧ crAt l k ≤ 549755813888 := by
  unfold crAt
  rcases ha : l[k]? with _ | ⟨x, y⟩
  · simp
  · rcases hb : l[(k + 1) % l.length]? with _ | ⟨u, v⟩
    · simp
    · have := cr_bound (pts_all h ha) (pts_all h hb)
      simp only [crI]; omega
theorem twUp_bound {l : List APt} (h : ptsUp l l.length = true) : ∀ k : Nat, -((k : Int) * 549755813888) ≤ twUp l k ∧ twUp l k ≤ (k : Int) * 549755813888
  | 0 => by simp [twUp]
  | k + 1 => by
    have a := twUp_bound h k
    have b := crAt_bound h k
    rw [twUp_succ]; omega
theorem arUp_bound_ {ds : List DRing} (h : ∀ d ∈ ds, vRg d = true) : -((ds.length : Int) * 219902325555200) ≤ (ds.map twL).sum ∧ (ds.map twL).sum ≤ (ds.length : Int) * 219902325555200 := by
  induction ds with
  | nil => simp
  | cons d ds ih =>
    have a := ih (fun x hx => h x (List.mem_cons_of_mem _ hx))
    obtain ⟨h1, h2, h3⟩ := vRg_parts (h d (List.mem_cons_self ..))
    have b : -((d.length : Int) * 549755813888) ≤ twL d ∧ twL d ≤ (d.length : Int) * 549755813888 := twUp_bound h3 d.length
    simp only [List.map_cons, List.sum_cons, List.length_cons]
    omega
theorem arUp_bound {ds : List DRing} (h0 : ds.length ≤ 40) (h : ∀ d ∈ ds, vRg d = true) (k : Nat) : -8796093022208000 ≤ arUp ds k ∧ arUp ds k ≤ 8796093022208000 := by
  have a := arUp_bound_ (ds := ds.take k) (fun d hd => h d (List.mem_of_mem_take hd))
  have b : (ds.take k).length ≤ 40 := by rw [List.length_take]; omega
  unfold arUp; omega
theorem vRn_each {ds : List DRing} (h : vRn ds = true) : ∀ d ∈ ds, vRg d = true := by
  have := (vRn_parts h).2.1
  unfold rUp at this
  rw [List.take_length, List.all_eq_true] at this
  exact this
def okE (a : AEdge) : Prop := okB a.1 a.2.1 = true ∧ okB a.2.2.1 a.2.2.2 = true
theorem edgeAt_okx {l : List APt} (h : ptsUp l l.length = true) {k : Nat} {e : AEdge} (he : e ∈ edgeAt l k) : okE e := by
  unfold edgeAt at he
  rcases ha : l[k]? with _ | ⟨x, y⟩
  · rw [ha] at he; simp at he
  · rcases hb : l[(k + 1) % l.length]? with _ | ⟨u, v⟩
    · rw [ha, hb] at he; simp at he
    · rw [ha, hb] at he
      simp only at he
      split at he
      · simp at he
      · rw [List.mem_singleton] at he; subst he
        exact ⟨pts_all h ha, pts_all h hb⟩
theorem allE_okx {ds : List DRing} (h : vRn ds = true) {e : AEdge} (he : e ∈ allE ds) : okE e := by
  unfold allE at he
  obtain ⟨d, hd, hm⟩ := List.mem_flatMap.1 he
  unfold edL edUp at hm
  obtain ⟨k, hk, hm⟩ := List.mem_flatMap.1 hm
  exact edgeAt_okx (vRg_parts (vRn_each h d hd)).2.2 hm
theorem crE_bound {a : AEdge} (h : okE a) : -549755813888 ≤ crE a ∧ crE a ≤ 549755813888 := by
  have := cr_bound h.1 h.2; unfold crE crI; omega
theorem crS_bound {es : List AEdge} (h : ∀ a ∈ es, okE a) : ∀ k : Nat, -((k : Int) * 549755813888) ≤ crS es k ∧ crS es k ≤ (k : Int) * 549755813888
  | 0 => by simp [crS]
  | k + 1 => by
    have a := crS_bound h k
    rcases hk : es[k]? with _ | e
    · have : crS es (k + 1) = crS es k := by unfold crS; rw [List.take_add_one, hk]; simp
      rw [this]; omega
    · have b := crE_bound (h e (List.mem_of_getElem? hk))
      rw [← crS_succ hk]; omega
theorem ar_no {ds : List DRing} (h : vRn ds = false) : 0 = (bif vRn ds then arL ds else 0) ∧ 1 = (bif vRn ds then (0 : Int) else 1) := by rw [h]; exact ⟨rfl, rfl⟩
theorem ar_yes {ds : List DRing} (h : vRn ds = true) : arL ds = (bif vRn ds then arL ds else 0) ∧ 0 = (bif vRn ds then (0 : Int) else 1) := by rw [h]; exact ⟨rfl, rfl⟩
def arN (ds : List DRing) : Int := bif vRn ds then arL ds else 0
def arC (ds : List DRing) : Int := bif vRn ds then 0 else 1
set_option maxRecDepth 100000 in
set_option maxHeartbeats 6400000 in
theorem l14Twice_any (l : List APt) (A : Option Addr) (c : Nat) (w : World) (hv : vRg l = true) (r : Rd cPt 2 w w.heap.size A l) :
    Calls Try.prog 54 #[.slice A l.length c] w fun e w' => e = .returned (.int .i64 (twL l)) ∧ Below w.heap.size w w' := by
  obtain ⟨L, hL⟩ : ∃ L, L = twL l := ⟨_, rfl⟩
  rw [← hL]
  have HL := Lib.hid hL
  clear hL
  obtain ⟨h1, h400, hpts⟩ := vRg_parts hv
  have HP := Lib.hid hpts
  clear hpts hv
  obtain ⟨n, hn⟩ : ∃ n, n = l.length := ⟨_, rfl⟩
  rw [← hn] at h1 h400 ⊢
  have HN := Lib.hid hn
  clear hn
  go_enter Try.func54, Try.ntmps54
  go_wp2_with fail
  go_loopw [3, 4] (fun s i wr => ∃ k : Nat, k ≤ n ∧ i = .int .i64 (k : Int) ∧ s = .int .i64 (twUp l k) ∧ Below w.heap.size w wr) (fun _ i _ => n - (intOf i).toNat)
  case atStart => exact ⟨0, Nat.zero_le _, rfl, rfl, by repeat' (first | with_reducible assumption | with_reducible exact Below.refl _ _ | (with_reducible refine Below.setCell ?_ ?_ _) | (with_reducible refine Below.alloc ?_ ?_ _) | (with_reducible refine Below.drew ?_) | (with_reducible refine below_dr ?_ _) | (with_reducible refine Below.trans ?_ (Below.mono (by with_reducible assumption) ?_)) | omega | (simp; done) | (simp; omega))⟩
  case round =>
    obtain ⟨k, hk, rfl, rfl, hbl⟩ := hrel
    have zr := hbl.size
    by_cases hlt : k < n
    case pos =>
      obtain ⟨j, hj⟩ : ∃ j, (k + 1) % l.length = j := ⟨_, rfl⟩
      have hjn : j < n := by rw [← hj, ← HN.out]; exact Nat.mod_lt _ (by omega)
      obtain ⟨⟨x0, x1⟩, ha⟩ : ∃ a, l[k]? = some a := ⟨l[k]'(by have := HN.out; omega), List.getElem?_eq_getElem (by have := HN.out; omega)⟩
      obtain ⟨⟨y0, y1⟩, hb⟩ : ∃ a, l[j]? = some a := ⟨l[j]'(by have := HN.out; omega), List.getElem?_eq_getElem (by have := HN.out; omega)⟩
      obtain ⟨g, o, rfl, hg, hc⟩ := (r.below hbl).elem ha
      obtain ⟨g', o', hgo, hg', hc'⟩ := (r.below hbl).elem hb
      obtain ⟨rfl, rfl⟩ : g = g' ∧ o = o' := by injection hgo with h; injection h with h1 h2; exact ⟨h1, h2⟩
      have p0 : wr.cell? ⟨g, o + k * 2, none⟩ = some (.int .i64 x0) := hc 0 _ rfl
      have p1 : wr.cell? ⟨g, o + k * 2 + 1, none⟩ = some (.int .i64 x1) := hc 1 _ rfl
      have hgw : g < wr.heap.size := by omega
      have q0 : ∀ o1, (wr.alloc o1).cell? ⟨g, o + j * 2, none⟩ = some (.int .i64 y0) := fun o1 => (cell_alloc_at _ _ hgw).trans (hc' 0 _ rfl)
      have q1 : ∀ o1, (wr.alloc o1).cell? ⟨g, o + j * 2 + 1, none⟩ = some (.int .i64 y1) := fun o1 => (cell_alloc_at _ _ hgw).trans (hc' 1 _ rfl)
      have HS := Lib.hid (show twUp l k + (x0 * y1 - x1 * y0) = twUp l (k + 1) by rw [twUp_succ, crAt_is ha hj hb])
      have hbd := cr_bound (pts_all HP.out ha) (pts_all HP.out hb)
      have hsb := twUp_bound HP.out k
      have e3 : ((k : Int) + 1).tmod (n : Int) = (j : Int) := by rw [← hj, ← HN.out, show ((k : Int) + 1) = ((k + 1 : Nat) : Int) by omega]; exact (Int.ofNat_tmod _ _).symm
      clear hc hc' hgo ha hb hj r
      generalize twUp l k = s at *
      have hki : (k : Int) < (n : Int) := by omega
      have hji : (j : Int) < (n : Int) := by omega
      have hj0 : (0 : Int) ≤ (j : Int) := by omega
      have e1 : ((n : Int) == 0) = false := by simp; omega
      have e2 : ¬ (n : Int) = 0 := by omega
      have e4 : ¬ n = 0 := by omega
      have b1 : IntKind.i64.wrap ((k : Int) + 1) = (k : Int) + 1 := IntWalk.i64_in _ (by omega)
      have b2 : IntKind.i64.wrap (j : Int) = (j : Int) := IntWalk.i64_in _ (by omega)
      have b3 : IntKind.i64.wrap (x0 * y1) = x0 * y1 := IntWalk.i64_in _ (by omega)
      have b4 : IntKind.i64.wrap (x1 * y0) = x1 * y0 := IntWalk.i64_in _ (by omega)
      have b5 : IntKind.i64.wrap (x0 * y1 - x1 * y0) = x0 * y1 - x1 * y0 := IntWalk.i64_in _ (by omega)
      have b6 : IntKind.i64.wrap (s + (x0 * y1 - x1 * y0)) = s + (x0 * y1 - x1 * y0) := IntWalk.i64_in _ (by omega)
      clear hbd hsb
      go_wp2_with fail
      go_roundw
      case rel => exact ⟨k + 1, by omega, by go_num, by rw [HS.out], by repeat' (first | with_reducible assumption | with_reducible exact Below.refl _ _ | (with_reducible refine Below.setCell ?_ ?_ _) | (with_reducible refine Below.alloc ?_ ?_ _) | (with_reducible refine Below.drew ?_) | (with_reducible refine below_dr ?_ _) | (with_reducible refine Below.trans ?_ (Below.mono (by with_reducible assumption) ?_)) | omega | (simp; done) | (simp; omega))⟩
      case measure => simp [intOf]; omega
    case neg =>
      obtain rfl : k = n := by omega
      have H := Lib.hid (show twUp l k = L by rw [HL.out, HN.out]; rfl)
      go_wp2_with fail
      go_ret
      exact ⟨ret_i64 H.out, hbl⟩
end Go.Proofs.Ytdeemhfhmgnbgaa
