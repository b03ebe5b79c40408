/- Walks: the edges of a region only meet at ends, the program's side. -/
import Derived.Test.YtkhpmmclknonbaaEb
import Derived.Test.YtkhpmmclknonbaaVp
namespace Go.Proofs.Ytkhpmmclknonbaa
open Go.RowKit
set_option linter.unusedVariables false
theorem edgeAt_in {l : List APt} {k : Nat} {e : AEdge} (h : ptsUp l l.length = true) (he : e ∈ edgeAt l k) : okB e.1 e.2.1 = true ∧ okB e.2.2.1 e.2.2.2 = true ∧ ¬ (e.1 = e.2.2.1 ∧ e.2.1 = e.2.2.2) := by
  unfold edgeAt at he
  split at he
  · rename_i a b ha hb
    split at he
    · simp at he
    · rename_i hne
      simp only [List.mem_singleton] at he
      subst he
      exact ⟨pts_all h (x := a.1) (y := a.2) ha, pts_all h (x := b.1) (y := b.2) hb, hne⟩
  · simp at he
theorem allE_ok {ds : List DRing} (h : vRn ds = true) (i : Nat) (e : AEdge) (he : (allE ds)[i]? = some e) : okB e.1 e.2.1 = true ∧ okB e.2.2.1 e.2.2.2 = true ∧ ¬ (e.1 = e.2.2.1 ∧ e.2.1 = e.2.2.2) := by
  have hm := List.mem_of_getElem? he
  unfold allE at hm
  obtain ⟨d, hd, hm⟩ := List.mem_flatMap.1 hm
  unfold edL edUp at hm
  obtain ⟨k, hk, hm⟩ := List.mem_flatMap.1 hm
  obtain ⟨h1, h2, h3⟩ := vRn_parts h
  unfold rUp at h2
  rw [List.take_length, List.all_eq_true] at h2
  exact edgeAt_in (vRg_parts (h2 d hd)).2.2 hm
def apE (e f : AEdge) : Bool := apI e.1 e.2.1 e.2.2.1 e.2.2.2 f.1 f.2.1 f.2.2.1 f.2.2.2
def rowA (es : List AEdge) (e : AEdge) (k : Nat) : Bool := (es.take k).all (apE e)
def snRow (es : List AEdge) (k : Nat) : Bool := match es[k]? with | some e => rowA es e k | none => true
def snUp (es : List AEdge) (i : Nat) : Bool := (List.range i).all (snRow es)
def isSn (ds : List DRing) : Bool := vRn ds && snUp (allE ds) (allE ds).length
theorem rowA_zero (es : List AEdge) (e : AEdge) : rowA es e 0 = true := rfl
theorem rowA_succ {es : List AEdge} {e f : AEdge} {k : Nat} (h : rowA es e k = true) (hf : es[k]? = some f) (hv : apE e f = true) : rowA es e (k + 1) = true := by
  unfold rowA at *
  rw [List.take_add_one, hf, List.all_append, h]; simp [hv]
theorem snUp_zero (es : List AEdge) : snUp es 0 = true := rfl
theorem snUp_succ {es : List AEdge} {e : AEdge} {k : Nat} (h : snUp es k = true) (he : es[k]? = some e) (hv : rowA es e k = true) : snUp es (k + 1) = true := by
  unfold snUp at *
  rw [List.range_succ, List.all_append, h]; unfold snRow; simp [he, hv]
theorem snUp_bad {es : List AEdge} {e f : AEdge} {k j : Nat} (he : es[k]? = some e) (hj : j < k) (hf : es[j]? = some f) (hv : apE e f = false) : snUp es es.length = false := by
  have hk := (List.getElem?_eq_some_iff.1 he).1
  unfold snUp
  rw [List.all_eq_false]
  refine ⟨k, by simpa using hk, ?_⟩
  unfold snRow rowA
  rw [he]
  simp only [Bool.not_eq_true, List.all_eq_false]
  have hj2 : (es.take k)[j]? = some f := by rw [List.getElem?_take, if_pos hj]; exact hf
  exact ⟨f, List.mem_of_getElem? hj2, by simp [hv]⟩
theorem isSn_no {ds : List DRing} (h : vRn ds = false) : false = isSn ds := by simp [isSn, h]
theorem isSn_is {ds : List DRing} (h : vRn ds = true) : snUp (allE ds) (allE ds).length = isSn ds := by simp [isSn, h]
theorem eown_cap {t : TypeId} {w : World} {base n c : Nat} {A : Option Addr} {es : List AEdge} (h : OwE t w base A n c es) : n ≤ c := by
  rcases h.2.2 with ⟨h1, h2⟩ | ⟨g, cap, cur, hv, _, _, hc, _⟩
  · omega
  · injection hv with _ _ h3; omega
set_option maxRecDepth 100000 in
set_option maxHeartbeats 6400000 in
theorem implIsSnapped_any (ds : List DRing) (A : Option Addr) (c : Nat) (w : World) (hl : ds.length ≤ 1048576) (hin : ∀ (i : Nat) (d : DRing), ds[i]? = some d → d.length ≤ 1048576) (r : RdRing w w.heap.size A ds) :
    Calls Try.prog 22 #[.agg #[.slice A ds.length c]] w fun e w' => e = .returned (.bool (isSn ds)) ∧ Below w.heap.size w w' := by
  have CV := Lib.hid (fun w1 r1 => implValidRegion_any ds A c w1 hl hin r1)
  rcases hv : vRn ds with _ | _
  case false =>
    have H := Lib.hid (isSn_no hv)
    simp only [hv] at CV
    clear hv hin
    go_enter Try.func22, Try.ntmps22
    go_wp2_with fail
    refine (CV.out _ ((r.alloc (Nat.le_refl _) _).more (by simp))).mono ?_
    rintro e w1 ⟨rfl, hb1⟩
    go_wp2_with fail
    go_ret
    exact ⟨ret_bool H.out, by repeat' (first | with_reducible assumption | with_reducible exact Below.refl _ _ | (with_reducible refine Below.setCell ?_ ?_ _) | (with_reducible refine Below.alloc ?_ ?_ _) | (with_reducible refine Below.drew ?_) | (with_reducible refine below_dr ?_ _) | (with_reducible refine Below.trans ?_ (Below.mono (by with_reducible assumption) ?_)) | omega | (simp; done) | (simp; omega))⟩
  case true =>
    have H := Lib.hid (isSn_is hv)
    simp only [hv] at CV
    have HOK := Lib.hid (allE_ok hv)
    obtain ⟨h40, hup, h400⟩ := vRn_parts hv
    have C := Lib.hid (fun w1 r1 => regionEdges_any ds A c w1 h40 (rUp_in hup) r1)
    clear hv hin hup
    go_enter Try.func22, Try.ntmps22
    go_wp2_with fail
    refine (CV.out _ ((r.alloc (Nat.le_refl _) _).more (by simp))).mono ?_
    rintro e w1 ⟨rfl, hb1⟩
    have at1 : AtL w.heap.size [.slice A ds.length c] w1 := (AtL.new w _ 38).below hb1
    have k0 := at1.cell 0 rfl
    have lw := at1.lt
    have g1 : Below w.heap.size w w1 := by repeat' (first | with_reducible assumption | with_reducible exact Below.refl _ _ | (with_reducible refine Below.setCell ?_ ?_ _) | (with_reducible refine Below.alloc ?_ ?_ _) | (with_reducible refine Below.drew ?_) | (with_reducible refine below_dr ?_ _) | (with_reducible refine Below.trans ?_ (Below.mono (by with_reducible assumption) ?_)) | omega | (simp; done) | (simp; omega))
    have r1 : RdRing w1 w1.heap.size A ds := (r.carry g1 (Nat.le_refl _)).more g1.size
    clear hb1
    go_wp2_with fail
    refine (C.out _ r1).mono ?_
    intro e w2 hq2
    obtain ⟨A3, c3, rfl, ow3, hb2⟩ := hq2
    have g2 : Below w.heap.size w w2 := by repeat' (first | with_reducible assumption | with_reducible exact Below.refl _ _ | (with_reducible refine Below.setCell ?_ ?_ _) | (with_reducible refine Below.alloc ?_ ?_ _) | (with_reducible refine Below.drew ?_) | (with_reducible refine below_dr ?_ _) | (with_reducible refine Below.trans ?_ (Below.mono (by with_reducible assumption) ?_)) | omega | (simp; done) | (simp; omega))
    have re := ow3.rd (Nat.le_refl _)
    have hcap := eown_cap ow3
    clear ow3 hb2 r1 r k0 lw at1 g1 C CV
    generalize allE ds = es at *
    obtain ⟨n, hn⟩ : ∃ n, n = es.length := ⟨_, rfl⟩
    have HN := Lib.hid hn
    rw [← hn] at h400 hcap ⊢
    clear hn
    go_wp2_with fail
    go_loopw [15] (fun i wr => ∃ k : Nat, k ≤ n ∧ i = .int .i64 k ∧ snUp es k = true ∧ Below w2.heap.size w2 wr) (fun i _ => n - (intOf i).toNat)
    case atStart => exact ⟨0, Nat.zero_le _, rfl, snUp_zero _, Below.refl _ _⟩
    case round =>
      obtain ⟨k, hk, rfl, hup, hbl⟩ := hrel
      have HUP := Lib.hid hup
      clear hup
      have zr := hbl.size
      by_cases hlt : k < n
      case pos =>
        obtain ⟨⟨x0, x1, x2, x3⟩, ha⟩ : ∃ a, es[k]? = some a := ⟨es[k]'(by have := HN.out; omega), List.getElem?_eq_getElem (by have := HN.out; omega)⟩
        obtain ⟨g, o, rfl, hg, hc⟩ := (re.below hbl).elem ha
        have p0 : wr.cell? ⟨g, o + k * 4, none⟩ = some (.int .i64 x0) := hc 0 _ rfl
        have p1 : wr.cell? ⟨g, o + k * 4 + 1, none⟩ = some (.int .i64 x1) := hc 1 _ rfl
        have p2 : wr.cell? ⟨g, o + k * 4 + 2, none⟩ = some (.int .i64 x2) := hc 2 _ rfl
        have p3 : wr.cell? ⟨g, o + k * 4 + 3, none⟩ = some (.int .i64 x3) := hc 3 _ rfl
        have HOKX := Lib.hid (HOK.out k _ ha)
        have HA := Lib.hid ha
        clear hc ha
        have hki : (k : Int) < (n : Int) := by omega
        have hkc : (k : Int) ≤ (c3 : Int) := by omega
        have hkc2 : k ≤ c3 := by omega
        have hgw : g < wr.heap.size := by omega
        go_wp2_with fail
        generalize hW : wr.alloc (.cells #[.int .i64 x0, .int .i64 x1, .int .i64 x2, .int .i64 x3] 85) = W0
        obtain ⟨Q, hQ⟩ : ∃ Q, Q = wr.heap.size := ⟨_, rfl⟩
        have at0 : AtL Q [.int .i64 x0, .int .i64 x1, .int .i64 x2, .int .i64 x3] W0 := by rw [← hW, hQ]; exact AtL.new _ _ _
        have g0 : Below w2.heap.size w2 W0 := by rw [← hW]; repeat' (first | with_reducible assumption | with_reducible exact Below.refl _ _ | (with_reducible refine Below.setCell ?_ ?_ _) | (with_reducible refine Below.alloc ?_ ?_ _) | (with_reducible refine Below.drew ?_) | (with_reducible refine below_dr ?_ _) | (with_reducible refine Below.trans ?_ (Below.mono (by with_reducible assumption) ?_)) | omega | (simp; done) | (simp; omega))
        have z0 : w2.heap.size ≤ Q := by omega
        rw [← hQ]
        clear hW hQ hbl zr p0 p1 p2 p3 hgw
        go_loopw [24] (fun i wr2 => ∃ j : Nat, j ≤ k ∧ i = .int .i64 j ∧ rowA es (x0, x1, x2, x3) j = true ∧ AtL Q [.int .i64 x0, .int .i64 x1, .int .i64 x2, .int .i64 x3] wr2 ∧ Below w2.heap.size w2 wr2) (fun i _ => k - (intOf i).toNat)
        case atStart => exact ⟨0, Nat.zero_le _, rfl, rowA_zero _ _, at0, g0⟩
        case round =>
          clear at0 g0
          obtain ⟨j, hj, rfl, hup, at0, g0⟩ := hrel
          have HUR := Lib.hid hup
          clear hup
          have zr := g0.size
          by_cases hlj : j < k
          case pos =>
            obtain ⟨⟨y0, y1, y2, y3⟩, hb⟩ : ∃ a, es[j]? = some a := ⟨es[j]'(by have := HN.out; omega), List.getElem?_eq_getElem (by have := HN.out; omega)⟩
            obtain ⟨g', o', hA', hg', hc⟩ := (re.below g0).elem hb
            obtain ⟨rfl, rfl⟩ : g = g' ∧ o = o' := by injection hA' with h; injection h with h1 h2; exact ⟨h1, h2⟩
            have p0 : wr.cell? ⟨g, o + j * 4, none⟩ = some (.int .i64 y0) := hc 0 _ rfl
            have p1 : wr.cell? ⟨g, o + j * 4 + 1, none⟩ = some (.int .i64 y1) := hc 1 _ rfl
            have p2 : wr.cell? ⟨g, o + j * 4 + 2, none⟩ = some (.int .i64 y2) := hc 2 _ rfl
            have p3 : wr.cell? ⟨g, o + j * 4 + 3, none⟩ = some (.int .i64 y3) := hc 3 _ rfl
            have hoy := HOK.out j _ hb
            have CA := Lib.hid (fun w => isApart_any x0 x1 x2 x3 y0 y1 y2 y3 w HOKX.out.1 HOKX.out.2.1 hoy.1 hoy.2.1)
            have HB := Lib.hid hb
            have HE : apI x0 x1 x2 x3 y0 y1 y2 y3 = apE (x0, x1, x2, x3) (y0, y1, y2, y3) := rfl
            rw [HE] at CA
            clear hc hb hA' hoy HE
            have hji : (j : Int) < (k : Int) := by omega
            have hgw : g < wr.heap.size := by omega
            have s0 := at0.cell 0 rfl
            have s1 := at0.cell 1 rfl
            have s2 := at0.cell 2 rfl
            have s3 := at0.cell 3 rfl
            have l0 := at0.lt
            go_wp2_with fail
            have at2 := at0.alloc (.cells #[.int .i64 y0, .int .i64 y1, .int .i64 y2, .int .i64 y3] 85)
            refine (CA.out _).mono ?_
            rintro e w3 ⟨rfl, hb3⟩
            replace at2 := at2.below hb3
            have g3 : Below w2.heap.size w2 w3 := by repeat' (first | with_reducible assumption | with_reducible exact Below.refl _ _ | (with_reducible refine Below.setCell ?_ ?_ _) | (with_reducible refine Below.alloc ?_ ?_ _) | (with_reducible refine Below.drew ?_) | (with_reducible refine below_dr ?_ _) | (with_reducible refine Below.trans ?_ (Below.mono (by with_reducible assumption) ?_)) | omega | (simp; done) | (simp; omega))
            clear hb3 CA p0 p1 p2 p3 s0 s1 s2 s3 l0 at0 g0
            rcases hv : apE (x0, x1, x2, x3) (y0, y1, y2, y3) with _ | _
            case false =>
              have HB2 := Lib.hid (snUp_bad HA.out hlj HB.out hv)
              clear hv
              go_wp2_with fail
              go_ret
              exact ⟨ret_bool (by rw [← H.out]; exact HB2.out.symm), g2.trans (g3.mono g2.size)⟩
            case true =>
              have HR := Lib.hid (rowA_succ HUR.out HB.out hv)
              clear hv
              go_wp2_with fail
              go_roundw
              case rel => exact ⟨j + 1, by omega, by go_num, HR.out, at2, g3⟩
              case measure => simp [intOf]; omega
          case neg =>
            obtain rfl : j = k := by omega
            have HS := Lib.hid (snUp_succ HUP.out HA.out HUR.out)
            have hji : ¬ ((j : Int) < (j : Int)) := by omega
            go_wp2_with fail
            go_roundw
            case rel => exact ⟨j + 1, by omega, by go_num, HS.out, g0⟩
            case measure => simp [intOf]; omega
      case neg =>
        obtain rfl : k = n := by omega
        go_wp2_with fail
        go_ret
        exact ⟨ret_bool (by rw [← H.out, ← HN.out]; exact HUP.out.symm), g2.trans (hbl.mono g2.size)⟩
end Go.Proofs.Ytkhpmmclknonbaa
