/- Walks: twice the area of a region, on both sides; the law on AreaTwice: it returns true. -/
import Derived.Test.YtdeemhfhmgnbgaaXa
namespace Go.Proofs.Ytdeemhfhmgnbgaa
open Go.RowKit
set_option linter.unusedVariables false
theorem arN_no {ds : List DRing} (h : vRn ds = false) : 0 = arN ds ∧ 1 = arC ds := by unfold arN arC; rw [h]; exact ⟨rfl, rfl⟩
theorem arN_yes {ds : List DRing} (h : vRn ds = true) : arL ds = arN ds ∧ 0 = arC ds := by unfold arN arC; rw [h]; exact ⟨rfl, rfl⟩
set_option maxHeartbeats 1600000 in
theorem crossI_any (x y u v : Int) (w : World) (h1 : okB x y = true) (h2 : okB u v = true) :
    Calls Try.prog 80 #[.agg #[.int .i64 x, .int .i64 y], .agg #[.int .i64 u, .int .i64 v]] w fun e w' => e = .returned (.int .i64 (crI x y u v)) ∧ Below w.heap.size w w' := by
  have hbd := cr_bound h1 h2
  have HR := Lib.hid (show x * v - y * u = crI x y u v from rfl)
  have b3 : IntKind.i64.wrap (x * v) = x * v := IntWalk.i64_in _ (by omega)
  have b4 : IntKind.i64.wrap (y * u) = y * u := IntWalk.i64_in _ (by omega)
  have b5 : IntKind.i64.wrap (x * v - y * u) = x * v - y * u := IntWalk.i64_in _ (by omega)
  clear hbd h1 h2
  go_enter Try.func80, Try.ntmps80
  go_wp2_with fail
  go_ret
  exact ⟨ret_i64 HR.out, by repeat' (first | with_reducible assumption | with_reducible exact Below.refl _ _ | (with_reducible refine Below.setCell ?_ ?_ _) | (with_reducible refine Below.alloc ?_ ?_ _) | (with_reducible refine Below.drew ?_) | (with_reducible refine below_dr ?_ _) | (with_reducible refine Below.trans ?_ (Below.mono (by with_reducible assumption) ?_)) | omega | (simp; done) | (simp; omega))⟩
set_option maxRecDepth 100000 in
set_option maxHeartbeats 6400000 in
theorem implAreaTwice_any (ds : List DRing) (A : Option Addr) (c : Nat) (w : World) (hl : ds.length ≤ 1048576) (hin : ∀ (i : Nat) (d : DRing), ds[i]? = some d → d.length ≤ 1048576) (r : RdRing w w.heap.size A ds) :
    Calls Try.prog 56 #[.agg #[.slice A ds.length c]] w fun e w' => e = .returned (.tuple #[.int .i64 (arN ds), .int .i64 (arC ds)]) ∧ Below w.heap.size w w' := by
  have CV := Lib.hid (fun w1 r1 => implValidRegion_any ds A c w1 hl hin r1)
  rcases hv : vRn ds with _ | _
  case false =>
    have H := Lib.hid (arN_no hv)
    simp only [hv] at CV
    clear hv hin
    obtain ⟨v1, hv1⟩ : ∃ v, v = arN ds := ⟨_, rfl⟩
    obtain ⟨v2, hv2⟩ : ∃ v, v = arC ds := ⟨_, rfl⟩
    rw [← hv1, ← hv2] at H ⊢
    clear hv1 hv2
    go_enter Try.func56, Try.ntmps56
    go_wp2_with fail
    refine (CV.out _ ((r.alloc (Nat.le_refl _) _).more (by simp))).mono ?_
    rintro e w1 ⟨rfl, hb1⟩
    go_wp2_with fail
    refine bodyPost_ret (v := .tuple #[.int .i64 v1, .int .i64 v2]) (by rw [← H.out.1, ← H.out.2]; simp [results, Try.results56, go_sem]) rfl ⟨rfl, by repeat' (first | with_reducible assumption | with_reducible exact Below.refl _ _ | (with_reducible refine Below.setCell ?_ ?_ _) | (with_reducible refine Below.alloc ?_ ?_ _) | (with_reducible refine Below.drew ?_) | (with_reducible refine below_dr ?_ _) | (with_reducible refine Below.trans ?_ (Below.mono (by with_reducible assumption) ?_)) | omega | (simp; done) | (simp; omega))⟩
  case true =>
    have H := Lib.hid (arN_yes hv)
    simp only [hv] at CV
    have HE := Lib.hid (vRn_each hv)
    have HOK := Lib.hid (fun (e : AEdge) (he : e ∈ allE ds) => allE_okx hv he)
    obtain ⟨h40, hup, h400⟩ := vRn_parts hv
    have HB := Lib.hid (fun k => arUp_bound h40 (vRn_each hv) k)
    have C := Lib.hid (fun w1 r1 => regionEdges_any ds A c w1 h40 (rUp_in hup) r1)
    clear hup
    clear hv hin
    obtain ⟨v1, hv1⟩ : ∃ v, v = arN ds := ⟨_, rfl⟩
    obtain ⟨v2, hv2⟩ : ∃ v, v = arC ds := ⟨_, rfl⟩
    rw [← hv1, ← hv2] at H ⊢
    clear hv1 hv2
    go_enter Try.func56, Try.ntmps56
    go_wp2_with fail
    refine (CV.out _ ((r.alloc (Nat.le_refl _) _).more (by simp))).mono ?_
    rintro e w1 ⟨rfl, hb1⟩
    have at1 : AtL w.heap.size [.slice A ds.length c] w1 := (AtL.new w _ 40).below hb1
    have k0 := at1.cell 0 rfl
    have lw := at1.lt
    have g1 : Below w.heap.size w w1 := by repeat' (first | with_reducible assumption | with_reducible exact Below.refl _ _ | (with_reducible refine Below.setCell ?_ ?_ _) | (with_reducible refine Below.alloc ?_ ?_ _) | (with_reducible refine Below.drew ?_) | (with_reducible refine below_dr ?_ _) | (with_reducible refine Below.trans ?_ (Below.mono (by with_reducible assumption) ?_)) | omega | (simp; done) | (simp; omega))
    have r1 : RdRing w1 w1.heap.size A ds := (r.carry g1 (Nat.le_refl _)).more g1.size
    clear hb1
    go_wp2_with fail
    refine (C.out _ r1).mono ?_
    intro e w2 hq2
    obtain ⟨A3, c3, rfl, ow3, hb2⟩ := hq2
    have g2 : Below w.heap.size w w2 := by repeat' (first | with_reducible assumption | with_reducible exact Below.refl _ _ | (with_reducible refine Below.setCell ?_ ?_ _) | (with_reducible refine Below.alloc ?_ ?_ _) | (with_reducible refine Below.drew ?_) | (with_reducible refine below_dr ?_ _) | (with_reducible refine Below.trans ?_ (Below.mono (by with_reducible assumption) ?_)) | omega | (simp; done) | (simp; omega))
    have re := ow3.rd (Nat.le_refl _)
    clear ow3 hb2 r1 r k0 lw at1 g1 C CV
    have HL := Lib.hid (crS_all ds)
    have HCB := Lib.hid (fun k => crS_bound HOK.out k)
    generalize allE ds = es at *
    obtain ⟨n, hn⟩ : ∃ n, n = es.length := ⟨_, rfl⟩
    have HN := Lib.hid hn
    rw [← hn] at h400 ⊢
    clear hn
    go_wp2_with fail
    go_loopw [4, 13] (fun s i wr => ∃ k : Nat, k ≤ n ∧ i = .int .i64 (k : Int) ∧ s = .int .i64 (crS es k) ∧ Below w2.heap.size w2 wr) (fun _ i _ => n - (intOf i).toNat)
    case atStart => exact ⟨0, Nat.zero_le _, rfl, rfl, Below.refl _ _⟩
    case round =>
      obtain ⟨k, hk, rfl, rfl, hbl⟩ := hrel
      have zr := hbl.size
      by_cases hlt : k < n
      case pos =>
        obtain ⟨⟨x0, x1, x2, x3⟩, ha⟩ : ∃ a, es[k]? = some a := ⟨es[k]'(by have := HN.out; omega), List.getElem?_eq_getElem (by have := HN.out; omega)⟩
        obtain ⟨g, o, rfl, hg, hc⟩ := (re.below hbl).elem ha
        have p0 : wr.cell? ⟨g, o + k * 4, none⟩ = some (.int .i64 x0) := hc 0 _ rfl
        have p1 : wr.cell? ⟨g, o + k * 4 + 1, none⟩ = some (.int .i64 x1) := hc 1 _ rfl
        have p2 : wr.cell? ⟨g, o + k * 4 + 2, none⟩ = some (.int .i64 x2) := hc 2 _ rfl
        have p3 : wr.cell? ⟨g, o + k * 4 + 3, none⟩ = some (.int .i64 x3) := hc 3 _ rfl
        have hgw : g < wr.heap.size := by omega
        have hok := HOK.out _ (List.mem_of_getElem? ha)
        have HS := Lib.hid (crS_succ ha)
        have hsb := HCB.out k
        have hsb2 := HCB.out (k + 1)
        rw [← HS.out] at hsb2
        have CT := Lib.hid (fun w2 => crossI_any x0 x1 x2 x3 w2 hok.1 hok.2)
        have HX : crE (x0, x1, x2, x3) = crI x0 x1 x2 x3 := rfl
        rw [HX] at HS hsb2
        clear hc ha hok HX
        have hki : (k : Int) < (n : Int) := by omega
        generalize crS es k = s at *
        generalize crI x0 x1 x2 x3 = t at *
        have b6 : IntKind.i64.wrap (s + t) = s + t := IntWalk.i64_in _ (by omega)
        clear hsb hsb2
        go_wp2_with fail
        refine (CT.out _).mono ?_
        rintro e w3 ⟨rfl, hb3⟩
        have g3 : Below w2.heap.size w2 w3 := by repeat' (first | with_reducible assumption | with_reducible exact Below.refl _ _ | (with_reducible refine Below.setCell ?_ ?_ _) | (with_reducible refine Below.alloc ?_ ?_ _) | (with_reducible refine Below.drew ?_) | (with_reducible refine below_dr ?_ _) | (with_reducible refine Below.trans ?_ (Below.mono (by with_reducible assumption) ?_)) | omega | (simp; done) | (simp; omega))
        clear hb3
        go_wp2_with fail
        go_roundw
        case rel => exact ⟨k + 1, by omega, by go_num, by rw [HS.out], g3⟩
        case measure => simp [intOf]; omega
      case neg =>
        obtain rfl : k = n := by omega
        have HA := Lib.hid (show crS es k = arL ds by rw [HN.out]; exact HL.out)
        have HQ := Lib.hid (HA.out.trans H.out.1)
        generalize crS es k = s at *
        go_wp2_with fail
        refine bodyPost_ret (v := .tuple #[.int .i64 v1, .int .i64 v2]) (by rw [← HQ.out, ← H.out.2]; simp [results, Try.results56, go_sem]) rfl ⟨rfl, ?_⟩
        exact g2.trans (hbl.mono g2.size)
end Go.Proofs.Ytdeemhfhmgnbgaa
