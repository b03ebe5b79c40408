/- Walks: the text of a region, the reference's side. -/
import Derived.Test.YtnlhofepobkljaaDoorWb
namespace Go.Proofs.YtnlhofepobkljaaDoor
open Go.RowKit
set_option linter.unusedVariables false
set_option maxRecDepth 100000 in
set_option maxHeartbeats 6400000 in
theorem l13Text_any (ds : List DRing) (A : Option Addr) (c b : Nat) (w : World) (hv : vRn ds = true) (hb : b < w.heap.size) (c0 : w.cell? ⟨b, 0, none⟩ = some (.slice A ds.length c)) (r : RdRing w w.heap.size A ds) :
    Calls Tryd.prog 11 #[.pointer (some ⟨b, 0, none⟩)] w fun e w' => e = .returned (.string (outR ds ds.length)) ∧ Below w.heap.size w w' := by
  obtain ⟨h12, hall⟩ := vRn_all2 hv
  have HALL := Lib.hid hall
  have HSZ := Lib.hid (outR_size hall)
  clear hv hall
  obtain ⟨n, hn⟩ : ∃ n, n = ds.length := ⟨_, rfl⟩
  rw [← hn] at h12 c0 HSZ ⊢
  have HN := Lib.hid hn
  clear hn
  have HC0 := Lib.hid c0
  clear c0
  go_enter Tryd.func11, Tryd.ntmps11
  go_wp2_with fail
  go_loopw [3, 4] (fun s i wr => ∃ k : Nat, k ≤ n ∧ i = .int .i64 (k : Int) ∧ s = .string (outR ds k) ∧ Below w.heap.size w wr) (fun _ i _ => n - (intOf i).toNat)
  case atStart => exact ⟨0, Nat.zero_le _, rfl, rfl, by repeat' (first | with_reducible assumption | with_reducible exact Below.refl _ _ | (with_reducible refine Below.setCell ?_ ?_ _) | (with_reducible refine Below.alloc ?_ ?_ _) | (with_reducible refine Below.drew ?_) | (with_reducible refine below_dr ?_ _) | (with_reducible refine Below.trans ?_ (Below.mono (by with_reducible assumption) ?_)) | omega | (simp; done) | (simp; omega))⟩
  case round =>
    obtain ⟨k, hk, rfl, rfl, hbl⟩ := hrel
    have zr := hbl.size
    have k0 : wr.cell? ⟨b, 0, none⟩ = some (.slice A n c) := (hbl.cell (p := ⟨b, 0, none⟩) hb).trans HC0.out
    have lb : b < wr.heap.size := by omega
    have hOs := HSZ.out k hk
    by_cases hlt : k < n
    case pos =>
      obtain ⟨dl, ha⟩ : ∃ a, ds[k]? = some a := ⟨ds[k]'(by have := HN.out; omega), List.getElem?_eq_getElem (by have := HN.out; omega)⟩
      obtain ⟨⟨h1, h60⟩, hpt⟩ := HALL.out k dl ha
      have hJs := ptsB_sz h60 hpt dl.length
      rw [List.take_length] at hJs
      have CP := Lib.hid (fun A1 c1 w1 r1 => l09Points_any dl A1 c1 w1 (by omega) (fun i a h => okB_in (hpt i a h)) r1)
      obtain ⟨g, o, A1, c1, rfl, hg, hc, hrd⟩ := r.elem0 ha
      have p0 : wr.cell? ⟨g, o + k, none⟩ = some (.slice A1 dl.length c1) := (hbl.cell (p := ⟨g, o + k, none⟩) hg).trans hc
      have hgw : g < wr.heap.size := by omega
      have hki : (k : Int) < (n : Int) := by omega
      have HST := Lib.hid (outR_step2 ha)
      have HRD := Lib.hid ((hrd.below hbl).more zr)
      clear hc ha r hpt hrd
      generalize outR ds k = O at *
      generalize ptsB dl = P at CP hJs HST
      have f1 : (9223372036854775807 < P.size + 1) = False := by simp only [eq_iff_iff, iff_false]; omega
      have f2 : (9223372036854775807 < O.size + (P.size + 1)) = False := by simp only [eq_iff_iff, iff_false]; omega
      go_wp2_with fail
      refine (CP.out _ _ _ HRD.out).mono ?_
      rintro e w2 ⟨rfl, hb2⟩
      go_wp2_with fail
      go_roundw
      case rel => exact ⟨k + 1, by omega, by go_num, by rw [← HST.out], by repeat' (first | with_reducible assumption | with_reducible exact Below.refl _ _ | (with_reducible refine Below.setCell ?_ ?_ _) | (with_reducible refine Below.alloc ?_ ?_ _) | (with_reducible refine Below.drew ?_) | (with_reducible refine below_dr ?_ _) | (with_reducible refine Below.trans ?_ (Below.mono (by with_reducible assumption) ?_)) | omega | (simp; done) | (simp; omega))⟩
      case measure => first | (simp [intOf]; done) | (simp [intOf]; omega)
    case neg =>
      obtain rfl : k = n := by omega
      have hki : ¬ ((k : Int) < (k : Int)) := by omega
      go_wp2_with fail
      go_ret
      exact ⟨rfl, hbl⟩
end Go.Proofs.YtnlhofepobkljaaDoor
