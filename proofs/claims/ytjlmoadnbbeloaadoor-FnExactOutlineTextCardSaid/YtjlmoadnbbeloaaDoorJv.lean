/- Walks: the text of an outline, the reference's side. -/
import Derived.Test.YtjlmoadnbbeloaaDoorJu
namespace Go.Proofs.YtjlmoadnbbeloaaDoor
open Go.RowKit
set_option linter.unusedVariables false
set_option maxRecDepth 100000 in
set_option maxHeartbeats 6400000 in
theorem l10Text_any (ds : List DLoop) (A : Option Addr) (c b : Nat) (w : World) (hv : vOl ds = true) (hb : b < w.heap.size) (c0 : w.cell? ⟨b, 0, none⟩ = some (.slice A ds.length c)) (r : RdLoop w w.heap.size A ds) :
    Calls Tryd.prog 59 #[.pointer (some ⟨b, 0, none⟩)] w fun e w' => e = .returned (.string (outL ds ds.length)) ∧ Below w.heap.size w w' := by
  obtain ⟨h12, hall⟩ := vOl_parts hv
  have HALL := Lib.hid hall
  have HSZ := Lib.hid (outL_size hall)
  clear hv hall
  obtain ⟨n, hn⟩ : ∃ n, n = ds.length := ⟨_, rfl⟩
  rw [← hn] at h12 c0 HSZ ⊢
  have HN := Lib.hid hn
  clear hn
  have HC0 := Lib.hid c0
  clear c0
  go_enter Tryd.func59, Tryd.ntmps59
  go_wp2_with fail
  go_loopw [3, 4] (fun s i wr => ∃ k : Nat, k ≤ n ∧ i = .int .i64 (k : Int) ∧ s = .string (outL ds k) ∧ Below w.heap.size w wr) (fun _ i _ => n - (intOf i).toNat)
  case atStart => exact ⟨0, Nat.zero_le _, rfl, rfl, by repeat' (first | with_reducible assumption | with_reducible exact Below.refl _ _ | (with_reducible refine Below.setCell ?_ ?_ _) | (with_reducible refine Below.alloc ?_ ?_ _) | (with_reducible refine Below.drew ?_) | (with_reducible refine below_dr ?_ _) | (with_reducible refine Below.trans ?_ (Below.mono (by with_reducible assumption) ?_)) | omega | (simp; done) | (simp; omega))⟩
  case round =>
    obtain ⟨k, hk, rfl, rfl, hbl⟩ := hrel
    have zr := hbl.size
    have k0 : wr.cell? ⟨b, 0, none⟩ = some (.slice A n c) := (hbl.cell (p := ⟨b, 0, none⟩) hb).trans HC0.out
    have lb : b < wr.heap.size := by omega
    have hOs := HSZ.out k hk
    by_cases hlt : k < n
    case pos =>
      obtain ⟨dl, ha⟩ : ∃ a, ds[k]? = some a := ⟨ds[k]'(by have := HN.out; omega), List.getElem?_eq_getElem (by have := HN.out; omega)⟩
      obtain ⟨⟨h1, h60⟩, hpt⟩ := HALL.out k dl ha
      have HPT := Lib.hid hpt
      have HJS := Lib.hid (fun q => jt_size (k := q) h60 hpt)
      obtain ⟨g, o, A1, c1, rfl, hg, hc, hrd⟩ := r.elem0 ha
      have p0 : wr.cell? ⟨g, o + k, none⟩ = some (.slice A1 dl.length c1) := (hbl.cell (p := ⟨g, o + k, none⟩) hg).trans hc
      have hgw : g < wr.heap.size := by omega
      have hki : (k : Int) < (n : Int) := by omega
      have HST := Lib.hid (show outL ds k ++ jt dl dl.length ++ ⟨#[10]⟩ = outL ds (k + 1) from (outL_step ha).symm)
      have HRD := Lib.hid hrd
      clear hc ha r hpt hrd
      obtain ⟨m, hm⟩ : ∃ m, m = dl.length := ⟨_, rfl⟩
      rw [← hm] at h1 h60 p0 HST
      have HM := Lib.hid hm
      clear hm
      generalize outL ds k = O at *
      have HO := Lib.hid (show O = O ++ jt dl 0 from by rw [jt_zero, app_nil])
      go_wp2_with fail
      go_loopw [3, 6] (fun s i wr2 => ∃ q : Nat, q ≤ m ∧ i = .int .i64 (q : Int) ∧ s = .string (O ++ jt dl q) ∧ Below w.heap.size w wr2) (fun _ i _ => m - (intOf i).toNat)
      case atStart => exact ⟨0, Nat.zero_le _, rfl, by rw [← HO.out], hbl⟩
      case round =>
        clear hbl zr k0 lb p0 hgw
        obtain ⟨q, hq, rfl, rfl, hbl⟩ := hrel
        have zr := hbl.size
        have hJs := HJS.out q
        by_cases hlq : q < m
        case pos =>
          obtain ⟨⟨x, y, on⟩, ha⟩ : ∃ a, dl[q]? = some a := ⟨dl[q]'(by have := HM.out; omega), List.getElem?_eq_getElem (by have := HM.out; omega)⟩
          have hok : okB x y = true := HPT.out q _ ha
          have hxy := okB_in hok
          have CT := Lib.hid (fun w => l03Text_any x y w hxy.1 hxy.2)
          have ht : (ptB x y).size ≤ 43 := ptB_size hxy.1 hxy.2
          obtain ⟨g1, o1, had, hg1, hc1⟩ := (HRD.out.below hbl).elem ha
          subst had
          have c0 : wr.cell? ⟨g1, o1 + q * 3, none⟩ = some (.int .i64 x) := hc1 0 _ rfl
          have c1' : wr.cell? ⟨g1, o1 + q * 3 + 1, none⟩ = some (.int .i64 y) := hc1 1 _ rfl
          have c2 : wr.cell? ⟨g1, o1 + q * 3 + 2, none⟩ = some (.bool on) := hc1 2 _ rfl
          have hg1w : g1 < wr.heap.size := by omega
          have hqm : (q : Int) < (m : Int) := by omega
          clear hc1 hok hxy
          by_cases hq0 : q = 0
          · rcases on with _ | _
            · subst hq0
              have HS := Lib.hid (st_0f (O := O) ha)
              clear ha hJs
              simp only [Nat.zero_mul, Nat.add_zero] at c0 c1' c2
              rw [← HO.out]
              generalize ptB x y = u at CT ht HS
              have f1 : (9223372036854775807 < O.size + 1) = False := by simp only [eq_iff_iff, iff_false]; omega
              have f2 : (9223372036854775807 < O.size + 1 + u.size) = False := by simp only [eq_iff_iff, iff_false]; omega
              go_wp2_with fail
              refine (CT.out _).mono ?_
              rintro e w2 ⟨rfl, hb2⟩
              go_wp2_with fail
              go_roundw
              case rel => exact ⟨0 + 1, by omega, by go_num, by rw [← HS.out], by repeat' (first | with_reducible assumption | with_reducible exact Below.refl _ _ | (with_reducible refine Below.setCell ?_ ?_ _) | (with_reducible refine Below.alloc ?_ ?_ _) | (with_reducible refine Below.drew ?_) | (with_reducible refine below_dr ?_ _) | (with_reducible refine Below.trans ?_ (Below.mono (by with_reducible assumption) ?_)) | omega | (simp; done) | (simp; omega))⟩
              case measure => first | (simp [intOf]; done) | (simp [intOf]; omega)
            · subst hq0
              have HS := Lib.hid (st_0t (O := O) ha)
              clear ha hJs
              simp only [Nat.zero_mul, Nat.add_zero] at c0 c1' c2
              rw [← HO.out]
              generalize ptB x y = u at CT ht HS
              have f1 : (9223372036854775807 < O.size + u.size) = False := by simp only [eq_iff_iff, iff_false]; omega
              go_wp2_with fail
              refine (CT.out _).mono ?_
              rintro e w2 ⟨rfl, hb2⟩
              go_wp2_with fail
              go_roundw
              case rel => exact ⟨0 + 1, by omega, by go_num, by rw [← HS.out], by repeat' (first | with_reducible assumption | with_reducible exact Below.refl _ _ | (with_reducible refine Below.setCell ?_ ?_ _) | (with_reducible refine Below.alloc ?_ ?_ _) | (with_reducible refine Below.drew ?_) | (with_reducible refine below_dr ?_ _) | (with_reducible refine Below.trans ?_ (Below.mono (by with_reducible assumption) ?_)) | omega | (simp; done) | (simp; omega))⟩
              case measure => first | (simp [intOf]; done) | (simp [intOf]; omega)
          · rcases on with _ | _
            · have hq1 : 0 < q := by omega
              have hqp : (0 : Int) < (q : Int) := by omega
              have HS := Lib.hid (st_kf (O := O) hq1 ha)
              clear ha
              have hS : (O ++ jt dl q).size ≤ 40000 := by rw [size_app]; omega
              generalize ptB x y = u at CT ht HS
              generalize O ++ jt dl q = S at HS hS ⊢
              have f1 : (9223372036854775807 < S.size + 1) = False := by simp only [eq_iff_iff, iff_false]; omega
              have f2 : (9223372036854775807 < S.size + 1 + 1) = False := by simp only [eq_iff_iff, iff_false]; omega
              have f3 : (9223372036854775807 < S.size + 1 + 1 + u.size) = False := by simp only [eq_iff_iff, iff_false]; omega
              go_wp2_with fail
              refine (CT.out _).mono ?_
              rintro e w2 ⟨rfl, hb2⟩
              go_wp2_with fail
              go_roundw
              case rel => exact ⟨q + 1, by omega, by go_num, by rw [← HS.out], by repeat' (first | with_reducible assumption | with_reducible exact Below.refl _ _ | (with_reducible refine Below.setCell ?_ ?_ _) | (with_reducible refine Below.alloc ?_ ?_ _) | (with_reducible refine Below.drew ?_) | (with_reducible refine below_dr ?_ _) | (with_reducible refine Below.trans ?_ (Below.mono (by with_reducible assumption) ?_)) | omega | (simp; done) | (simp; omega))⟩
              case measure => first | (simp [intOf]; done) | (simp [intOf]; omega)
            · have hq1 : 0 < q := by omega
              have hqp : (0 : Int) < (q : Int) := by omega
              have HS := Lib.hid (st_kt (O := O) hq1 ha)
              clear ha
              have hS : (O ++ jt dl q).size ≤ 40000 := by rw [size_app]; omega
              generalize ptB x y = u at CT ht HS
              generalize O ++ jt dl q = S at HS hS ⊢
              have f1 : (9223372036854775807 < S.size + 1) = False := by simp only [eq_iff_iff, iff_false]; omega
              have f2 : (9223372036854775807 < S.size + 1 + u.size) = False := by simp only [eq_iff_iff, iff_false]; omega
              go_wp2_with fail
              refine (CT.out _).mono ?_
              rintro e w2 ⟨rfl, hb2⟩
              go_wp2_with fail
              go_roundw
              case rel => exact ⟨q + 1, by omega, by go_num, by rw [← HS.out], by repeat' (first | with_reducible assumption | with_reducible exact Below.refl _ _ | (with_reducible refine Below.setCell ?_ ?_ _) | (with_reducible refine Below.alloc ?_ ?_ _) | (with_reducible refine Below.drew ?_) | (with_reducible refine below_dr ?_ _) | (with_reducible refine Below.trans ?_ (Below.mono (by with_reducible assumption) ?_)) | omega | (simp; done) | (simp; omega))⟩
              case measure => first | (simp [intOf]; done) | (simp [intOf]; omega)
        case neg =>
          obtain rfl : q = m := by omega
          have hS : (O ++ jt dl q).size ≤ 40000 := by rw [size_app]; omega
          generalize O ++ jt dl q = S at HST hS ⊢
          have f1 : (9223372036854775807 < S.size + 1) = False := by simp only [eq_iff_iff, iff_false]; omega
          go_wp2_with fail
          go_roundw
          case rel => exact ⟨k + 1, by omega, by go_num, by rw [← HST.out], by repeat' (first | with_reducible assumption | with_reducible exact Below.refl _ _ | (with_reducible refine Below.setCell ?_ ?_ _) | (with_reducible refine Below.alloc ?_ ?_ _) | (with_reducible refine Below.drew ?_) | (with_reducible refine below_dr ?_ _) | (with_reducible refine Below.trans ?_ (Below.mono (by with_reducible assumption) ?_)) | omega | (simp; done) | (simp; omega))⟩
          case measure => first | (simp [intOf]; done) | (simp [intOf]; omega)
    case neg =>
      obtain rfl : k = n := by omega
      have hki : ¬ ((k : Int) < (k : Int)) := by omega
      go_wp2_with fail
      go_ret
      exact ⟨rfl, hbl⟩
end Go.Proofs.YtjlmoadnbbeloaaDoor
