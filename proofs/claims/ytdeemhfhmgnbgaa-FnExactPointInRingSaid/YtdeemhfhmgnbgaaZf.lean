/- Walks: points on edges and winding numbers, the reference's side. -/
import Derived.Test.YtdeemhfhmgnbgaaZe
import Derived.Test.YtdeemhfhmgnbgaaZc
namespace Go.Proofs.Ytdeemhfhmgnbgaa
open Go.RowKit
set_option linter.unusedVariables false
def onE (px py : Int) (e : AEdge) : Bool := onB e.1 e.2.1 e.2.2.1 e.2.2.2 px py
def onUp (es : List AEdge) (px py : Int) (k : Nat) : Bool := (es.take k).any (onE px py)
def onA (es : List AEdge) (px py : Int) : Bool := onUp es px py es.length
theorem onUp_zero (es : List AEdge) (px py : Int) : onUp es px py 0 = false := rfl
theorem onUp_succ {es : List AEdge} {px py : Int} {k : Nat} {e : AEdge} (h : onUp es px py k = false) (he : es[k]? = some e) (hv : onE px py e = false) : onUp es px py (k + 1) = false := by
  unfold onUp at *; rw [List.take_add_one, he, List.any_append, h]; simp [hv]
theorem onA_yes {es : List AEdge} {px py : Int} {k : Nat} {e : AEdge} (he : es[k]? = some e) (hv : onE px py e = true) : true = onA es px py := by
  unfold onA onUp; rw [List.take_length]; exact (List.any_eq_true.2 ⟨e, List.mem_of_getElem? he, hv⟩).symm
set_option maxRecDepth 100000 in
set_option maxHeartbeats 6400000 in
theorem l14OnAny_any (es : List AEdge) (A : Option Addr) (c : Nat) (px py : Int) (w : World) (hes : ∀ e ∈ es, okE e) (hp : okB px py = true) (hl : es.length ≤ 400) (r : Rd cE 4 w w.heap.size A es) :
    Calls Try.prog 81 #[.slice A es.length c, .agg #[.int .i64 px, .int .i64 py]] w fun e w' => e = .returned (.bool (onA es px py)) ∧ Below w.heap.size w w' := by
  have HES := Lib.hid hes
  have HP := Lib.hid hp
  clear hes hp
  obtain ⟨L, hL⟩ : ∃ L, L = onA es px py := ⟨_, rfl⟩
  have HL := Lib.hid hL
  rw [← hL]
  clear hL
  obtain ⟨n, hn⟩ : ∃ n, n = es.length := ⟨_, rfl⟩
  rw [← hn] at hl ⊢
  have HN := Lib.hid hn
  clear hn
  go_enter Try.func81, Try.ntmps81
  go_wp2_with fail
  go_loopw [5] (fun i wr => ∃ k : Nat, k ≤ n ∧ i = .int .i64 (k : Int) ∧ onUp es px py k = false ∧ AtL w.heap.size [.int .i64 px, .int .i64 py] wr ∧ Below w.heap.size w wr) (fun i _ => n - (intOf i).toNat)
  case atStart => exact ⟨0, Nat.zero_le _, rfl, rfl, by exact AtL.new _ _ _, by repeat' (first | with_reducible assumption | with_reducible exact Below.refl _ _ | (with_reducible refine Below.setCell ?_ ?_ _) | (with_reducible refine Below.alloc ?_ ?_ _) | (with_reducible refine Below.drew ?_) | (with_reducible refine below_dr ?_ _) | (with_reducible refine Below.trans ?_ (Below.mono (by with_reducible assumption) ?_)) | omega | (simp; done) | (simp; omega))⟩
  case round =>
    obtain ⟨k, hk, rfl, hup, at1, hbl⟩ := hrel
    have HUP := Lib.hid hup
    clear hup
    have zr := hbl.size
    by_cases hlt : k < n
    case pos =>
      obtain ⟨⟨x0, x1, x2, x3⟩, ha⟩ : ∃ a, es[k]? = some a := ⟨es[k]'(by have := HN.out; omega), List.getElem?_eq_getElem (by have := HN.out; omega)⟩
      obtain ⟨g, o, rfl, hg, hc⟩ := (r.below hbl).elem ha
      have p0 : wr.cell? ⟨g, o + k * 4, none⟩ = some (.int .i64 x0) := hc 0 _ rfl
      have p1 : wr.cell? ⟨g, o + k * 4 + 1, none⟩ = some (.int .i64 x1) := hc 1 _ rfl
      have p2 : wr.cell? ⟨g, o + k * 4 + 2, none⟩ = some (.int .i64 x2) := hc 2 _ rfl
      have p3 : wr.cell? ⟨g, o + k * 4 + 3, none⟩ = some (.int .i64 x3) := hc 3 _ rfl
      have hgw : g < wr.heap.size := by omega
      have hok := HES.out _ (List.mem_of_getElem? ha)
      have hki : (k : Int) < (n : Int) := by omega
      have y0 := at1.cell 0 rfl
      have y1 := at1.cell 1 rfl
      have ly := at1.lt
      have CO := Lib.hid (fun w => l03On_any x0 x1 x2 x3 px py w hok.1 hok.2 HP.out)
      have HA := Lib.hid ha
      clear hc ha hok r
      rcases hv : onB x0 x1 x2 x3 px py with _ | _
      case false =>
        rw [hv] at CO
        have HV := Lib.hid (show onE px py (x0, x1, x2, x3) = false from hv)
        clear hv
        go_upto_region 4 with fail
        go_region_held3 (fun w' => (∀ b o, b < wr.heap.size → w'.cell? ⟨b, o, none⟩ = wr.cell? ⟨b, o, none⟩) ∧ wr.heap.size ≤ w'.heap.size)
          (first | ((try dsimp only); exact ⟨fun b o h => (by (repeat (first | with_reducible exact rfl | (with_reducible refine (cell_drew_at _ _).trans ?_) | (with_reducible refine (cell_set_at _ _ (by first | omega | (simp; done) | (simp; omega))).trans ?_) | (with_reducible refine (cell_alloc_at _ _ (by first | omega | (simp; done) | (simp; omega))).trans ?_) | (with_reducible refine (hcwA b o (by first | omega | (simp; done) | (simp; omega))).trans ?_)))), (by first | omega | (simp; done) | (simp; omega))⟩) | fail)
          (first
            | (go_at_call 92; (with_reducible refine (CO.out _).mono ?_); rintro e wA ⟨rfl, hbwA⟩; obtain ⟨hcwA, hfwA⟩ := bcell hbwA; have hzwA := hbwA.size; (try simp only [World.size_drew] at hcwA hfwA hzwA); (try simp only [World.size_alloc] at hcwA hfwA hzwA)))
        all_goals
          have gA : Below wr.heap.size wr wA := by repeat' (first | with_reducible assumption | with_reducible exact Below.refl _ _ | (with_reducible refine Below.setCell ?_ ?_ _) | (with_reducible refine Below.alloc ?_ ?_ _) | (with_reducible refine Below.drew ?_) | (with_reducible refine below_dr ?_ _) | (with_reducible refine Below.trans ?_ (Below.mono (by with_reducible assumption) ?_)) | omega | (simp; done) | (simp; omega))
          have atA := at1.below gA
          have gW : Below w.heap.size w wA := hbl.trans (gA.mono hbl.size)
          clear hbwA hcwA hfwA
          go_wp2_with fail
          go_roundw
          case rel => exact ⟨k + 1, by omega, by go_num, onUp_succ HUP.out HA.out HV.out, atA, gW⟩
          case measure => simp [intOf]; omega
      case true =>
        rw [hv] at CO
        have HV := Lib.hid (show onE px py (x0, x1, x2, x3) = true from hv)
        clear hv
        go_upto_region 4 with fail
        go_region_held3 (fun w' => (∀ b o, b < wr.heap.size → w'.cell? ⟨b, o, none⟩ = wr.cell? ⟨b, o, none⟩) ∧ wr.heap.size ≤ w'.heap.size)
          (first | ((try dsimp only); exact ⟨fun b o h => (by (repeat (first | with_reducible exact rfl | (with_reducible refine (cell_drew_at _ _).trans ?_) | (with_reducible refine (cell_set_at _ _ (by first | omega | (simp; done) | (simp; omega))).trans ?_) | (with_reducible refine (cell_alloc_at _ _ (by first | omega | (simp; done) | (simp; omega))).trans ?_) | (with_reducible refine (hcwA b o (by first | omega | (simp; done) | (simp; omega))).trans ?_)))), (by first | omega | (simp; done) | (simp; omega))⟩) | fail)
          (first
            | (go_at_call 92; (with_reducible refine (CO.out _).mono ?_); rintro e wA ⟨rfl, hbwA⟩; obtain ⟨hcwA, hfwA⟩ := bcell hbwA; have hzwA := hbwA.size; (try simp only [World.size_drew] at hcwA hfwA hzwA); (try simp only [World.size_alloc] at hcwA hfwA hzwA)))
        all_goals
          have gA : Below wr.heap.size wr wA := by repeat' (first | with_reducible assumption | with_reducible exact Below.refl _ _ | (with_reducible refine Below.setCell ?_ ?_ _) | (with_reducible refine Below.alloc ?_ ?_ _) | (with_reducible refine Below.drew ?_) | (with_reducible refine below_dr ?_ _) | (with_reducible refine Below.trans ?_ (Below.mono (by with_reducible assumption) ?_)) | omega | (simp; done) | (simp; omega))
          have atA := at1.below gA
          have gW : Below w.heap.size w wA := hbl.trans (gA.mono hbl.size)
          clear hbwA hcwA hfwA
          go_wp2_with fail
          go_ret
          exact ⟨ret_bool (by rw [HL.out]; exact onA_yes HA.out HV.out), gW⟩
    case neg =>
      obtain rfl : k = n := by omega
      have H := Lib.hid (show false = L by rw [HL.out]; unfold onA; rw [← HN.out]; exact HUP.out.symm)
      go_wp2_with fail
      go_ret
      exact ⟨ret_bool H.out, hbl⟩
set_option maxRecDepth 100000 in
set_option maxHeartbeats 12800000 in
theorem l14Winding_any (es : List AEdge) (A : Option Addr) (c : Nat) (px py : Int) (w : World) (hes : ∀ e ∈ es, okE e) (hp : okB px py = true) (hl : es.length ≤ 400) (r : Rd cE 4 w w.heap.size A es) :
    Calls Try.prog 82 #[.slice A es.length c, .agg #[.int .i64 px, .int .i64 py]] w fun e w' => e = .returned (.int .i64 (windI es px py)) ∧ Below w.heap.size w w' := by
  have HES := Lib.hid hes
  have HP := Lib.hid hp
  clear hes hp
  obtain ⟨L, hL⟩ : ∃ L, L = windI es px py := ⟨_, rfl⟩
  have HL := Lib.hid hL
  rw [← hL]
  clear hL
  obtain ⟨n, hn⟩ : ∃ n, n = es.length := ⟨_, rfl⟩
  rw [← hn] at hl ⊢
  have HN := Lib.hid hn
  clear hn
  go_enter Try.func82, Try.ntmps82
  go_wp2_with fail
  go_loopw [5, 6] (fun s i wr => ∃ k : Nat, k ≤ n ∧ i = .int .i64 (k : Int) ∧ s = .int .i64 (windS es px py k) ∧ AtL w.heap.size [.int .i64 px, .int .i64 py] wr ∧ Below w.heap.size w wr) (fun _ i _ => n - (intOf i).toNat)
  case atStart => exact ⟨0, Nat.zero_le _, rfl, rfl, by exact AtL.new _ _ _, by repeat' (first | with_reducible assumption | with_reducible exact Below.refl _ _ | (with_reducible refine Below.setCell ?_ ?_ _) | (with_reducible refine Below.alloc ?_ ?_ _) | (with_reducible refine Below.drew ?_) | (with_reducible refine below_dr ?_ _) | (with_reducible refine Below.trans ?_ (Below.mono (by with_reducible assumption) ?_)) | omega | (simp; done) | (simp; omega))⟩
  case round =>
    obtain ⟨k, hk, rfl, rfl, at1, hbl⟩ := hrel
    have zr := hbl.size
    by_cases hlt : k < n
    case pos =>
      obtain ⟨⟨x0, x1, x2, x3⟩, ha⟩ : ∃ a, es[k]? = some a := ⟨es[k]'(by have := HN.out; omega), List.getElem?_eq_getElem (by have := HN.out; omega)⟩
      obtain ⟨g, o, rfl, hg, hc⟩ := (r.below hbl).elem ha
      have p0 : wr.cell? ⟨g, o + k * 4, none⟩ = some (.int .i64 x0) := hc 0 _ rfl
      have p1 : wr.cell? ⟨g, o + k * 4 + 1, none⟩ = some (.int .i64 x1) := hc 1 _ rfl
      have p2 : wr.cell? ⟨g, o + k * 4 + 2, none⟩ = some (.int .i64 x2) := hc 2 _ rfl
      have p3 : wr.cell? ⟨g, o + k * 4 + 3, none⟩ = some (.int .i64 x3) := hc 3 _ rfl
      have hgw : g < wr.heap.size := by omega
      have hok := HES.out _ (List.mem_of_getElem? ha)
      have hki : (k : Int) < (n : Int) := by omega
      have y0 := at1.cell 0 rfl
      have y1 := at1.cell 1 rfl
      have ly := at1.lt
      have CO := Lib.hid (fun w => l03Turn_any x0 x1 x2 x3 px py w hok.1 hok.2 HP.out)
      have HS := Lib.hid (windS_succ (px := px) (py := py) ha)
      have hsb := windS_bound es px py k
      have p2g : ∀ o1, (wr.alloc o1).cell? ⟨g, o + k * 4 + 2, none⟩ = some (.int .i64 x2) := fun o1 => (cell_alloc_at _ _ hgw).trans p2
      have p3g : ∀ o1, (wr.alloc o1).cell? ⟨g, o + k * 4 + 3, none⟩ = some (.int .i64 x3) := fun o1 => (cell_alloc_at _ _ hgw).trans p3
      have y0g : ∀ o1 o2, ((wr.alloc o1).alloc o2).cell? ⟨w.heap.size, 0, none⟩ = some (.int .i64 px) := fun o1 o2 => (cell_alloc_at _ _ (by simp; omega)).trans ((cell_alloc_at _ _ ly).trans y0)
      have y1g : ∀ o1 o2, ((wr.alloc o1).alloc o2).cell? ⟨w.heap.size, 1, none⟩ = some (.int .i64 py) := fun o1 o2 => (cell_alloc_at _ _ (by simp; omega)).trans ((cell_alloc_at _ _ ly).trans y1)
      clear hc ha hok r
      have HW : windE px py (x0, x1, x2, x3) = (if x1 ≤ py ∧ py < x3 ∧ 0 < turnI x0 x1 x2 x3 px py then 1 else if x3 ≤ py ∧ py < x1 ∧ turnI x0 x1 x2 x3 px py < 0 then -1 else 0) := rfl
      rw [HW] at HS
      clear HW
      generalize turnI x0 x1 x2 x3 px py = t at CO HS
      generalize windS es px py k = s at *
      have b7 : IntKind.i64.wrap (s + 1) = s + 1 := IntWalk.i64_in _ (by omega)
      have b8 : IntKind.i64.wrap (s - 1) = s - 1 := IntWalk.i64_in _ (by omega)
      clear hsb
      by_cases c1 : x1 ≤ py
      case pos =>
        by_cases c2 : py < x3
        case pos =>
          by_cases c3 : 0 < t
          case pos =>
            have HR := Lib.hid (show s + 1 = windS es px py (k + 1) by rw [← HS.out]; rw [if_pos ⟨c1, c2, c3⟩])
            go_wp2_with (go_at_call 86; (with_reducible refine (CO.out _).mono ?_); rintro e wA ⟨rfl, hbA⟩; have y0A : wA.cell? ⟨w.heap.size, 0, none⟩ = some (.int .i64 px) := (hbA.cell (p := ⟨w.heap.size, 0, none⟩) (by simp; omega)).trans (y0g _ _); have y1A : wA.cell? ⟨w.heap.size, 1, none⟩ = some (.int .i64 py) := (hbA.cell (p := ⟨w.heap.size, 1, none⟩) (by simp; omega)).trans (y1g _ _); have a1A : wA.cell? ⟨wr.heap.size, 1, none⟩ = some (.int .i64 x1) := (hbA.cell (p := ⟨wr.heap.size, 1, none⟩) (by first | (simp; done) | (simp; omega))).trans (by simp [go_sem]); have b1A : wA.cell? ⟨wr.heap.size + 1, 1, none⟩ = some (.int .i64 x3) := (hbA.cell (p := ⟨wr.heap.size + 1, 1, none⟩) (by first | (simp; done) | (simp; omega))).trans (by simp [go_sem]); have hzA := hbA.size; (try simp only [World.size_alloc] at hzA); have gA : Below w.heap.size w wA := (by repeat' (first | with_reducible assumption | with_reducible exact Below.refl _ _ | (with_reducible refine Below.setCell ?_ ?_ _) | (with_reducible refine Below.alloc ?_ ?_ _) | (with_reducible refine Below.drew ?_) | (with_reducible refine below_dr ?_ _) | (with_reducible refine Below.trans ?_ (Below.mono (by with_reducible assumption) ?_)) | omega | (simp; done) | (simp; omega))))
            go_roundw
            case rel => exact ⟨k + 1, by omega, by go_num, by rw [← HR.out], (by first | exact ((at1.alloc _).alloc _).below hbA | exact (at1.alloc _).alloc _), by repeat' (first | with_reducible assumption | with_reducible exact Below.refl _ _ | (with_reducible refine Below.setCell ?_ ?_ _) | (with_reducible refine Below.alloc ?_ ?_ _) | (with_reducible refine Below.drew ?_) | (with_reducible refine below_dr ?_ _) | (with_reducible refine Below.trans ?_ (Below.mono (by with_reducible assumption) ?_)) | omega | (simp; done) | (simp; omega))⟩
            case measure => simp [intOf]; omega
          case neg =>
            have d1 : ¬ x3 ≤ py := by omega
            have HR := Lib.hid (show s = windS es px py (k + 1) by rw [← HS.out]; rw [if_neg (by omega), if_neg (by omega)]; omega)
            go_wp2_with (go_at_call 86; (with_reducible refine (CO.out _).mono ?_); rintro e wA ⟨rfl, hbA⟩; have y0A : wA.cell? ⟨w.heap.size, 0, none⟩ = some (.int .i64 px) := (hbA.cell (p := ⟨w.heap.size, 0, none⟩) (by simp; omega)).trans (y0g _ _); have y1A : wA.cell? ⟨w.heap.size, 1, none⟩ = some (.int .i64 py) := (hbA.cell (p := ⟨w.heap.size, 1, none⟩) (by simp; omega)).trans (y1g _ _); have a1A : wA.cell? ⟨wr.heap.size, 1, none⟩ = some (.int .i64 x1) := (hbA.cell (p := ⟨wr.heap.size, 1, none⟩) (by first | (simp; done) | (simp; omega))).trans (by simp [go_sem]); have b1A : wA.cell? ⟨wr.heap.size + 1, 1, none⟩ = some (.int .i64 x3) := (hbA.cell (p := ⟨wr.heap.size + 1, 1, none⟩) (by first | (simp; done) | (simp; omega))).trans (by simp [go_sem]); have hzA := hbA.size; (try simp only [World.size_alloc] at hzA); have gA : Below w.heap.size w wA := (by repeat' (first | with_reducible assumption | with_reducible exact Below.refl _ _ | (with_reducible refine Below.setCell ?_ ?_ _) | (with_reducible refine Below.alloc ?_ ?_ _) | (with_reducible refine Below.drew ?_) | (with_reducible refine below_dr ?_ _) | (with_reducible refine Below.trans ?_ (Below.mono (by with_reducible assumption) ?_)) | omega | (simp; done) | (simp; omega))))
            go_roundw
            case rel => exact ⟨k + 1, by omega, by go_num, by rw [← HR.out], (by first | exact ((at1.alloc _).alloc _).below hbA | exact (at1.alloc _).alloc _), by repeat' (first | with_reducible assumption | with_reducible exact Below.refl _ _ | (with_reducible refine Below.setCell ?_ ?_ _) | (with_reducible refine Below.alloc ?_ ?_ _) | (with_reducible refine Below.drew ?_) | (with_reducible refine below_dr ?_ _) | (with_reducible refine Below.trans ?_ (Below.mono (by with_reducible assumption) ?_)) | omega | (simp; done) | (simp; omega))⟩
            case measure => simp [intOf]; omega
        case neg =>
          have d1 : x3 ≤ py := by omega
          have d2 : ¬ py < x1 := by omega
          have HR := Lib.hid (show s = windS es px py (k + 1) by rw [← HS.out]; rw [if_neg (by omega), if_neg (by omega)]; omega)
          go_wp2_with fail
          go_roundw
          case rel => exact ⟨k + 1, by omega, by go_num, by rw [← HR.out], (by first | exact ((at1.alloc _).alloc _).below hbA | exact (at1.alloc _).alloc _), by repeat' (first | with_reducible assumption | with_reducible exact Below.refl _ _ | (with_reducible refine Below.setCell ?_ ?_ _) | (with_reducible refine Below.alloc ?_ ?_ _) | (with_reducible refine Below.drew ?_) | (with_reducible refine below_dr ?_ _) | (with_reducible refine Below.trans ?_ (Below.mono (by with_reducible assumption) ?_)) | omega | (simp; done) | (simp; omega))⟩
          case measure => simp [intOf]; omega
      case neg =>
        have d2 : py < x1 := by omega
        by_cases d1 : x3 ≤ py
        case neg =>
          have HR := Lib.hid (show s = windS es px py (k + 1) by rw [← HS.out]; rw [if_neg (by omega), if_neg (by omega)]; omega)
          go_wp2_with fail
          go_roundw
          case rel => exact ⟨k + 1, by omega, by go_num, by rw [← HR.out], (by first | exact ((at1.alloc _).alloc _).below hbA | exact (at1.alloc _).alloc _), by repeat' (first | with_reducible assumption | with_reducible exact Below.refl _ _ | (with_reducible refine Below.setCell ?_ ?_ _) | (with_reducible refine Below.alloc ?_ ?_ _) | (with_reducible refine Below.drew ?_) | (with_reducible refine below_dr ?_ _) | (with_reducible refine Below.trans ?_ (Below.mono (by with_reducible assumption) ?_)) | omega | (simp; done) | (simp; omega))⟩
          case measure => simp [intOf]; omega
        case pos =>
          by_cases d3 : t < 0
          case pos =>
            have HR := Lib.hid (show s - 1 = windS es px py (k + 1) by rw [← HS.out]; rw [if_neg (by omega), if_pos ⟨d1, d2, d3⟩]; omega)
            go_wp2_with (go_at_call 86; (with_reducible refine (CO.out _).mono ?_); rintro e wA ⟨rfl, hbA⟩; have y0A : wA.cell? ⟨w.heap.size, 0, none⟩ = some (.int .i64 px) := (hbA.cell (p := ⟨w.heap.size, 0, none⟩) (by simp; omega)).trans (y0g _ _); have y1A : wA.cell? ⟨w.heap.size, 1, none⟩ = some (.int .i64 py) := (hbA.cell (p := ⟨w.heap.size, 1, none⟩) (by simp; omega)).trans (y1g _ _); have a1A : wA.cell? ⟨wr.heap.size, 1, none⟩ = some (.int .i64 x1) := (hbA.cell (p := ⟨wr.heap.size, 1, none⟩) (by first | (simp; done) | (simp; omega))).trans (by simp [go_sem]); have b1A : wA.cell? ⟨wr.heap.size + 1, 1, none⟩ = some (.int .i64 x3) := (hbA.cell (p := ⟨wr.heap.size + 1, 1, none⟩) (by first | (simp; done) | (simp; omega))).trans (by simp [go_sem]); have hzA := hbA.size; (try simp only [World.size_alloc] at hzA); have gA : Below w.heap.size w wA := (by repeat' (first | with_reducible assumption | with_reducible exact Below.refl _ _ | (with_reducible refine Below.setCell ?_ ?_ _) | (with_reducible refine Below.alloc ?_ ?_ _) | (with_reducible refine Below.drew ?_) | (with_reducible refine below_dr ?_ _) | (with_reducible refine Below.trans ?_ (Below.mono (by with_reducible assumption) ?_)) | omega | (simp; done) | (simp; omega))))
            go_roundw
            case rel => exact ⟨k + 1, by omega, by go_num, by rw [← HR.out], (by first | exact ((at1.alloc _).alloc _).below hbA | exact (at1.alloc _).alloc _), by repeat' (first | with_reducible assumption | with_reducible exact Below.refl _ _ | (with_reducible refine Below.setCell ?_ ?_ _) | (with_reducible refine Below.alloc ?_ ?_ _) | (with_reducible refine Below.drew ?_) | (with_reducible refine below_dr ?_ _) | (with_reducible refine Below.trans ?_ (Below.mono (by with_reducible assumption) ?_)) | omega | (simp; done) | (simp; omega))⟩
            case measure => simp [intOf]; omega
          case neg =>
            have HR := Lib.hid (show s = windS es px py (k + 1) by rw [← HS.out]; rw [if_neg (by omega), if_neg (by omega)]; omega)
            go_wp2_with (go_at_call 86; (with_reducible refine (CO.out _).mono ?_); rintro e wA ⟨rfl, hbA⟩; have y0A : wA.cell? ⟨w.heap.size, 0, none⟩ = some (.int .i64 px) := (hbA.cell (p := ⟨w.heap.size, 0, none⟩) (by simp; omega)).trans (y0g _ _); have y1A : wA.cell? ⟨w.heap.size, 1, none⟩ = some (.int .i64 py) := (hbA.cell (p := ⟨w.heap.size, 1, none⟩) (by simp; omega)).trans (y1g _ _); have a1A : wA.cell? ⟨wr.heap.size, 1, none⟩ = some (.int .i64 x1) := (hbA.cell (p := ⟨wr.heap.size, 1, none⟩) (by first | (simp; done) | (simp; omega))).trans (by simp [go_sem]); have b1A : wA.cell? ⟨wr.heap.size + 1, 1, none⟩ = some (.int .i64 x3) := (hbA.cell (p := ⟨wr.heap.size + 1, 1, none⟩) (by first | (simp; done) | (simp; omega))).trans (by simp [go_sem]); have hzA := hbA.size; (try simp only [World.size_alloc] at hzA); have gA : Below w.heap.size w wA := (by repeat' (first | with_reducible assumption | with_reducible exact Below.refl _ _ | (with_reducible refine Below.setCell ?_ ?_ _) | (with_reducible refine Below.alloc ?_ ?_ _) | (with_reducible refine Below.drew ?_) | (with_reducible refine below_dr ?_ _) | (with_reducible refine Below.trans ?_ (Below.mono (by with_reducible assumption) ?_)) | omega | (simp; done) | (simp; omega))))
            go_roundw
            case rel => exact ⟨k + 1, by omega, by go_num, by rw [← HR.out], (by first | exact ((at1.alloc _).alloc _).below hbA | exact (at1.alloc _).alloc _), by repeat' (first | with_reducible assumption | with_reducible exact Below.refl _ _ | (with_reducible refine Below.setCell ?_ ?_ _) | (with_reducible refine Below.alloc ?_ ?_ _) | (with_reducible refine Below.drew ?_) | (with_reducible refine below_dr ?_ _) | (with_reducible refine Below.trans ?_ (Below.mono (by with_reducible assumption) ?_)) | omega | (simp; done) | (simp; omega))⟩
            case measure => simp [intOf]; omega
    case neg =>
      obtain rfl : k = n := by omega
      have H := Lib.hid (show windS es px py k = L by rw [HL.out, HN.out]; rfl)
      go_wp2_with fail
      go_ret
      exact ⟨ret_i64 H.out, hbl⟩
end Go.Proofs.Ytdeemhfhmgnbgaa
