/- Walks: whether a glyph is valid, on the reference's side. -/
import Derived.Test.YtelefmogmloniaaGne
import Derived.Deep.RegionHeld3
import Derived.ChangeKeysEq
namespace Go.Proofs.Ytelefmogmloniaa
open Go.RowKit
set_option linter.unusedVariables false
abbrev aN : DAnchor → ByteArray := fun a => a.1
def ancOk (l : List DAnchor) : Bool := l.all vAnc && nmOk aN l
theorem ancOk_no1 {l : List DAnchor} {k : Nat} {a : DAnchor} (ha : l[k]? = some a) (h : nameB (aN a).data.toList = false) : ancOk l = false := by unfold ancOk; rw [← nmOk_no1 (nm := aN) ha h]; simp
theorem ancOk_no2 {l : List DAnchor} {k : Nat} {a : DAnchor} (ha : l[k]? = some a) (h : vAnc a = false) : ancOk l = false := by unfold ancOk; rw [all_no ha h]; rfl
theorem nmHas_mono {α : Type} {nm : α → ByteArray} {l : List α} {j k : Nat} {a : α} (hj : j < k) (ha : l[j]? = some a) : nmHas nm l k (nm a).data.toList = true := by
  unfold nmHas
  rw [decide_eq_true_eq, List.mem_map]
  refine ⟨a, ?_, rfl⟩
  have h2 : (l.take k)[j]? = some a := by rw [List.getElem?_take, if_pos hj]; exact ha
  exact List.mem_of_getElem? h2
theorem ancOk_no3 {l : List DAnchor} {k : Nat} {a : DAnchor} (ha : l[k]? = some a) (h : nmHas aN l k (aN a).data.toList = true) : ancOk l = false := by unfold ancOk; rw [← nmOk_no2 (nm := aN) ha h]; simp
theorem ancOk_yes {l : List DAnchor} (h1 : alU vAnc l l.length) (h2 : nmUp aN l l.length = true) : ancOk l = true := by
  unfold ancOk nmOk
  rw [all_yes h1, h2]; rfl
theorem str_eq {x y : ByteArray} (h : x.data.toList = y.data.toList) : (x.toList == y.toList) = true := by simp [ByteArray.toList_eq, h]
theorem str_ne {x y : ByteArray} (h : ¬ x.data.toList = y.data.toList) : (x.toList == y.toList) = false := by rw [beq_eq_false_iff_ne]; simpa [ByteArray.toList_eq] using h
theorem vG_eq (a0 : ByteArray) (a1 a2 : Int) (l3 : List DLoop) (l4 : List DPart) (l5 : List DAnchor) (a6 : ByteArray) : vG (a0, a1, a2, l3, l4, l5, a6) =
  ((nameB a0.data.toList && decide (-1 ≤ a1 ∧ a1 ≤ 65535) && decide (0 ≤ a2 ∧ a2 ≤ 262144)) && (vOl l3 && decide (l4.length ≤ 6) && decide (l5.length ≤ 6) && decide (a6.size ≤ 400)) && (l4.all vPart && ancOk l5) && decide (l4.length = 0 ∨ l3.length = 0)) := rfl
set_option maxRecDepth 100000 in
set_option maxHeartbeats 12800000 in
theorem l17Glyph_any (a0 : ByteArray) (a1 : Int) (a2 : Int) (a3A : Option Addr) (a3c : Nat) (a3l : List DLoop) (a4A : Option Addr) (a4c : Nat) (a4l : List DPart) (a5A : Option Addr) (a5c : Nat) (a5l : List DAnchor) (a6 : ByteArray) (b p : Nat) (w : World) (h_a : totGlyph (a0, a1, a2, a3l, a4l, a5l, a6) ≤ 1048576) (hb : b < w.heap.size) (s0 : w.cell? ⟨b, p, none⟩ = some (.string a0)) (s1 : w.cell? ⟨b, p + 1, none⟩ = some (.int .i64 a1)) (s2 : w.cell? ⟨b, p + 2, none⟩ = some (.int .i64 a2)) (s3 : w.cell? ⟨b, p + 3, none⟩ = some (.slice a3A a3l.length a3c)) (s4 : w.cell? ⟨b, p + 4, none⟩ = some (.slice a4A a4l.length a4c)) (s5 : w.cell? ⟨b, p + 5, none⟩ = some (.slice a5A a5l.length a5c)) (s6 : w.cell? ⟨b, p + 6, none⟩ = some (.string a6)) (r_a3 : Row RvLoop 1 w w.heap.size a3A a3l) (r_a4 : Row RvPart 3 w w.heap.size a4A a4l) (r_a5 : Row RvAnchor 3 w w.heap.size a5A a5l) :
    Calls Try.prog 49 #[.pointer (some ⟨b, p, none⟩)] w fun e w' => e = .returned (.bool (vG (a0, a1, a2, a3l, a4l, a5l, a6))) ∧ Below w.heap.size w w' := by
  simp only [totGlyph] at h_a
  have hl_a3 : a3l.length ≤ 1048576 := Nat.le_trans (totRow_len totLoop _) (by omega)
  have hl_a4 : a4l.length ≤ 1048576 := Nat.le_trans (totRow_len totPart _) (by omega)
  have hl_a5 : a5l.length ≤ 1048576 := Nat.le_trans (totRow_len totAnchor _) (by omega)
  have hi_a3 := knots_in' (l := a3l) (n := 1048576) (by omega)
  have HI5 := Lib.hid (fun (i : Nat) (d : DAnchor) (hd : a5l[i]? = some d) => Nat.le_trans (names_in (l := a5l) (n := 1048576) (by omega) i d hd) (show 1048576 ≤ 9223372036854775807 by omega))
  have sz0 : a0.size ≤ 9223372036854775807 := by omega
  have sz6 : a6.size ≤ 1048576 := by omega
  clear h_a
  have CI := Lib.hid (fun w => specIsName_any a0 w sz0)
  have CO := Lib.hid (fun w hb c0 r => l10Ok_any a3l a3A a3c b (p + 3) w hb c0 hl_a3 hi_a3 r)
  rw [vG_eq]
  clear hi_a3
  generalize nameB a0.data.toList = v1 at CI ⊢
  generalize vOl a3l = v4 at CO ⊢
  obtain ⟨v5, hv5⟩ : ∃ v, v = a4l.all vPart := ⟨_, rfl⟩
  rw [← hv5]
  have HV5 := Lib.hid hv5
  clear hv5
  obtain ⟨v6, hv6⟩ : ∃ v, v = ancOk a5l := ⟨_, rfl⟩
  rw [← hv6]
  have HV6 := Lib.hid hv6
  clear hv6
  obtain ⟨v2, hv2⟩ : ∃ v, v = decide (-1 ≤ a1 ∧ a1 ≤ 65535) := ⟨_, rfl⟩
  rw [← hv2]
  have HV2 := Lib.hid hv2
  clear hv2
  obtain ⟨v3, hv3⟩ : ∃ v, v = decide (0 ≤ a2 ∧ a2 ≤ 262144) := ⟨_, rfl⟩
  rw [← hv3]
  have HV3 := Lib.hid hv3
  clear hv3
  obtain ⟨n3, hn3⟩ : ∃ n, n = a3l.length := ⟨_, rfl⟩
  obtain ⟨n4, hn4⟩ : ∃ n, n = a4l.length := ⟨_, rfl⟩
  obtain ⟨n5, hn5⟩ : ∃ n, n = a5l.length := ⟨_, rfl⟩
  rw [← hn3] at hl_a3 CO s3 ⊢
  rw [← hn4] at hl_a4 s4 ⊢
  rw [← hn5] at hl_a5 s5 ⊢
  have HN4 := Lib.hid hn4
  have HN5 := Lib.hid hn5
  clear hn3 hn4 hn5
  go_enter Try.func49, Try.ntmps49
  go_wp2_with fail
  refine (CI.out _).mono ?_
  rintro e wI ⟨rfl, rfl⟩
  cases v1
  case false =>
    go_wp2_with fail
    go_ret
    exact ⟨ret_bool (by simp), by repeat' (first | with_reducible assumption | with_reducible exact Below.refl _ _ | (with_reducible refine Below.setCell ?_ ?_ _) | (with_reducible refine Below.alloc ?_ ?_ _) | (with_reducible refine Below.drew ?_) | (with_reducible refine below_dr ?_ _) | (with_reducible refine Below.trans ?_ (Below.mono (by with_reducible assumption) ?_)) | omega | (simp; done) | (simp; omega))⟩
  case true =>
    by_cases h2 : -1 ≤ a1 ∧ a1 ≤ 65535
    case neg =>
      go_wp2_with fail
      refine (l00In_no _ _ _ _ (by omega)).mono ?_
      rintro e wI ⟨rfl, rfl⟩
      obtain rfl : v2 = false := HV2.out.trans (decide_eq_false h2)
      go_wp2_with fail
      go_ret
      exact ⟨ret_bool (by simp), by repeat' (first | with_reducible assumption | with_reducible exact Below.refl _ _ | (with_reducible refine Below.setCell ?_ ?_ _) | (with_reducible refine Below.alloc ?_ ?_ _) | (with_reducible refine Below.drew ?_) | (with_reducible refine below_dr ?_ _) | (with_reducible refine Below.trans ?_ (Below.mono (by with_reducible assumption) ?_)) | omega | (simp; done) | (simp; omega))⟩
    case pos =>
      have HC1 := Lib.hid (decide_eq_true h2)
      obtain rfl : v2 = true := HV2.out.trans HC1.out
      obtain ⟨h21, h22⟩ := h2
      go_wp2_with fail
      refine (l00In_yes _ _ _ _ h21 h22).mono ?_
      rintro e wI ⟨rfl, rfl⟩
      clear h21 h22
      by_cases h3 : 0 ≤ a2 ∧ a2 ≤ 262144
      case neg =>
        go_wp2_with fail
        refine (l00In_no _ _ _ _ (by omega)).mono ?_
        rintro e wI ⟨rfl, rfl⟩
        obtain rfl : v3 = false := HV3.out.trans (decide_eq_false h3)
        go_wp2_with fail
        go_ret
        exact ⟨ret_bool (by simp), by repeat' (first | with_reducible assumption | with_reducible exact Below.refl _ _ | (with_reducible refine Below.setCell ?_ ?_ _) | (with_reducible refine Below.alloc ?_ ?_ _) | (with_reducible refine Below.drew ?_) | (with_reducible refine below_dr ?_ _) | (with_reducible refine Below.trans ?_ (Below.mono (by with_reducible assumption) ?_)) | omega | (simp; done) | (simp; omega))⟩
      case pos =>
        have HC2 := Lib.hid (decide_eq_true h3)
        obtain rfl : v3 = true := HV3.out.trans HC2.out
        obtain ⟨h31, h32⟩ := h3
        go_wp2_with fail
        refine (l00In_yes _ _ _ _ h31 h32).mono ?_
        rintro e wI ⟨rfl, rfl⟩
        clear h31 h32
        go_wp2_with fail
        refine (CO.out _ (by first | omega | (simp; omega)) s3 ?_).mono ?_
        · exact (Row.carry (w' := _) r_a3 (by repeat' (first | with_reducible assumption | with_reducible exact Below.refl _ _ | (with_reducible refine Below.setCell ?_ ?_ _) | (with_reducible refine Below.alloc ?_ ?_ _) | (with_reducible refine Below.drew ?_) | (with_reducible refine below_dr ?_ _) | (with_reducible refine Below.trans ?_ (Below.mono (by with_reducible assumption) ?_)) | omega | (simp; done) | (simp; omega))) (Nat.le_refl _)).more (by (try simp only [World.size_setCell]); (try simp only [World.size_drew]); (try simp only [World.size_alloc]); omega)
        rintro e wO ⟨rfl, hbO⟩
        have bwO : Below w.heap.size w wO := by repeat' (first | with_reducible assumption | with_reducible exact Below.refl _ _ | (with_reducible refine Below.setCell ?_ ?_ _) | (with_reducible refine Below.alloc ?_ ?_ _) | (with_reducible refine Below.drew ?_) | (with_reducible refine below_dr ?_ _) | (with_reducible refine Below.trans ?_ (Below.mono (by with_reducible assumption) ?_)) | omega | (simp; done) | (simp; omega))
        have z0wO : wO.cell? ⟨b, p, none⟩ = some (.string a0) := (bwO.cell (p := ⟨b, p, none⟩) hb).trans s0
        have z1wO : wO.cell? ⟨b, p + 1, none⟩ = some (.int .i64 a1) := (bwO.cell (p := ⟨b, p + 1, none⟩) hb).trans s1
        have z2wO : wO.cell? ⟨b, p + 2, none⟩ = some (.int .i64 a2) := (bwO.cell (p := ⟨b, p + 2, none⟩) hb).trans s2
        have z3wO : wO.cell? ⟨b, p + 3, none⟩ = some (.slice a3A n3 a3c) := (bwO.cell (p := ⟨b, p + 3, none⟩) hb).trans s3
        have z4wO : wO.cell? ⟨b, p + 4, none⟩ = some (.slice a4A n4 a4c) := (bwO.cell (p := ⟨b, p + 4, none⟩) hb).trans s4
        have z5wO : wO.cell? ⟨b, p + 5, none⟩ = some (.slice a5A n5 a5c) := (bwO.cell (p := ⟨b, p + 5, none⟩) hb).trans s5
        have z6wO : wO.cell? ⟨b, p + 6, none⟩ = some (.string a6) := (bwO.cell (p := ⟨b, p + 6, none⟩) hb).trans s6
        cases v4
        case false =>
          go_wp2_with fail
          go_ret
          exact ⟨ret_bool (by simp), by repeat' (first | with_reducible assumption | with_reducible exact Below.refl _ _ | (with_reducible refine Below.setCell ?_ ?_ _) | (with_reducible refine Below.alloc ?_ ?_ _) | (with_reducible refine Below.drew ?_) | (with_reducible refine below_dr ?_ _) | (with_reducible refine Below.trans ?_ (Below.mono (by with_reducible assumption) ?_)) | omega | (simp; done) | (simp; omega))⟩
        case true =>
          by_cases h6 : n4 ≤ 6
          case neg =>
            have q6 : (6 : Int) < n4 := by omega
            go_wp2_with fail
            go_ret
            exact ⟨ret_bool (by simp [h6]), by repeat' (first | with_reducible assumption | with_reducible exact Below.refl _ _ | (with_reducible refine Below.setCell ?_ ?_ _) | (with_reducible refine Below.alloc ?_ ?_ _) | (with_reducible refine Below.drew ?_) | (with_reducible refine below_dr ?_ _) | (with_reducible refine Below.trans ?_ (Below.mono (by with_reducible assumption) ?_)) | omega | (simp; done) | (simp; omega))⟩
          case pos =>
            have q6 : ¬ (6 : Int) < n4 := by omega
            by_cases h7 : n5 ≤ 6
            case neg =>
              have q7 : (6 : Int) < n5 := by omega
              go_wp2_with fail
              go_ret
              exact ⟨ret_bool (by simp [h7]), by repeat' (first | with_reducible assumption | with_reducible exact Below.refl _ _ | (with_reducible refine Below.setCell ?_ ?_ _) | (with_reducible refine Below.alloc ?_ ?_ _) | (with_reducible refine Below.drew ?_) | (with_reducible refine below_dr ?_ _) | (with_reducible refine Below.trans ?_ (Below.mono (by with_reducible assumption) ?_)) | omega | (simp; done) | (simp; omega))⟩
            case pos =>
              have q7 : ¬ (6 : Int) < n5 := by omega
              by_cases h8 : a6.size ≤ 400
              case neg =>
                have q8 : (400 : Int) < a6.size := by omega
                go_wp2_with fail
                go_ret
                exact ⟨ret_bool (by simp [h8]), by repeat' (first | with_reducible assumption | with_reducible exact Below.refl _ _ | (with_reducible refine Below.setCell ?_ ?_ _) | (with_reducible refine Below.alloc ?_ ?_ _) | (with_reducible refine Below.drew ?_) | (with_reducible refine below_dr ?_ _) | (with_reducible refine Below.trans ?_ (Below.mono (by with_reducible assumption) ?_)) | omega | (simp; done) | (simp; omega))⟩
              case pos =>
                have q8 : ¬ (400 : Int) < a6.size := by omega
                go_wp2_with fail
                go_loopw [3] (fun i wr => ∃ k : Nat, k ≤ n4 ∧ i = .int .i64 k ∧ alU vPart a4l k ∧ Below w.heap.size w wr) (fun i _ => n4 - (intOf i).toNat)
                case atStart => exact ⟨0, Nat.zero_le _, rfl, alU_zero, by repeat' (first | with_reducible assumption | with_reducible exact Below.refl _ _ | (with_reducible refine Below.setCell ?_ ?_ _) | (with_reducible refine Below.alloc ?_ ?_ _) | (with_reducible refine Below.drew ?_) | (with_reducible refine below_dr ?_ _) | (with_reducible refine Below.trans ?_ (Below.mono (by with_reducible assumption) ?_)) | omega | (simp; done) | (simp; omega))⟩
                case round =>
                  obtain ⟨k, hk, rfl, hal, hbl⟩ := hrel
                  have HAL := Lib.hid hal
                  clear hal
                  have zr := hbl.size
                  by_cases hlt : k < n4
                  case pos =>
                    have z4wr : wr.cell? ⟨b, p + 4, none⟩ = some (.slice a4A n4 a4c) := (hbl.cell (p := ⟨b, p + 4, none⟩) hb).trans s4
                    obtain ⟨⟨x0, x1, x2⟩, ha⟩ : ∃ a, a4l[k]? = some a := ⟨a4l[k]'(by have := HN4.out; omega), List.getElem?_eq_getElem (by have := HN4.out; omega)⟩
                    obtain ⟨g, o, rowc, rfl, hg, hRc, hcc⟩ := (Row.carry (w' := wr) r_a4 hbl (Nat.le_refl _)).elem ha
                    obtain rfl := hRc
                    have c0 : wr.cell? ⟨g, o + k * 3, none⟩ = some (.int .i64 x0) := hcc 0 _ rfl
                    have c1 : wr.cell? ⟨g, o + k * 3 + 1, none⟩ = some (.int .i64 x1) := hcc 1 _ rfl
                    have c2 : wr.cell? ⟨g, o + k * 3 + 2, none⟩ = some (.int .i64 x2) := hcc 2 _ rfl
                    clear hcc
                    have HA := Lib.hid ha
                    have CV := Lib.hid (fun w => l03Ok_any x1 x2 w)
                    clear ha
                    have hgw : g < wr.heap.size := by omega
                    have hki : (k : Int) < (n4 : Int) := by omega
                    by_cases hin : 0 ≤ x0 ∧ x0 ≤ 39
                    case neg =>
                      have HB := Lib.hid (show vPart (x0, x1, x2) = false by simp [vPart]; omega)
                      go_wp2_with fail
                      refine (l00In_no _ _ _ _ (by omega)).mono ?_
                      rintro e wI ⟨rfl, rfl⟩
                      clear hin
                      obtain rfl : v5 = false := HV5.out.trans (all_no HA.out HB.out)
                      go_wp2_with fail
                      go_ret
                      exact ⟨ret_bool (by simp), by repeat' (first | with_reducible assumption | with_reducible exact Below.refl _ _ | (with_reducible refine Below.setCell ?_ ?_ _) | (with_reducible refine Below.alloc ?_ ?_ _) | (with_reducible refine Below.drew ?_) | (with_reducible refine below_dr ?_ _) | (with_reducible refine Below.trans ?_ (Below.mono (by with_reducible assumption) ?_)) | omega | (simp; done) | (simp; omega))⟩
                    case pos =>
                      obtain ⟨i1, i2⟩ := hin
                      have HC := Lib.hid (show decide (0 ≤ x0 ∧ x0 < 40) = true by simp; omega)
                      rcases hq : okB x1 x2 with _ | _
                      case false =>
                        have CW := CV.out
                        rw [hq] at CW
                        have HQ := Lib.hid (show vPart (x0, x1, x2) = false by unfold vPart; rw [HC.out]; simpa using hq)
                        clear hq CV
                        go_wp2_with fail
                        refine (l00In_yes _ _ _ _ (by omega) (by omega)).mono ?_
                        rintro e wI ⟨rfl, rfl⟩
                        go_wp2_with fail
                        refine (CW _).mono ?_
                        rintro e wK ⟨rfl, hbK⟩
                        clear i1 i2
                        obtain rfl : v5 = false := HV5.out.trans (all_no HA.out HQ.out)
                        go_wp2_with fail
                        go_ret
                        exact ⟨ret_bool (by simp), by repeat' (first | with_reducible assumption | with_reducible exact Below.refl _ _ | (with_reducible refine Below.setCell ?_ ?_ _) | (with_reducible refine Below.alloc ?_ ?_ _) | (with_reducible refine Below.drew ?_) | (with_reducible refine below_dr ?_ _) | (with_reducible refine Below.trans ?_ (Below.mono (by with_reducible assumption) ?_)) | omega | (simp; done) | (simp; omega))⟩
                      case true =>
                        have CW := CV.out
                        rw [hq] at CW
                        have HQ := Lib.hid (show vPart (x0, x1, x2) = true by unfold vPart; rw [HC.out]; simpa using hq)
                        clear hq CV
                        go_wp2_with fail
                        refine (l00In_yes _ _ _ _ (by omega) (by omega)).mono ?_
                        rintro e wI ⟨rfl, rfl⟩
                        go_wp2_with fail
                        refine (CW _).mono ?_
                        rintro e wK ⟨rfl, hbK⟩
                        clear i1 i2
                        go_wp2_with fail
                        go_roundw
                        case rel => exact ⟨k + 1, by omega, by go_num, alU_succ HAL.out HA.out HQ.out, by repeat' (first | with_reducible assumption | with_reducible exact Below.refl _ _ | (with_reducible refine Below.setCell ?_ ?_ _) | (with_reducible refine Below.alloc ?_ ?_ _) | (with_reducible refine Below.drew ?_) | (with_reducible refine below_dr ?_ _) | (with_reducible refine Below.trans ?_ (Below.mono (by with_reducible assumption) ?_)) | omega | (simp; done) | (simp; omega))⟩
                        case measure => simp [intOf]; omega
                  case neg =>
                    obtain rfl : n4 = k := by omega
                    obtain rfl : v5 = true := HV5.out.trans (all_yes (by rw [← HN4.out]; exact HAL.out))
                    have z4wr : wr.cell? ⟨b, p + 4, none⟩ = some (.slice a4A n4 a4c) := (hbl.cell (p := ⟨b, p + 4, none⟩) hb).trans s4
                    clear HAL
                    go_wp2_with fail
                    go_loopw [4, 5] (fun i _ wr => ∃ k : Nat, k ≤ n5 ∧ i = .int .i64 k ∧ alU vAnc a5l k ∧ nmUp aN a5l k = true ∧ Below w.heap.size w wr) (fun i _ _ => n5 - (intOf i).toNat)
                    case atStart => exact ⟨0, Nat.zero_le _, rfl, alU_zero, nmUp_zero, by repeat' (first | with_reducible assumption | with_reducible exact Below.refl _ _ | (with_reducible refine Below.setCell ?_ ?_ _) | (with_reducible refine Below.alloc ?_ ?_ _) | (with_reducible refine Below.drew ?_) | (with_reducible refine below_dr ?_ _) | (with_reducible refine Below.trans ?_ (Below.mono (by with_reducible assumption) ?_)) | omega | (simp; done) | (simp; omega))⟩
                    case round =>
                      obtain ⟨k, hk, rfl, hal, hup, hbl⟩ := hrel
                      have HAL := Lib.hid hal
                      have HUP := Lib.hid hup
                      clear hal hup
                      have zr := hbl.size
                      by_cases hlt : k < n5
                      case pos =>
                        obtain ⟨⟨x0, x1, x2⟩, ha⟩ : ∃ a, a5l[k]? = some a := ⟨a5l[k]'(by have := HN5.out; omega), List.getElem?_eq_getElem (by have := HN5.out; omega)⟩
                        obtain ⟨g, o, rowc, hAd, hg, hRc, hcc⟩ := (Row.carry (w' := wr) r_a5 hbl (Nat.le_refl _)).elem ha
                        obtain rfl := hRc
                        have c0 : wr.cell? ⟨g, o + k * 3, none⟩ = some (.string x0) := hcc 0 _ rfl
                        have c1 : wr.cell? ⟨g, o + k * 3 + 1, none⟩ = some (.int .i64 x1) := hcc 1 _ rfl
                        have c2 : wr.cell? ⟨g, o + k * 3 + 2, none⟩ = some (.int .i64 x2) := hcc 2 _ rfl
                        clear hcc
                        have HAD := Lib.hid hAd
                        clear hAd
                        have HA := Lib.hid ha
                        have CI2 := Lib.hid (fun w => specIsName_any x0 w (HI5.out k _ ha))
                        have CV := Lib.hid (fun w => l03Ok_any x1 x2 w)
                        clear ha
                        have hgw : g < wr.heap.size := by omega
                        have hki : (k : Int) < (n5 : Int) := by omega
                        have z5wr : wr.cell? ⟨b, p + 5, none⟩ = some (.slice a5A n5 a5c) := (hbl.cell (p := ⟨b, p + 5, none⟩) hb).trans s5
                        rw [HAD.out] at z5wr
                        rcases hv : nameB x0.data.toList with _ | _
                        case false =>
                          have CJ := CI2.out
                          rw [hv] at CJ
                          have HV := Lib.hid hv
                          clear hv CI2
                          go_wp2_with fail
                          refine (CJ _).mono ?_
                          rintro e wI ⟨rfl, rfl⟩
                          obtain rfl : v6 = false := HV6.out.trans (ancOk_no1 HA.out HV.out)
                          go_wp2_with fail
                          go_ret
                          exact ⟨ret_bool (by simp), by repeat' (first | with_reducible assumption | with_reducible exact Below.refl _ _ | (with_reducible refine Below.setCell ?_ ?_ _) | (with_reducible refine Below.alloc ?_ ?_ _) | (with_reducible refine Below.drew ?_) | (with_reducible refine below_dr ?_ _) | (with_reducible refine Below.trans ?_ (Below.mono (by with_reducible assumption) ?_)) | omega | (simp; done) | (simp; omega))⟩
                        case true =>
                          have CJ := CI2.out
                          rw [hv] at CJ
                          have HV := Lib.hid hv
                          clear hv CI2
                          go_wp2_with fail
                          refine (CJ _).mono ?_
                          rintro e wI ⟨rfl, rfl⟩
                          rcases hq : okB x1 x2 with _ | _
                          case false =>
                            have CW := CV.out
                            rw [hq] at CW
                            have HQ := Lib.hid (show vAnc (x0, x1, x2) = false from hq)
                            clear hq CV
                            go_wp2_with fail
                            refine (CW _).mono ?_
                            rintro e wK ⟨rfl, hbK⟩
                            have hbk : Below w.heap.size w wK := by repeat' (first | with_reducible assumption | with_reducible exact Below.refl _ _ | (with_reducible refine Below.setCell ?_ ?_ _) | (with_reducible refine Below.alloc ?_ ?_ _) | (with_reducible refine Below.drew ?_) | (with_reducible refine below_dr ?_ _) | (with_reducible refine Below.trans ?_ (Below.mono (by with_reducible assumption) ?_)) | omega | (simp; done) | (simp; omega))
                            have zK := hbk.size
                            obtain rfl : v6 = false := HV6.out.trans (ancOk_no2 HA.out HQ.out)
                            go_wp2_with fail
                            go_ret
                            exact ⟨ret_bool (by simp), by repeat' (first | with_reducible assumption | with_reducible exact Below.refl _ _ | (with_reducible refine Below.setCell ?_ ?_ _) | (with_reducible refine Below.alloc ?_ ?_ _) | (with_reducible refine Below.drew ?_) | (with_reducible refine below_dr ?_ _) | (with_reducible refine Below.trans ?_ (Below.mono (by with_reducible assumption) ?_)) | omega | (simp; done) | (simp; omega))⟩
                          case true =>
                            have CW := CV.out
                            rw [hq] at CW
                            have HQ := Lib.hid (show vAnc (x0, x1, x2) = true from hq)
                            clear hq CV
                            go_wp2_with fail
                            refine (CW _).mono ?_
                            rintro e wK ⟨rfl, hbK⟩
                            have hbk : Below w.heap.size w wK := by repeat' (first | with_reducible assumption | with_reducible exact Below.refl _ _ | (with_reducible refine Below.setCell ?_ ?_ _) | (with_reducible refine Below.alloc ?_ ?_ _) | (with_reducible refine Below.drew ?_) | (with_reducible refine below_dr ?_ _) | (with_reducible refine Below.trans ?_ (Below.mono (by with_reducible assumption) ?_)) | omega | (simp; done) | (simp; omega))
                            have zK := hbk.size
                            clear c0 c1 c2 z5wr
                            go_wp2_with fail
                            go_loopw [5] (fun i wr => ∃ j : Nat, j ≤ k ∧ i = .int .i64 j ∧ nmHas aN a5l j x0.data.toList = false ∧ Below w.heap.size w wr) (fun i _ => k - (intOf i).toNat)
                            case atStart => exact ⟨0, Nat.zero_le _, rfl, by simp [nmHas], by repeat' (first | with_reducible assumption | with_reducible exact Below.refl _ _ | (with_reducible refine Below.setCell ?_ ?_ _) | (with_reducible refine Below.alloc ?_ ?_ _) | (with_reducible refine Below.drew ?_) | (with_reducible refine below_dr ?_ _) | (with_reducible refine Below.trans ?_ (Below.mono (by with_reducible assumption) ?_)) | omega | (simp; done) | (simp; omega))⟩
                            case round =>
                              obtain ⟨j, hj, rfl, hnh, hbj⟩ := hrel
                              have HNH := Lib.hid hnh
                              clear hnh
                              have zj := hbj.size
                              by_cases hlj : j < k
                              case pos =>
                                obtain ⟨⟨y0, y1, y2⟩, hd⟩ : ∃ a, a5l[j]? = some a := ⟨a5l[j]'(by have := HN5.out; omega), List.getElem?_eq_getElem (by have := HN5.out; omega)⟩
                                obtain ⟨gd, od, rowd, hAd2, hgd', hRd, hcd⟩ := (Row.carry (w' := wr) r_a5 hbj (Nat.le_refl _)).elem hd
                                obtain rfl := hRd
                                have d0 : wr.cell? ⟨gd, od + j * 3, none⟩ = some (.string y0) := hcd 0 _ rfl
                                have d1 : wr.cell? ⟨gd, od + j * 3 + 1, none⟩ = some (.int .i64 y1) := hcd 1 _ rfl
                                have d2 : wr.cell? ⟨gd, od + j * 3 + 2, none⟩ = some (.int .i64 y2) := hcd 2 _ rfl
                                clear hcd
                                have HD := Lib.hid hd
                                clear hd
                                have e0 : wr.cell? ⟨g, o + k * 3, none⟩ = some (.string x0) := by
                                  obtain ⟨g2, o2, row2, hA2, -, rfl, hc2⟩ := (Row.carry (w' := wr) r_a5 hbj (Nat.le_refl _)).elem HA.out
                                  have hA3 := HAD.out.symm.trans hA2
                                  injection hA3 with hA3
                                  injection hA3 with h1 h2
                                  subst h1 h2
                                  exact hc2 0 _ rfl
                                have hgd : gd < wr.heap.size := by omega
                                have hjk : (j : Int) < (k : Int) := by omega
                                have hjn : (j : Int) < (n5 : Int) := by omega
                                have z5wr : wr.cell? ⟨b, p + 5, none⟩ = some (.slice a5A n5 a5c) := (hbj.cell (p := ⟨b, p + 5, none⟩) hb).trans s5
                                obtain ⟨rfl, rfl⟩ : g = gd ∧ o = od := by
                                  have h := HAD.out.symm.trans hAd2
                                  injection h with h
                                  injection h with h1 h2
                                  exact ⟨h1, h2⟩
                                rw [HAD.out] at z5wr
                                clear hAd2
                                by_cases hke : y0.data.toList = x0.data.toList
                                case pos =>
                                  have e1 := str_eq hke
                                  have HK := Lib.hid hke
                                  clear hke
                                  go_wp2_with fail
                                  go_region_held3 (fun w' => w'.cell? ⟨b, p + 5, none⟩ = some (.slice (some ⟨g, o, none⟩) n5 a5c) ∧ w'.cell? ⟨g, o + j * 3, none⟩ = some (.string y0) ∧ w'.cell? ⟨g, o + k * 3, none⟩ = some (.string x0))
                                    (first | exact ⟨z5wr, d0, e0⟩ | assumption | fail)
                                    (fail)
                                  all_goals
                                    obtain rfl : v6 = false := HV6.out.trans (ancOk_no3 HA.out (by show nmHas aN a5l k x0.data.toList = true; rw [← HK.out]; exact nmHas_mono hlj HD.out))
                                    go_wp2_with fail
                                    go_ret
                                    exact ⟨ret_bool (by simp), by repeat' (first | with_reducible assumption | with_reducible exact Below.refl _ _ | (with_reducible refine Below.setCell ?_ ?_ _) | (with_reducible refine Below.alloc ?_ ?_ _) | (with_reducible refine Below.drew ?_) | (with_reducible refine below_dr ?_ _) | (with_reducible refine Below.trans ?_ (Below.mono (by with_reducible assumption) ?_)) | omega | (simp; done) | (simp; omega))⟩
                                case neg =>
                                  have e1 := str_ne hke
                                  have HK := Lib.hid hke
                                  clear hke
                                  go_wp2_with fail
                                  go_region_held3 (fun w' => w'.cell? ⟨b, p + 5, none⟩ = some (.slice (some ⟨g, o, none⟩) n5 a5c) ∧ w'.cell? ⟨g, o + j * 3, none⟩ = some (.string y0) ∧ w'.cell? ⟨g, o + k * 3, none⟩ = some (.string x0))
                                    (first | exact ⟨z5wr, d0, e0⟩ | assumption | fail)
                                    (fail)
                                  all_goals
                                    go_wp2_with fail
                                    go_roundw
                                    case rel => exact ⟨j + 1, by omega, by go_num, by rw [nmHas_succ HD.out]; simp only; rw [if_neg (fun e => HK.out e.symm)]; exact HNH.out, by repeat' (first | with_reducible assumption | with_reducible exact Below.refl _ _ | (with_reducible refine Below.setCell ?_ ?_ _) | (with_reducible refine Below.alloc ?_ ?_ _) | (with_reducible refine Below.drew ?_) | (with_reducible refine below_dr ?_ _) | (with_reducible refine Below.trans ?_ (Below.mono (by with_reducible assumption) ?_)) | omega | (simp; done) | (simp; omega))⟩
                                    case measure => simp [intOf]; omega
                              case neg =>
                                obtain rfl : j = k := by omega
                                go_wp2_with fail
                                go_roundw
                                case rel =>
                                  have hx1 := alU_succ HAL.out HA.out HQ.out
                                  have hx2 := nmUp_succ HUP.out HA.out HV.out HNH.out
                                  exact ⟨j + 1, by omega, by go_num, hx1, hx2, by repeat' (first | with_reducible assumption | with_reducible exact Below.refl _ _ | (with_reducible refine Below.setCell ?_ ?_ _) | (with_reducible refine Below.alloc ?_ ?_ _) | (with_reducible refine Below.drew ?_) | (with_reducible refine below_dr ?_ _) | (with_reducible refine Below.trans ?_ (Below.mono (by with_reducible assumption) ?_)) | omega | (simp; done) | (simp; omega))⟩
                                case measure => simp [intOf]; omega
                      case neg =>
                        obtain rfl : n5 = k := by omega
                        obtain rfl : v6 = true := HV6.out.trans (ancOk_yes (by have := HAL.out; rw [HN5.out] at this; exact this) (by have := HUP.out; rw [HN5.out] at this; exact this))
                        have z5wr : wr.cell? ⟨b, p + 5, none⟩ = some (.slice a5A n5 a5c) := (hbl.cell (p := ⟨b, p + 5, none⟩) hb).trans s5
                        have hb9 : Below w.heap.size w wr := by repeat' (first | with_reducible assumption | with_reducible exact Below.refl _ _ | (with_reducible refine Below.setCell ?_ ?_ _) | (with_reducible refine Below.alloc ?_ ?_ _) | (with_reducible refine Below.drew ?_) | (with_reducible refine below_dr ?_ _) | (with_reducible refine Below.trans ?_ (Below.mono (by with_reducible assumption) ?_)) | omega | (simp; done) | (simp; omega))
                        have z3wr : wr.cell? ⟨b, p + 3, none⟩ = some (.slice a3A n3 a3c) := (hbl.cell (p := ⟨b, p + 3, none⟩) hb).trans s3
                        have z4wr : wr.cell? ⟨b, p + 4, none⟩ = some (.slice a4A n4 a4c) := (hbl.cell (p := ⟨b, p + 4, none⟩) hb).trans s4
                        by_cases h5 : n4 = 0
                        case pos =>
                          subst h5
                          go_wp2_with fail
                          go_ret
                          exact ⟨ret_bool (by symm; simp; try omega), by repeat' (first | with_reducible assumption | with_reducible exact Below.refl _ _ | (with_reducible refine Below.setCell ?_ ?_ _) | (with_reducible refine Below.alloc ?_ ?_ _) | (with_reducible refine Below.drew ?_) | (with_reducible refine below_dr ?_ _) | (with_reducible refine Below.trans ?_ (Below.mono (by with_reducible assumption) ?_)) | omega | (simp; done) | (simp; omega))⟩
                        case neg =>
                          have q5 : ((n4 : Int) == 0) = false := by rw [beq_eq_false_iff_ne]; omega
                          by_cases h7 : n3 = 0
                          case pos =>
                            subst h7
                            go_wp2_with fail
                            go_ret
                            exact ⟨ret_bool (by symm; simp; try omega), by repeat' (first | with_reducible assumption | with_reducible exact Below.refl _ _ | (with_reducible refine Below.setCell ?_ ?_ _) | (with_reducible refine Below.alloc ?_ ?_ _) | (with_reducible refine Below.drew ?_) | (with_reducible refine below_dr ?_ _) | (with_reducible refine Below.trans ?_ (Below.mono (by with_reducible assumption) ?_)) | omega | (simp; done) | (simp; omega))⟩
                          case neg =>
                            have q7 : ((n3 : Int) == 0) = false := by rw [beq_eq_false_iff_ne]; omega
                            have H := Lib.hid (show decide (n4 = 0 ∨ n3 = 0) = false by simp [h5, h7])
                            go_wp2_with fail
                            go_ret
                            exact ⟨ret_bool (by rw [H.out]; simp), by repeat' (first | with_reducible assumption | with_reducible exact Below.refl _ _ | (with_reducible refine Below.setCell ?_ ?_ _) | (with_reducible refine Below.alloc ?_ ?_ _) | (with_reducible refine Below.drew ?_) | (with_reducible refine below_dr ?_ _) | (with_reducible refine Below.trans ?_ (Below.mono (by with_reducible assumption) ?_)) | omega | (simp; done) | (simp; omega))⟩
end Go.Proofs.Ytelefmogmloniaa
