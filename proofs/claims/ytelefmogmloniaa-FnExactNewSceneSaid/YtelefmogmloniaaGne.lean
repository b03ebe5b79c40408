/- Walks: whether a glyph is valid, on the program's side. -/
import Derived.Test.YtelefmogmloniaaGmc
import Derived.Test.YtelefmogmloniaaGna
import Derived.Test.YtelefmogmloniaaGnd
namespace Go.Proofs.Ytelefmogmloniaa
open Go.RowKit
set_option linter.unusedVariables false
def vG : DGlyph → Bool := fun ⟨a0, a1, a2, a3, a4, a5, a6⟩ =>
  (nameB a0.data.toList && decide (-1 ≤ a1 ∧ a1 ≤ 65535) && decide (0 ≤ a2 ∧ a2 ≤ 262144)) && (vOl a3 && decide (a4.length ≤ 6) && decide (a5.length ≤ 6) && decide (a6.size ≤ 400)) && (a4.all vPart && (a5.all vAnc && nmOk (fun a : DAnchor => a.1) a5)) && decide (a4.length = 0 ∨ a3.length = 0)
theorem knots_in' {l : List DLoop} {n : Nat} (h : totRow totLoop l ≤ n) (i : Nat) (d : DLoop) (hd : l[i]? = some d) : d.length ≤ n := by
  have h1 := totRow_at (f := totLoop) hd
  have h2 : d.length ≤ totLoop d := totRow_len totKnot d
  omega
theorem names_in {l : List DAnchor} {n : Nat} (h : totRow totAnchor l ≤ n) (i : Nat) (d : DAnchor) (hd : l[i]? = some d) : d.1.size ≤ n := by
  have h1 := totRow_at (f := totAnchor) hd
  have h2 : totAnchor d = d.1.size := rfl
  omega
set_option maxRecDepth 100000 in
set_option maxHeartbeats 12800000 in
theorem implValidGlyph_any (a0 : ByteArray) (a1 : Int) (a2 : Int) (a3A : Option Addr) (a3c : Nat) (a3l : List DLoop) (a4A : Option Addr) (a4c : Nat) (a4l : List DPart) (a5A : Option Addr) (a5c : Nat) (a5l : List DAnchor) (a6 : ByteArray) (w : World) (h_a : totGlyph (a0, a1, a2, a3l, a4l, a5l, a6) ≤ 1048576) (r_a3 : Row RvLoop 1 w w.heap.size a3A a3l) (r_a4 : Row RvPart 3 w w.heap.size a4A a4l) (r_a5 : Row RvAnchor 3 w w.heap.size a5A a5l) :
    Calls Try.prog 16 #[.agg #[.string a0, .int .i64 a1, .int .i64 a2, .slice a3A a3l.length a3c, .slice a4A a4l.length a4c, .slice a5A a5l.length a5c, .string a6]] w fun e w' => e = .returned (.bool (vG (a0, a1, a2, a3l, a4l, a5l, a6))) ∧ Below w.heap.size w w' := by
  simp only [totGlyph] at h_a
  have hl_a3 : a3l.length ≤ 1048576 := Nat.le_trans (totRow_len totLoop _) (by omega)
  have hl_a4 : a4l.length ≤ 1048576 := Nat.le_trans (totRow_len totPart _) (by omega)
  have hl_a5 : a5l.length ≤ 1048576 := Nat.le_trans (totRow_len totAnchor _) (by omega)
  have hi_a3 := knots_in' (l := a3l) (n := 1048576) (by omega)
  have hi_a5 : ∀ (i : Nat) (d : DAnchor), a5l[i]? = some d → d.1.size ≤ maxLen := fun i d hd => Nat.le_trans (names_in (l := a5l) (n := 1048576) (by omega) i d hd) (by unfold maxLen; omega)
  have s0 : a0.size ≤ 9223372036854775807 := by omega
  clear h_a
  have CI := Lib.hid (fun w => implIsName_any a0 w s0)
  have CO := Lib.hid (fun w r => implValidOutline_any a3l a3A a3c w hl_a3 hi_a3 r)
  have CP := Lib.hid (fun w r => allParts_any a4l a4A a4c w hl_a4 r)
  have CA := Lib.hid (fun w r => allAnchors_any a5l a5A a5c w hl_a5 r)
  have CN := Lib.hid (fun w r => areNamedAnchor_any a5l a5A a5c w hl_a5 hi_a5 r)
  have hv : vG (a0, a1, a2, a3l, a4l, a5l, a6) = ((nameB a0.data.toList && decide (-1 ≤ a1 ∧ a1 ≤ 65535) && decide (0 ≤ a2 ∧ a2 ≤ 262144)) && (vOl a3l && decide (a4l.length ≤ 6) && decide (a5l.length ≤ 6) && decide (a6.size ≤ 400)) && (a4l.all vPart && (a5l.all vAnc && nmOk (fun a : DAnchor => a.1) a5l)) && decide (a4l.length = 0 ∨ a3l.length = 0)) := rfl
  rw [hv]
  clear hv hi_a3 hi_a5
  generalize nameB a0.data.toList = v1 at CI ⊢
  generalize vOl a3l = v4 at CO ⊢
  generalize a4l.all vPart = v5 at CP ⊢
  generalize a5l.all vAnc = v6 at CA ⊢
  generalize nmOk (fun a : DAnchor => a.1) a5l = v7 at CN ⊢
  obtain ⟨n3, hn3⟩ : ∃ n, n = a3l.length := ⟨_, rfl⟩
  obtain ⟨n4, hn4⟩ : ∃ n, n = a4l.length := ⟨_, rfl⟩
  obtain ⟨n5, hn5⟩ : ∃ n, n = a5l.length := ⟨_, rfl⟩
  rw [← hn3] at hl_a3 CO ⊢
  rw [← hn4] at hl_a4 CP ⊢
  rw [← hn5] at hl_a5 CA CN ⊢
  clear hn3 hn4 hn5
  go_enter Try.func16, Try.ntmps16
  go_wp2_with fail
  refine (CI.out _).mono ?_
  rintro e wI ⟨rfl, rfl⟩
  cases v1
  case false =>
    go_wp2_with fail
    go_ret
    exact ⟨ret_bool (by simp), by repeat' (first | with_reducible assumption | with_reducible exact Below.refl _ _ | (with_reducible refine Below.setCell ?_ ?_ _) | (with_reducible refine Below.alloc ?_ ?_ _) | (with_reducible refine Below.drew ?_) | (with_reducible refine below_dr ?_ _) | (with_reducible refine Below.trans ?_ (Below.mono (by with_reducible assumption) ?_)) | omega | (simp; done) | (simp; omega))⟩
  case true =>
    by_cases h1 : a1 < -1
    case pos =>
      have qh1 : decide (a1 < -1) = true := by simp; omega
      go_wp2_with fail
      go_ret
      exact ⟨ret_bool (by symm; simp; omega), by repeat' (first | with_reducible assumption | with_reducible exact Below.refl _ _ | (with_reducible refine Below.setCell ?_ ?_ _) | (with_reducible refine Below.alloc ?_ ?_ _) | (with_reducible refine Below.drew ?_) | (with_reducible refine below_dr ?_ _) | (with_reducible refine Below.trans ?_ (Below.mono (by with_reducible assumption) ?_)) | omega | (simp; done) | (simp; omega))⟩
    case neg =>
      have qh1 : decide (a1 < -1) = false := by simp; omega
      by_cases h2 : a1 > 65535
      case pos =>
        have qh2 : decide (a1 > 65535) = true := by simp; omega
        go_wp2_with fail
        go_ret
        exact ⟨ret_bool (by symm; simp; omega), by repeat' (first | with_reducible assumption | with_reducible exact Below.refl _ _ | (with_reducible refine Below.setCell ?_ ?_ _) | (with_reducible refine Below.alloc ?_ ?_ _) | (with_reducible refine Below.drew ?_) | (with_reducible refine below_dr ?_ _) | (with_reducible refine Below.trans ?_ (Below.mono (by with_reducible assumption) ?_)) | omega | (simp; done) | (simp; omega))⟩
      case neg =>
        have qh2 : decide (a1 > 65535) = false := by simp; omega
        by_cases h3 : a2 < 0
        case pos =>
          have qh3 : decide (a2 < 0) = true := by simp; omega
          go_wp2_with fail
          go_ret
          exact ⟨ret_bool (by symm; simp; omega), by repeat' (first | with_reducible assumption | with_reducible exact Below.refl _ _ | (with_reducible refine Below.setCell ?_ ?_ _) | (with_reducible refine Below.alloc ?_ ?_ _) | (with_reducible refine Below.drew ?_) | (with_reducible refine below_dr ?_ _) | (with_reducible refine Below.trans ?_ (Below.mono (by with_reducible assumption) ?_)) | omega | (simp; done) | (simp; omega))⟩
        case neg =>
          have qh3 : decide (a2 < 0) = false := by simp; omega
          by_cases h4 : a2 > 262144
          case pos =>
            have qh4 : decide (a2 > 262144) = true := by simp; omega
            go_wp2_with fail
            go_ret
            exact ⟨ret_bool (by symm; simp; omega), by repeat' (first | with_reducible assumption | with_reducible exact Below.refl _ _ | (with_reducible refine Below.setCell ?_ ?_ _) | (with_reducible refine Below.alloc ?_ ?_ _) | (with_reducible refine Below.drew ?_) | (with_reducible refine below_dr ?_ _) | (with_reducible refine Below.trans ?_ (Below.mono (by with_reducible assumption) ?_)) | omega | (simp; done) | (simp; omega))⟩
          case neg =>
            have qh4 : decide (a2 > 262144) = false := by simp; omega
            go_wp2_with fail
            refine (CO.out _ ?_).mono ?_
            · exact (Row.carry (w' := _) r_a3 (by repeat' (first | with_reducible assumption | with_reducible exact Below.refl _ _ | (with_reducible refine Below.setCell ?_ ?_ _) | (with_reducible refine Below.alloc ?_ ?_ _) | (with_reducible refine Below.drew ?_) | (with_reducible refine below_dr ?_ _) | (with_reducible refine Below.trans ?_ (Below.mono (by with_reducible assumption) ?_)) | omega | (simp; done) | (simp; omega))) (Nat.le_refl _)).more (by (try simp only [World.size_setCell]); (try simp only [World.size_drew]); (try simp only [World.size_alloc]); omega)
            rintro e wO ⟨rfl, hbwO⟩
            obtain ⟨hcwO, hfwO⟩ := bcell hbwO
            have hzwO := hbwO.size
            (try simp only [World.size_alloc] at hcwO hfwO hzwO)
            have ywO0 : wO.cell? ⟨w.heap.size, 0, none⟩ = some (.string a0) := (hcwO _ _ (by first | omega | (simp; done) | (simp; omega))).trans (by simp [go_sem])
            have ywO1 : wO.cell? ⟨w.heap.size, 1, none⟩ = some (.int .i64 a1) := (hcwO _ _ (by first | omega | (simp; done) | (simp; omega))).trans (by simp [go_sem])
            have ywO2 : wO.cell? ⟨w.heap.size, 2, none⟩ = some (.int .i64 a2) := (hcwO _ _ (by first | omega | (simp; done) | (simp; omega))).trans (by simp [go_sem])
            have ywO3 : wO.cell? ⟨w.heap.size, 3, none⟩ = some (.slice a3A n3 a3c) := (hcwO _ _ (by first | omega | (simp; done) | (simp; omega))).trans (by simp [go_sem])
            have ywO4 : wO.cell? ⟨w.heap.size, 4, none⟩ = some (.slice a4A n4 a4c) := (hcwO _ _ (by first | omega | (simp; done) | (simp; omega))).trans (by simp [go_sem])
            have ywO5 : wO.cell? ⟨w.heap.size, 5, none⟩ = some (.slice a5A n5 a5c) := (hcwO _ _ (by first | omega | (simp; done) | (simp; omega))).trans (by simp [go_sem])
            have ywO6 : wO.cell? ⟨w.heap.size, 6, none⟩ = some (.string a6) := (hcwO _ _ (by first | omega | (simp; done) | (simp; omega))).trans (by simp [go_sem])
            have qwO : w.heap.size < wO.heap.size := by omega
            clear hcwO hfwO
            cases v4
            case false =>
              go_wp2_with fail
              go_ret
              exact ⟨ret_bool (by simp), by repeat' (first | with_reducible assumption | with_reducible exact Below.refl _ _ | (with_reducible refine Below.setCell ?_ ?_ _) | (with_reducible refine Below.alloc ?_ ?_ _) | (with_reducible refine Below.drew ?_) | (with_reducible refine below_dr ?_ _) | (with_reducible refine Below.trans ?_ (Below.mono (by with_reducible assumption) ?_)) | omega | (simp; done) | (simp; omega))⟩
            case true =>
              by_cases h5 : n4 = 0
              case pos =>
                have q5 : decide ((n4 : Int) > 0) = false := by simp; omega
                have q5' : ¬ (0 : Int) < n4 := by omega
                have HD := Lib.hid (show decide (n4 = 0 ∨ n3 = 0) = true by simp [h5])
                have h6 : n4 ≤ 6 := by omega
                clear h5
                have q6 : decide ((n4 : Int) > 6) = false := by simp; omega
                have q6' : ¬ (6 : Int) < n4 := by omega
                go_wp2_with fail
                refine (CP.out _ ?_).mono ?_
                · exact (Row.carry (w' := _) r_a4 (by repeat' (first | with_reducible assumption | with_reducible exact Below.refl _ _ | (with_reducible refine Below.setCell ?_ ?_ _) | (with_reducible refine Below.alloc ?_ ?_ _) | (with_reducible refine Below.drew ?_) | (with_reducible refine below_dr ?_ _) | (with_reducible refine Below.trans ?_ (Below.mono (by with_reducible assumption) ?_)) | omega | (simp; done) | (simp; omega))) (Nat.le_refl _)).more (by (try simp only [World.size_setCell]); (try simp only [World.size_drew]); (try simp only [World.size_alloc]); omega)
                rintro e wP ⟨rfl, hbwP⟩
                obtain ⟨hcwP, hfwP⟩ := bcell hbwP
                have hzwP := hbwP.size
                (try simp only [World.size_alloc] at hcwP hfwP hzwP)
                have ywP0 : wP.cell? ⟨w.heap.size, 0, none⟩ = some (.string a0) := (hcwP _ _ (by omega)).trans ywO0
                have ywP1 : wP.cell? ⟨w.heap.size, 1, none⟩ = some (.int .i64 a1) := (hcwP _ _ (by omega)).trans ywO1
                have ywP2 : wP.cell? ⟨w.heap.size, 2, none⟩ = some (.int .i64 a2) := (hcwP _ _ (by omega)).trans ywO2
                have ywP3 : wP.cell? ⟨w.heap.size, 3, none⟩ = some (.slice a3A n3 a3c) := (hcwP _ _ (by omega)).trans ywO3
                have ywP4 : wP.cell? ⟨w.heap.size, 4, none⟩ = some (.slice a4A n4 a4c) := (hcwP _ _ (by omega)).trans ywO4
                have ywP5 : wP.cell? ⟨w.heap.size, 5, none⟩ = some (.slice a5A n5 a5c) := (hcwP _ _ (by omega)).trans ywO5
                have ywP6 : wP.cell? ⟨w.heap.size, 6, none⟩ = some (.string a6) := (hcwP _ _ (by omega)).trans ywO6
                have qwP : w.heap.size < wP.heap.size := by omega
                clear hcwP hfwP ywO0 ywO1 ywO2 ywO3 ywO4 ywO5 ywO6
                cases v5
                case false =>
                  go_wp2_with fail
                  go_ret
                  exact ⟨ret_bool (by simp), by repeat' (first | with_reducible assumption | with_reducible exact Below.refl _ _ | (with_reducible refine Below.setCell ?_ ?_ _) | (with_reducible refine Below.alloc ?_ ?_ _) | (with_reducible refine Below.drew ?_) | (with_reducible refine below_dr ?_ _) | (with_reducible refine Below.trans ?_ (Below.mono (by with_reducible assumption) ?_)) | omega | (simp; done) | (simp; omega))⟩
                case true =>
                  by_cases h8 : n5 ≤ 6
                  case neg =>
                    have q8 : decide ((n5 : Int) > 6) = true := by simp; omega
                    have q8' : (6 : Int) < n5 := by omega
                    go_wp2_with fail
                    go_ret
                    exact ⟨ret_bool (by first | (simp [h8]; done) | (simp; omega)), by repeat' (first | with_reducible assumption | with_reducible exact Below.refl _ _ | (with_reducible refine Below.setCell ?_ ?_ _) | (with_reducible refine Below.alloc ?_ ?_ _) | (with_reducible refine Below.drew ?_) | (with_reducible refine below_dr ?_ _) | (with_reducible refine Below.trans ?_ (Below.mono (by with_reducible assumption) ?_)) | omega | (simp; done) | (simp; omega))⟩
                  case pos =>
                    have q8 : decide ((n5 : Int) > 6) = false := by simp; omega
                    have q8' : ¬ (6 : Int) < n5 := by omega
                    go_wp2_with fail
                    refine (CA.out _ ?_).mono ?_
                    · exact (Row.carry (w' := _) r_a5 (by repeat' (first | with_reducible assumption | with_reducible exact Below.refl _ _ | (with_reducible refine Below.setCell ?_ ?_ _) | (with_reducible refine Below.alloc ?_ ?_ _) | (with_reducible refine Below.drew ?_) | (with_reducible refine below_dr ?_ _) | (with_reducible refine Below.trans ?_ (Below.mono (by with_reducible assumption) ?_)) | omega | (simp; done) | (simp; omega))) (Nat.le_refl _)).more (by (try simp only [World.size_setCell]); (try simp only [World.size_drew]); (try simp only [World.size_alloc]); omega)
                    rintro e wA ⟨rfl, hbwA⟩
                    obtain ⟨hcwA, hfwA⟩ := bcell hbwA
                    have hzwA := hbwA.size
                    (try simp only [World.size_alloc] at hcwA hfwA hzwA)
                    have ywA0 : wA.cell? ⟨w.heap.size, 0, none⟩ = some (.string a0) := (hcwA _ _ (by omega)).trans ywP0
                    have ywA1 : wA.cell? ⟨w.heap.size, 1, none⟩ = some (.int .i64 a1) := (hcwA _ _ (by omega)).trans ywP1
                    have ywA2 : wA.cell? ⟨w.heap.size, 2, none⟩ = some (.int .i64 a2) := (hcwA _ _ (by omega)).trans ywP2
                    have ywA3 : wA.cell? ⟨w.heap.size, 3, none⟩ = some (.slice a3A n3 a3c) := (hcwA _ _ (by omega)).trans ywP3
                    have ywA4 : wA.cell? ⟨w.heap.size, 4, none⟩ = some (.slice a4A n4 a4c) := (hcwA _ _ (by omega)).trans ywP4
                    have ywA5 : wA.cell? ⟨w.heap.size, 5, none⟩ = some (.slice a5A n5 a5c) := (hcwA _ _ (by omega)).trans ywP5
                    have ywA6 : wA.cell? ⟨w.heap.size, 6, none⟩ = some (.string a6) := (hcwA _ _ (by omega)).trans ywP6
                    have qwA : w.heap.size < wA.heap.size := by omega
                    clear hcwA hfwA ywP0 ywP1 ywP2 ywP3 ywP4 ywP5 ywP6
                    cases v6
                    case false =>
                      go_wp2_with fail
                      go_ret
                      exact ⟨ret_bool (by simp), by repeat' (first | with_reducible assumption | with_reducible exact Below.refl _ _ | (with_reducible refine Below.setCell ?_ ?_ _) | (with_reducible refine Below.alloc ?_ ?_ _) | (with_reducible refine Below.drew ?_) | (with_reducible refine below_dr ?_ _) | (with_reducible refine Below.trans ?_ (Below.mono (by with_reducible assumption) ?_)) | omega | (simp; done) | (simp; omega))⟩
                    case true =>
                      go_wp2_with fail
                      refine (CN.out _ ?_).mono ?_
                      · exact (Row.carry (w' := _) r_a5 (by repeat' (first | with_reducible assumption | with_reducible exact Below.refl _ _ | (with_reducible refine Below.setCell ?_ ?_ _) | (with_reducible refine Below.alloc ?_ ?_ _) | (with_reducible refine Below.drew ?_) | (with_reducible refine below_dr ?_ _) | (with_reducible refine Below.trans ?_ (Below.mono (by with_reducible assumption) ?_)) | omega | (simp; done) | (simp; omega))) (Nat.le_refl _)).more (by (try simp only [World.size_setCell]); (try simp only [World.size_drew]); (try simp only [World.size_alloc]); omega)
                      rintro e wN ⟨rfl, hbwN⟩
                      obtain ⟨hcwN, hfwN⟩ := bcell hbwN
                      have hzwN := hbwN.size
                      (try simp only [World.size_alloc] at hcwN hfwN hzwN)
                      have ywN0 : wN.cell? ⟨w.heap.size, 0, none⟩ = some (.string a0) := (hcwN _ _ (by omega)).trans ywA0
                      have ywN1 : wN.cell? ⟨w.heap.size, 1, none⟩ = some (.int .i64 a1) := (hcwN _ _ (by omega)).trans ywA1
                      have ywN2 : wN.cell? ⟨w.heap.size, 2, none⟩ = some (.int .i64 a2) := (hcwN _ _ (by omega)).trans ywA2
                      have ywN3 : wN.cell? ⟨w.heap.size, 3, none⟩ = some (.slice a3A n3 a3c) := (hcwN _ _ (by omega)).trans ywA3
                      have ywN4 : wN.cell? ⟨w.heap.size, 4, none⟩ = some (.slice a4A n4 a4c) := (hcwN _ _ (by omega)).trans ywA4
                      have ywN5 : wN.cell? ⟨w.heap.size, 5, none⟩ = some (.slice a5A n5 a5c) := (hcwN _ _ (by omega)).trans ywA5
                      have ywN6 : wN.cell? ⟨w.heap.size, 6, none⟩ = some (.string a6) := (hcwN _ _ (by omega)).trans ywA6
                      have qwN : w.heap.size < wN.heap.size := by omega
                      clear hcwN hfwN ywA0 ywA1 ywA2 ywA3 ywA4 ywA5 ywA6
                      cases v7
                      case false =>
                        go_wp2_with fail
                        go_ret
                        exact ⟨ret_bool (by simp), by repeat' (first | with_reducible assumption | with_reducible exact Below.refl _ _ | (with_reducible refine Below.setCell ?_ ?_ _) | (with_reducible refine Below.alloc ?_ ?_ _) | (with_reducible refine Below.drew ?_) | (with_reducible refine below_dr ?_ _) | (with_reducible refine Below.trans ?_ (Below.mono (by with_reducible assumption) ?_)) | omega | (simp; done) | (simp; omega))⟩
                      case true =>
                        by_cases h10 : a6.size ≤ 400
                        case pos =>
                          have qh10 : decide ((a6.size : Int) ≤ 400) = true := by simp; omega
                          go_wp2_with fail
                          go_ret
                          exact ⟨ret_bool (by rw [HD.out]; symm; simp; omega), by repeat' (first | with_reducible assumption | with_reducible exact Below.refl _ _ | (with_reducible refine Below.setCell ?_ ?_ _) | (with_reducible refine Below.alloc ?_ ?_ _) | (with_reducible refine Below.drew ?_) | (with_reducible refine below_dr ?_ _) | (with_reducible refine Below.trans ?_ (Below.mono (by with_reducible assumption) ?_)) | omega | (simp; done) | (simp; omega))⟩
                        case neg =>
                          have qh10 : decide ((a6.size : Int) ≤ 400) = false := by simp; omega
                          go_wp2_with fail
                          go_ret
                          exact ⟨ret_bool (by first | (simp [h10]; done) | (simp; omega)), by repeat' (first | with_reducible assumption | with_reducible exact Below.refl _ _ | (with_reducible refine Below.setCell ?_ ?_ _) | (with_reducible refine Below.alloc ?_ ?_ _) | (with_reducible refine Below.drew ?_) | (with_reducible refine below_dr ?_ _) | (with_reducible refine Below.trans ?_ (Below.mono (by with_reducible assumption) ?_)) | omega | (simp; done) | (simp; omega))⟩
              case neg =>
                have q5 : decide ((n4 : Int) > 0) = true := by simp; omega
                have q5' : (0 : Int) < n4 := by omega
                by_cases h7 : n3 = 0
                case pos =>
                  have q7 : decide ((n3 : Int) > 0) = false := by simp; omega
                  have q7' : ¬ (0 : Int) < n3 := by omega
                  have HD := Lib.hid (show decide (n4 = 0 ∨ n3 = 0) = true by simp [h7])
                  clear h7 h5
                  by_cases h6 : n4 ≤ 6
                  case neg =>
                    have q6 : decide ((n4 : Int) > 6) = true := by simp; omega
                    have q6' : (6 : Int) < n4 := by omega
                    go_wp2_with fail
                    go_ret
                    exact ⟨ret_bool (by first | (simp [h6]; done) | (simp; omega)), by repeat' (first | with_reducible assumption | with_reducible exact Below.refl _ _ | (with_reducible refine Below.setCell ?_ ?_ _) | (with_reducible refine Below.alloc ?_ ?_ _) | (with_reducible refine Below.drew ?_) | (with_reducible refine below_dr ?_ _) | (with_reducible refine Below.trans ?_ (Below.mono (by with_reducible assumption) ?_)) | omega | (simp; done) | (simp; omega))⟩
                  case pos =>
                    have q6 : decide ((n4 : Int) > 6) = false := by simp; omega
                    have q6' : ¬ (6 : Int) < n4 := by omega
                    go_wp2_with fail
                    refine (CP.out _ ?_).mono ?_
                    · exact (Row.carry (w' := _) r_a4 (by repeat' (first | with_reducible assumption | with_reducible exact Below.refl _ _ | (with_reducible refine Below.setCell ?_ ?_ _) | (with_reducible refine Below.alloc ?_ ?_ _) | (with_reducible refine Below.drew ?_) | (with_reducible refine below_dr ?_ _) | (with_reducible refine Below.trans ?_ (Below.mono (by with_reducible assumption) ?_)) | omega | (simp; done) | (simp; omega))) (Nat.le_refl _)).more (by (try simp only [World.size_setCell]); (try simp only [World.size_drew]); (try simp only [World.size_alloc]); omega)
                    rintro e wP ⟨rfl, hbwP⟩
                    obtain ⟨hcwP, hfwP⟩ := bcell hbwP
                    have hzwP := hbwP.size
                    (try simp only [World.size_alloc] at hcwP hfwP hzwP)
                    have ywP0 : wP.cell? ⟨w.heap.size, 0, none⟩ = some (.string a0) := (hcwP _ _ (by omega)).trans ywO0
                    have ywP1 : wP.cell? ⟨w.heap.size, 1, none⟩ = some (.int .i64 a1) := (hcwP _ _ (by omega)).trans ywO1
                    have ywP2 : wP.cell? ⟨w.heap.size, 2, none⟩ = some (.int .i64 a2) := (hcwP _ _ (by omega)).trans ywO2
                    have ywP3 : wP.cell? ⟨w.heap.size, 3, none⟩ = some (.slice a3A n3 a3c) := (hcwP _ _ (by omega)).trans ywO3
                    have ywP4 : wP.cell? ⟨w.heap.size, 4, none⟩ = some (.slice a4A n4 a4c) := (hcwP _ _ (by omega)).trans ywO4
                    have ywP5 : wP.cell? ⟨w.heap.size, 5, none⟩ = some (.slice a5A n5 a5c) := (hcwP _ _ (by omega)).trans ywO5
                    have ywP6 : wP.cell? ⟨w.heap.size, 6, none⟩ = some (.string a6) := (hcwP _ _ (by omega)).trans ywO6
                    have qwP : w.heap.size < wP.heap.size := by omega
                    clear hcwP hfwP ywO0 ywO1 ywO2 ywO3 ywO4 ywO5 ywO6
                    cases v5
                    case false =>
                      go_wp2_with fail
                      go_ret
                      exact ⟨ret_bool (by simp), by repeat' (first | with_reducible assumption | with_reducible exact Below.refl _ _ | (with_reducible refine Below.setCell ?_ ?_ _) | (with_reducible refine Below.alloc ?_ ?_ _) | (with_reducible refine Below.drew ?_) | (with_reducible refine below_dr ?_ _) | (with_reducible refine Below.trans ?_ (Below.mono (by with_reducible assumption) ?_)) | omega | (simp; done) | (simp; omega))⟩
                    case true =>
                      by_cases h8 : n5 ≤ 6
                      case neg =>
                        have q8 : decide ((n5 : Int) > 6) = true := by simp; omega
                        have q8' : (6 : Int) < n5 := by omega
                        go_wp2_with fail
                        go_ret
                        exact ⟨ret_bool (by first | (simp [h8]; done) | (simp; omega)), by repeat' (first | with_reducible assumption | with_reducible exact Below.refl _ _ | (with_reducible refine Below.setCell ?_ ?_ _) | (with_reducible refine Below.alloc ?_ ?_ _) | (with_reducible refine Below.drew ?_) | (with_reducible refine below_dr ?_ _) | (with_reducible refine Below.trans ?_ (Below.mono (by with_reducible assumption) ?_)) | omega | (simp; done) | (simp; omega))⟩
                      case pos =>
                        have q8 : decide ((n5 : Int) > 6) = false := by simp; omega
                        have q8' : ¬ (6 : Int) < n5 := by omega
                        go_wp2_with fail
                        refine (CA.out _ ?_).mono ?_
                        · exact (Row.carry (w' := _) r_a5 (by repeat' (first | with_reducible assumption | with_reducible exact Below.refl _ _ | (with_reducible refine Below.setCell ?_ ?_ _) | (with_reducible refine Below.alloc ?_ ?_ _) | (with_reducible refine Below.drew ?_) | (with_reducible refine below_dr ?_ _) | (with_reducible refine Below.trans ?_ (Below.mono (by with_reducible assumption) ?_)) | omega | (simp; done) | (simp; omega))) (Nat.le_refl _)).more (by (try simp only [World.size_setCell]); (try simp only [World.size_drew]); (try simp only [World.size_alloc]); omega)
                        rintro e wA ⟨rfl, hbwA⟩
                        obtain ⟨hcwA, hfwA⟩ := bcell hbwA
                        have hzwA := hbwA.size
                        (try simp only [World.size_alloc] at hcwA hfwA hzwA)
                        have ywA0 : wA.cell? ⟨w.heap.size, 0, none⟩ = some (.string a0) := (hcwA _ _ (by omega)).trans ywP0
                        have ywA1 : wA.cell? ⟨w.heap.size, 1, none⟩ = some (.int .i64 a1) := (hcwA _ _ (by omega)).trans ywP1
                        have ywA2 : wA.cell? ⟨w.heap.size, 2, none⟩ = some (.int .i64 a2) := (hcwA _ _ (by omega)).trans ywP2
                        have ywA3 : wA.cell? ⟨w.heap.size, 3, none⟩ = some (.slice a3A n3 a3c) := (hcwA _ _ (by omega)).trans ywP3
                        have ywA4 : wA.cell? ⟨w.heap.size, 4, none⟩ = some (.slice a4A n4 a4c) := (hcwA _ _ (by omega)).trans ywP4
                        have ywA5 : wA.cell? ⟨w.heap.size, 5, none⟩ = some (.slice a5A n5 a5c) := (hcwA _ _ (by omega)).trans ywP5
                        have ywA6 : wA.cell? ⟨w.heap.size, 6, none⟩ = some (.string a6) := (hcwA _ _ (by omega)).trans ywP6
                        have qwA : w.heap.size < wA.heap.size := by omega
                        clear hcwA hfwA ywP0 ywP1 ywP2 ywP3 ywP4 ywP5 ywP6
                        cases v6
                        case false =>
                          go_wp2_with fail
                          go_ret
                          exact ⟨ret_bool (by simp), by repeat' (first | with_reducible assumption | with_reducible exact Below.refl _ _ | (with_reducible refine Below.setCell ?_ ?_ _) | (with_reducible refine Below.alloc ?_ ?_ _) | (with_reducible refine Below.drew ?_) | (with_reducible refine below_dr ?_ _) | (with_reducible refine Below.trans ?_ (Below.mono (by with_reducible assumption) ?_)) | omega | (simp; done) | (simp; omega))⟩
                        case true =>
                          go_wp2_with fail
                          refine (CN.out _ ?_).mono ?_
                          · exact (Row.carry (w' := _) r_a5 (by repeat' (first | with_reducible assumption | with_reducible exact Below.refl _ _ | (with_reducible refine Below.setCell ?_ ?_ _) | (with_reducible refine Below.alloc ?_ ?_ _) | (with_reducible refine Below.drew ?_) | (with_reducible refine below_dr ?_ _) | (with_reducible refine Below.trans ?_ (Below.mono (by with_reducible assumption) ?_)) | omega | (simp; done) | (simp; omega))) (Nat.le_refl _)).more (by (try simp only [World.size_setCell]); (try simp only [World.size_drew]); (try simp only [World.size_alloc]); omega)
                          rintro e wN ⟨rfl, hbwN⟩
                          obtain ⟨hcwN, hfwN⟩ := bcell hbwN
                          have hzwN := hbwN.size
                          (try simp only [World.size_alloc] at hcwN hfwN hzwN)
                          have ywN0 : wN.cell? ⟨w.heap.size, 0, none⟩ = some (.string a0) := (hcwN _ _ (by omega)).trans ywA0
                          have ywN1 : wN.cell? ⟨w.heap.size, 1, none⟩ = some (.int .i64 a1) := (hcwN _ _ (by omega)).trans ywA1
                          have ywN2 : wN.cell? ⟨w.heap.size, 2, none⟩ = some (.int .i64 a2) := (hcwN _ _ (by omega)).trans ywA2
                          have ywN3 : wN.cell? ⟨w.heap.size, 3, none⟩ = some (.slice a3A n3 a3c) := (hcwN _ _ (by omega)).trans ywA3
                          have ywN4 : wN.cell? ⟨w.heap.size, 4, none⟩ = some (.slice a4A n4 a4c) := (hcwN _ _ (by omega)).trans ywA4
                          have ywN5 : wN.cell? ⟨w.heap.size, 5, none⟩ = some (.slice a5A n5 a5c) := (hcwN _ _ (by omega)).trans ywA5
                          have ywN6 : wN.cell? ⟨w.heap.size, 6, none⟩ = some (.string a6) := (hcwN _ _ (by omega)).trans ywA6
                          have qwN : w.heap.size < wN.heap.size := by omega
                          clear hcwN hfwN ywA0 ywA1 ywA2 ywA3 ywA4 ywA5 ywA6
                          cases v7
                          case false =>
                            go_wp2_with fail
                            go_ret
                            exact ⟨ret_bool (by simp), by repeat' (first | with_reducible assumption | with_reducible exact Below.refl _ _ | (with_reducible refine Below.setCell ?_ ?_ _) | (with_reducible refine Below.alloc ?_ ?_ _) | (with_reducible refine Below.drew ?_) | (with_reducible refine below_dr ?_ _) | (with_reducible refine Below.trans ?_ (Below.mono (by with_reducible assumption) ?_)) | omega | (simp; done) | (simp; omega))⟩
                          case true =>
                            by_cases h10 : a6.size ≤ 400
                            case pos =>
                              have qh10 : decide ((a6.size : Int) ≤ 400) = true := by simp; omega
                              go_wp2_with fail
                              go_ret
                              exact ⟨ret_bool (by rw [HD.out]; symm; simp; omega), by repeat' (first | with_reducible assumption | with_reducible exact Below.refl _ _ | (with_reducible refine Below.setCell ?_ ?_ _) | (with_reducible refine Below.alloc ?_ ?_ _) | (with_reducible refine Below.drew ?_) | (with_reducible refine below_dr ?_ _) | (with_reducible refine Below.trans ?_ (Below.mono (by with_reducible assumption) ?_)) | omega | (simp; done) | (simp; omega))⟩
                            case neg =>
                              have qh10 : decide ((a6.size : Int) ≤ 400) = false := by simp; omega
                              go_wp2_with fail
                              go_ret
                              exact ⟨ret_bool (by first | (simp [h10]; done) | (simp; omega)), by repeat' (first | with_reducible assumption | with_reducible exact Below.refl _ _ | (with_reducible refine Below.setCell ?_ ?_ _) | (with_reducible refine Below.alloc ?_ ?_ _) | (with_reducible refine Below.drew ?_) | (with_reducible refine below_dr ?_ _) | (with_reducible refine Below.trans ?_ (Below.mono (by with_reducible assumption) ?_)) | omega | (simp; done) | (simp; omega))⟩
                case neg =>
                  have q7 : decide ((n3 : Int) > 0) = true := by simp; omega
                  have q7' : (0 : Int) < n3 := by omega
                  go_wp2_with fail
                  go_ret
                  exact ⟨ret_bool (by simp [h5, h7]), by repeat' (first | with_reducible assumption | with_reducible exact Below.refl _ _ | (with_reducible refine Below.setCell ?_ ?_ _) | (with_reducible refine Below.alloc ?_ ?_ _) | (with_reducible refine Below.drew ?_) | (with_reducible refine below_dr ?_ _) | (with_reducible refine Below.trans ?_ (Below.mono (by with_reducible assumption) ?_)) | omega | (simp; done) | (simp; omega))⟩
end Go.Proofs.Ytelefmogmloniaa
