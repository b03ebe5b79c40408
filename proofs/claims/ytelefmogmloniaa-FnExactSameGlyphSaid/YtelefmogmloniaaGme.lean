/- Walks: glyphs that are the same, on the program's side. -/
import Derived.Test.YtelefmogmloniaaGmb
import Derived.Test.YtelefmogmloniaaGmd
import Derived.Test.YtelefmogmloniaaPa
namespace Go.Proofs.Ytelefmogmloniaa
open Go.RowKit
set_option linter.unusedVariables false
theorem knots_in {l : List DLoop} {n : Nat} (h : totRow totLoop l ≤ n) (i : Nat) (d : DLoop) (hd : l[i]? = some d) : d.length ≤ n := by
  have h1 := totRow_at (f := totLoop) hd
  have h2 : d.length ≤ totLoop d := totRow_len totKnot d
  omega
def smG : DGlyph → DGlyph → Bool := fun ⟨a0, a1, a2, a3l, a4l, a5l, a6⟩ ⟨b0, b1, b2, b3l, b4l, b5l, b6⟩ => decide (a0.toList = b0.toList) && (decide (a1 = b1) && (decide (a2 = b2) && (oEq a3l b3l && (eqG kKPart a4l b4l && (eqG kKAnchor a5l b5l && (decide (a6.toList = b6.toList)))))))
set_option maxRecDepth 100000 in
set_option maxHeartbeats 12800000 in
theorem implSameGlyph_any (a0 : ByteArray) (a1 : Int) (a2 : Int) (a3A : Option Addr) (a3c : Nat) (a3l : List DLoop) (a4A : Option Addr) (a4c : Nat) (a4l : List DPart) (a5A : Option Addr) (a5c : Nat) (a5l : List DAnchor) (a6 : ByteArray) (b0 : ByteArray) (b1 : Int) (b2 : Int) (b3A : Option Addr) (b3c : Nat) (b3l : List DLoop) (b4A : Option Addr) (b4c : Nat) (b4l : List DPart) (b5A : Option Addr) (b5c : Nat) (b5l : List DAnchor) (b6 : ByteArray) (w : World) (h_a : totGlyph (a0, a1, a2, a3l, a4l, a5l, a6) ≤ 1048576) (h_b : totGlyph (b0, b1, b2, b3l, b4l, b5l, b6) ≤ 1048576) (r_a3 : Row RvLoop 1 w w.heap.size a3A a3l) (r_a4 : Row RvPart 3 w w.heap.size a4A a4l) (r_a5 : Row RvAnchor 3 w w.heap.size a5A a5l) (r_b3 : Row RvLoop 1 w w.heap.size b3A b3l) (r_b4 : Row RvPart 3 w w.heap.size b4A b4l) (r_b5 : Row RvAnchor 3 w w.heap.size b5A b5l) :
    Calls Try.prog 19 #[.agg #[.string a0, .int .i64 a1, .int .i64 a2, .slice a3A a3l.length a3c, .slice a4A a4l.length a4c, .slice a5A a5l.length a5c, .string a6], .agg #[.string b0, .int .i64 b1, .int .i64 b2, .slice b3A b3l.length b3c, .slice b4A b4l.length b4c, .slice b5A b5l.length b5c, .string b6]] w fun e w' => e = .returned (.bool (smG (a0, a1, a2, a3l, a4l, a5l, a6) (b0, b1, b2, b3l, b4l, b5l, b6))) ∧ Below w.heap.size w w' := by
  simp only [totGlyph] at h_a h_b
  have hl_a3 : a3l.length ≤ 1048576 := Nat.le_trans (totRow_len totLoop _) (by omega)
  have hl_a4 : a4l.length ≤ 1048576 := Nat.le_trans (totRow_len totPart _) (by omega)
  have hl_a5 : a5l.length ≤ 1048576 := Nat.le_trans (totRow_len totAnchor _) (by omega)
  have hi_a3 := knots_in (l := a3l) (n := 1048576) (by omega)
  have hl_b3 : b3l.length ≤ 1048576 := Nat.le_trans (totRow_len totLoop _) (by omega)
  have hl_b4 : b4l.length ≤ 1048576 := Nat.le_trans (totRow_len totPart _) (by omega)
  have hl_b5 : b5l.length ≤ 1048576 := Nat.le_trans (totRow_len totAnchor _) (by omega)
  have hi_b3 := knots_in (l := b3l) (n := 1048576) (by omega)
  clear h_a h_b
  have C4 := Lib.hid (fun w r r' => implSameOutline_any a3l b3l a3A b3A a3c b3c w hl_a3 hl_b3 hi_a3 hi_b3 r r')
  have C5 := Lib.hid (fun w r r' => slPart_any_b a4l b4l a4A b4A a4c b4c w hl_a4 hl_b4 r r')
  have C6 := Lib.hid (fun w r r' => slAnchor_any_b a5l b5l a5A b5A a5c b5c w hl_a5 hl_b5 r r')
  have hv : smG (a0, a1, a2, a3l, a4l, a5l, a6) (b0, b1, b2, b3l, b4l, b5l, b6) = (decide (a0.toList = b0.toList) && (decide (a1 = b1) && (decide (a2 = b2) && (oEq a3l b3l && (eqG kKPart a4l b4l && (eqG kKAnchor a5l b5l && (decide (a6.toList = b6.toList)))))))) := rfl
  rw [hv]; clear hv
  generalize oEq a3l b3l = v4 at C4 ⊢
  generalize eqG kKPart a4l b4l = v5 at C5 ⊢
  generalize eqG kKAnchor a5l b5l = v6 at C6 ⊢
  have F1 := beq_dec a0.toList b0.toList
  generalize decide (a0.toList = b0.toList) = v1 at F1 ⊢
  have F2 := beq_dec a1 b1
  generalize decide (a1 = b1) = v2 at F2 ⊢
  have F3 := beq_dec a2 b2
  generalize decide (a2 = b2) = v3 at F3 ⊢
  have F7 := beq_dec a6.toList b6.toList
  generalize decide (a6.toList = b6.toList) = v7 at F7 ⊢
  cases v1
  case false =>
    go_enter Try.func19, Try.ntmps19
    go_wp2_with fail
    go_ret
    exact ⟨rfl, by repeat' (first | with_reducible assumption | with_reducible exact Below.refl _ _ | (with_reducible refine Below.setCell ?_ ?_ _) | (with_reducible refine Below.alloc ?_ ?_ _) | (with_reducible refine Below.drew ?_) | (with_reducible refine below_dr ?_ _) | (with_reducible refine Below.trans ?_ (Below.mono (by with_reducible assumption) ?_)) | omega | (simp; done) | (simp; omega))⟩
  case true =>
    cases v2
    case false =>
      go_enter Try.func19, Try.ntmps19
      go_wp2_with fail
      go_ret
      exact ⟨rfl, by repeat' (first | with_reducible assumption | with_reducible exact Below.refl _ _ | (with_reducible refine Below.setCell ?_ ?_ _) | (with_reducible refine Below.alloc ?_ ?_ _) | (with_reducible refine Below.drew ?_) | (with_reducible refine below_dr ?_ _) | (with_reducible refine Below.trans ?_ (Below.mono (by with_reducible assumption) ?_)) | omega | (simp; done) | (simp; omega))⟩
    case true =>
      cases v3
      case false =>
        go_enter Try.func19, Try.ntmps19
        go_wp2_with fail
        go_ret
        exact ⟨rfl, by repeat' (first | with_reducible assumption | with_reducible exact Below.refl _ _ | (with_reducible refine Below.setCell ?_ ?_ _) | (with_reducible refine Below.alloc ?_ ?_ _) | (with_reducible refine Below.drew ?_) | (with_reducible refine below_dr ?_ _) | (with_reducible refine Below.trans ?_ (Below.mono (by with_reducible assumption) ?_)) | omega | (simp; done) | (simp; omega))⟩
      case true =>
        go_enter Try.func19, Try.ntmps19
        go_wp2_with fail
        refine (C4.out _ ?_ ?_).mono ?_
        · exact (Row.carry (w' := _) r_a3 (by repeat' (first | with_reducible assumption | with_reducible exact Below.refl _ _ | (with_reducible refine Below.setCell ?_ ?_ _) | (with_reducible refine Below.alloc ?_ ?_ _) | (with_reducible refine Below.drew ?_) | (with_reducible refine below_dr ?_ _) | (with_reducible refine Below.trans ?_ (Below.mono (by with_reducible assumption) ?_)) | omega | (simp; done) | (simp; omega))) (Nat.le_refl _)).more (by (try simp only [World.size_setCell]); (try simp only [World.size_drew]); (try simp only [World.size_alloc]); omega)
        · exact (Row.carry (w' := _) r_b3 (by repeat' (first | with_reducible assumption | with_reducible exact Below.refl _ _ | (with_reducible refine Below.setCell ?_ ?_ _) | (with_reducible refine Below.alloc ?_ ?_ _) | (with_reducible refine Below.drew ?_) | (with_reducible refine below_dr ?_ _) | (with_reducible refine Below.trans ?_ (Below.mono (by with_reducible assumption) ?_)) | omega | (simp; done) | (simp; omega))) (Nat.le_refl _)).more (by (try simp only [World.size_setCell]); (try simp only [World.size_drew]); (try simp only [World.size_alloc]); omega)
        rintro e wZ0 ⟨rfl, hbwZ0⟩
        obtain ⟨hcwZ0, hfwZ0⟩ := bcell hbwZ0
        have hzwZ0 := hbwZ0.size
        (try simp only [World.size_setCell] at hcwZ0 hfwZ0 hzwZ0)
        (try simp only [World.size_drew] at hcwZ0 hfwZ0 hzwZ0)
        (try simp only [World.size_alloc] at hcwZ0 hfwZ0 hzwZ0)
        have qwZ00 : w.heap.size < wZ0.heap.size := by omega
        have qwZ01 : w.heap.size + 1 < wZ0.heap.size := by omega
        cases v4
        case false =>
          go_wp2_with fail
          go_ret
          exact ⟨rfl, by repeat' (first | with_reducible assumption | with_reducible exact Below.refl _ _ | (with_reducible refine Below.setCell ?_ ?_ _) | (with_reducible refine Below.alloc ?_ ?_ _) | (with_reducible refine Below.drew ?_) | (with_reducible refine below_dr ?_ _) | (with_reducible refine Below.trans ?_ (Below.mono (by with_reducible assumption) ?_)) | omega | (simp; done) | (simp; omega))⟩
        case true =>
          go_wp2_with fail
          refine (C5.out _ ?_ ?_).mono ?_
          · exact (Row.carry (w' := _) r_a4 (by repeat' (first | with_reducible assumption | with_reducible exact Below.refl _ _ | (with_reducible refine Below.setCell ?_ ?_ _) | (with_reducible refine Below.alloc ?_ ?_ _) | (with_reducible refine Below.drew ?_) | (with_reducible refine below_dr ?_ _) | (with_reducible refine Below.trans ?_ (Below.mono (by with_reducible assumption) ?_)) | omega | (simp; done) | (simp; omega))) (Nat.le_refl _)).more (by (try simp only [World.size_setCell]); (try simp only [World.size_drew]); (try simp only [World.size_alloc]); omega)
          · exact (Row.carry (w' := _) r_b4 (by repeat' (first | with_reducible assumption | with_reducible exact Below.refl _ _ | (with_reducible refine Below.setCell ?_ ?_ _) | (with_reducible refine Below.alloc ?_ ?_ _) | (with_reducible refine Below.drew ?_) | (with_reducible refine below_dr ?_ _) | (with_reducible refine Below.trans ?_ (Below.mono (by with_reducible assumption) ?_)) | omega | (simp; done) | (simp; omega))) (Nat.le_refl _)).more (by (try simp only [World.size_setCell]); (try simp only [World.size_drew]); (try simp only [World.size_alloc]); omega)
          rintro e wZ1 ⟨rfl, hbwZ1⟩
          obtain ⟨hcwZ1, hfwZ1⟩ := bcell hbwZ1
          have hzwZ1 := hbwZ1.size
          (try simp only [World.size_setCell] at hcwZ1 hfwZ1 hzwZ1)
          (try simp only [World.size_drew] at hcwZ1 hfwZ1 hzwZ1)
          (try simp only [World.size_alloc] at hcwZ1 hfwZ1 hzwZ1)
          have qwZ10 : w.heap.size < wZ1.heap.size := by omega
          have qwZ11 : w.heap.size + 1 < wZ1.heap.size := by omega
          cases v5
          case false =>
            go_wp2_with fail
            go_ret
            exact ⟨rfl, by repeat' (first | with_reducible assumption | with_reducible exact Below.refl _ _ | (with_reducible refine Below.setCell ?_ ?_ _) | (with_reducible refine Below.alloc ?_ ?_ _) | (with_reducible refine Below.drew ?_) | (with_reducible refine below_dr ?_ _) | (with_reducible refine Below.trans ?_ (Below.mono (by with_reducible assumption) ?_)) | omega | (simp; done) | (simp; omega))⟩
          case true =>
            go_wp2_with fail
            refine (C6.out _ ?_ ?_).mono ?_
            · exact (Row.carry (w' := _) r_a5 (by repeat' (first | with_reducible assumption | with_reducible exact Below.refl _ _ | (with_reducible refine Below.setCell ?_ ?_ _) | (with_reducible refine Below.alloc ?_ ?_ _) | (with_reducible refine Below.drew ?_) | (with_reducible refine below_dr ?_ _) | (with_reducible refine Below.trans ?_ (Below.mono (by with_reducible assumption) ?_)) | omega | (simp; done) | (simp; omega))) (Nat.le_refl _)).more (by (try simp only [World.size_setCell]); (try simp only [World.size_drew]); (try simp only [World.size_alloc]); omega)
            · exact (Row.carry (w' := _) r_b5 (by repeat' (first | with_reducible assumption | with_reducible exact Below.refl _ _ | (with_reducible refine Below.setCell ?_ ?_ _) | (with_reducible refine Below.alloc ?_ ?_ _) | (with_reducible refine Below.drew ?_) | (with_reducible refine below_dr ?_ _) | (with_reducible refine Below.trans ?_ (Below.mono (by with_reducible assumption) ?_)) | omega | (simp; done) | (simp; omega))) (Nat.le_refl _)).more (by (try simp only [World.size_setCell]); (try simp only [World.size_drew]); (try simp only [World.size_alloc]); omega)
            rintro e wZ2 ⟨rfl, hbwZ2⟩
            obtain ⟨hcwZ2, hfwZ2⟩ := bcell hbwZ2
            have hzwZ2 := hbwZ2.size
            (try simp only [World.size_setCell] at hcwZ2 hfwZ2 hzwZ2)
            (try simp only [World.size_drew] at hcwZ2 hfwZ2 hzwZ2)
            (try simp only [World.size_alloc] at hcwZ2 hfwZ2 hzwZ2)
            have qwZ20 : w.heap.size < wZ2.heap.size := by omega
            have qwZ21 : w.heap.size + 1 < wZ2.heap.size := by omega
            cases v6
            case false =>
              go_wp2_with fail
              go_ret
              exact ⟨rfl, by repeat' (first | with_reducible assumption | with_reducible exact Below.refl _ _ | (with_reducible refine Below.setCell ?_ ?_ _) | (with_reducible refine Below.alloc ?_ ?_ _) | (with_reducible refine Below.drew ?_) | (with_reducible refine below_dr ?_ _) | (with_reducible refine Below.trans ?_ (Below.mono (by with_reducible assumption) ?_)) | omega | (simp; done) | (simp; omega))⟩
            case true =>
              cases v7
              case false =>
                go_wp2_with fail
                go_ret
                exact ⟨rfl, by repeat' (first | with_reducible assumption | with_reducible exact Below.refl _ _ | (with_reducible refine Below.setCell ?_ ?_ _) | (with_reducible refine Below.alloc ?_ ?_ _) | (with_reducible refine Below.drew ?_) | (with_reducible refine below_dr ?_ _) | (with_reducible refine Below.trans ?_ (Below.mono (by with_reducible assumption) ?_)) | omega | (simp; done) | (simp; omega))⟩
              case true =>
                go_wp2_with fail
                go_ret
                exact ⟨rfl, by repeat' (first | with_reducible assumption | with_reducible exact Below.refl _ _ | (with_reducible refine Below.setCell ?_ ?_ _) | (with_reducible refine Below.alloc ?_ ?_ _) | (with_reducible refine Below.drew ?_) | (with_reducible refine below_dr ?_ _) | (with_reducible refine Below.trans ?_ (Below.mono (by with_reducible assumption) ?_)) | omega | (simp; done) | (simp; omega))⟩
end Go.Proofs.Ytelefmogmloniaa
