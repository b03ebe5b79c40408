/- Walks: glyphs that are the same, on the reference's side. -/
import Derived.Test.YtelefmogmloniaaGmf0
import Derived.Test.YtelefmogmloniaaGmf1
import Derived.Test.YtelefmogmloniaaGmf2
import Derived.Test.YtelefmogmloniaaGmf3
import Derived.Test.YtelefmogmloniaaGmf4
import Derived.Test.YtelefmogmloniaaGmf5
import Derived.Test.YtelefmogmloniaaGmf6
import Derived.Test.YtelefmogmloniaaGmf7
namespace Go.Proofs.Ytelefmogmloniaa
open Go.RowKit
set_option linter.unusedVariables false
set_option maxHeartbeats 3200000 in
theorem l17Same_any (a0 : ByteArray) (a1 : Int) (a2 : Int) (a3A : Option Addr) (a3c : Nat) (a3l : List DLoop) (a4A : Option Addr) (a4c : Nat) (a4l : List DPart) (a5A : Option Addr) (a5c : Nat) (a5l : List DAnchor) (a6 : ByteArray) (b0 : ByteArray) (b1 : Int) (b2 : Int) (b3A : Option Addr) (b3c : Nat) (b3l : List DLoop) (b4A : Option Addr) (b4c : Nat) (b4l : List DPart) (b5A : Option Addr) (b5c : Nat) (b5l : List DAnchor) (b6 : ByteArray) (ga pa gb pb : Nat) (w : World) (h_a : totGlyph (a0, a1, a2, a3l, a4l, a5l, a6) ≤ 1048576) (h_b : totGlyph (b0, b1, b2, b3l, b4l, b5l, b6) ≤ 1048576) (hga : ga < w.heap.size) (hgb : gb < w.heap.size) (s0 : w.cell? ⟨ga, pa, none⟩ = some (.string a0)) (s1 : w.cell? ⟨ga, pa + 1, none⟩ = some (.int .i64 a1)) (s2 : w.cell? ⟨ga, pa + 2, none⟩ = some (.int .i64 a2)) (s3 : w.cell? ⟨ga, pa + 3, none⟩ = some (.slice a3A a3l.length a3c)) (s4 : w.cell? ⟨ga, pa + 4, none⟩ = some (.slice a4A a4l.length a4c)) (s5 : w.cell? ⟨ga, pa + 5, none⟩ = some (.slice a5A a5l.length a5c)) (s6 : w.cell? ⟨ga, pa + 6, none⟩ = some (.string a6)) (t0 : w.cell? ⟨gb, pb, none⟩ = some (.string b0)) (t1 : w.cell? ⟨gb, pb + 1, none⟩ = some (.int .i64 b1)) (t2 : w.cell? ⟨gb, pb + 2, none⟩ = some (.int .i64 b2)) (t3 : w.cell? ⟨gb, pb + 3, none⟩ = some (.slice b3A b3l.length b3c)) (t4 : w.cell? ⟨gb, pb + 4, none⟩ = some (.slice b4A b4l.length b4c)) (t5 : w.cell? ⟨gb, pb + 5, none⟩ = some (.slice b5A b5l.length b5c)) (t6 : w.cell? ⟨gb, pb + 6, none⟩ = some (.string b6)) (r_a3 : Row RvLoop 1 w w.heap.size a3A a3l) (r_a4 : Row RvPart 3 w w.heap.size a4A a4l) (r_a5 : Row RvAnchor 3 w w.heap.size a5A a5l) (r_b3 : Row RvLoop 1 w w.heap.size b3A b3l) (r_b4 : Row RvPart 3 w w.heap.size b4A b4l) (r_b5 : Row RvAnchor 3 w w.heap.size b5A b5l) :
    Calls Try.prog 63 #[.pointer (some ⟨ga, pa, none⟩), .pointer (some ⟨gb, pb, none⟩)] w fun e w' => e = .returned (.bool (smG (a0, a1, a2, a3l, a4l, a5l, a6) (b0, b1, b2, b3l, b4l, b5l, b6))) ∧ Below w.heap.size w w' := by
  simp only [totGlyph] at h_a h_b
  have hl_a3 : a3l.length ≤ 1048576 := Nat.le_trans (totRow_len totLoop _) (by omega)
  have hl_a4 : a4l.length ≤ 1048576 := Nat.le_trans (totRow_len totPart _) (by omega)
  have hl_a5 : a5l.length ≤ 1048576 := Nat.le_trans (totRow_len totAnchor _) (by omega)
  have hi_a3 := knots_in (l := a3l) (n := 1048576) (by omega)
  have hl_b3 : b3l.length ≤ 1048576 := Nat.le_trans (totRow_len totLoop _) (by omega)
  have hl_b4 : b4l.length ≤ 1048576 := Nat.le_trans (totRow_len totPart _) (by omega)
  have hl_b5 : b5l.length ≤ 1048576 := Nat.le_trans (totRow_len totAnchor _) (by omega)
  have hi_b3 := knots_in (l := b3l) (n := 1048576) (by omega)
  have hv : smG (a0, a1, a2, a3l, a4l, a5l, a6) (b0, b1, b2, b3l, b4l, b5l, b6) = (decide (a0.toList = b0.toList) && (decide (a1 = b1) && (decide (a2 = b2) && (oEq a3l b3l && (eqG kKPart a4l b4l && (eqG kKAnchor a5l b5l && (decide (a6.toList = b6.toList)))))))) := rfl
  rw [hv]; clear hv
  clear h_a h_b
  rcases h1 : (decide (a0.toList = b0.toList)) with _ | _
  case false =>
    refine (l17Same_0 a0 a1 a2 a3A a3c a3l a4A a4c a4l a5A a5c a5l a6 b0 b1 b2 b3A b3c b3l b4A b4c b4l b5A b5c b5l b6 ga pa gb pb w hl_a3 hl_a4 hl_a5 hl_b3 hl_b4 hl_b5 hi_a3 hi_b3 hga hgb s0 s1 s2 s3 s4 s5 s6 t0 t1 t2 t3 t4 t5 t6 r_a3 r_a4 r_a5 r_b3 r_b4 r_b5 h1).mono ?_
    rintro e w' ⟨rfl, hb⟩
    exact ⟨ret_bool (by simp), hb⟩
  case true =>
    rcases h2 : (decide (a1 = b1)) with _ | _
    case false =>
      refine (l17Same_1 a0 a1 a2 a3A a3c a3l a4A a4c a4l a5A a5c a5l a6 b0 b1 b2 b3A b3c b3l b4A b4c b4l b5A b5c b5l b6 ga pa gb pb w hl_a3 hl_a4 hl_a5 hl_b3 hl_b4 hl_b5 hi_a3 hi_b3 hga hgb s0 s1 s2 s3 s4 s5 s6 t0 t1 t2 t3 t4 t5 t6 r_a3 r_a4 r_a5 r_b3 r_b4 r_b5 h1 h2).mono ?_
      rintro e w' ⟨rfl, hb⟩
      exact ⟨ret_bool (by simp), hb⟩
    case true =>
      rcases h3 : (decide (a2 = b2)) with _ | _
      case false =>
        refine (l17Same_2 a0 a1 a2 a3A a3c a3l a4A a4c a4l a5A a5c a5l a6 b0 b1 b2 b3A b3c b3l b4A b4c b4l b5A b5c b5l b6 ga pa gb pb w hl_a3 hl_a4 hl_a5 hl_b3 hl_b4 hl_b5 hi_a3 hi_b3 hga hgb s0 s1 s2 s3 s4 s5 s6 t0 t1 t2 t3 t4 t5 t6 r_a3 r_a4 r_a5 r_b3 r_b4 r_b5 h1 h2 h3).mono ?_
        rintro e w' ⟨rfl, hb⟩
        exact ⟨ret_bool (by simp), hb⟩
      case true =>
        rcases h7 : (decide (a6.toList = b6.toList)) with _ | _
        case false =>
          refine (l17Same_3 a0 a1 a2 a3A a3c a3l a4A a4c a4l a5A a5c a5l a6 b0 b1 b2 b3A b3c b3l b4A b4c b4l b5A b5c b5l b6 ga pa gb pb w hl_a3 hl_a4 hl_a5 hl_b3 hl_b4 hl_b5 hi_a3 hi_b3 hga hgb s0 s1 s2 s3 s4 s5 s6 t0 t1 t2 t3 t4 t5 t6 r_a3 r_a4 r_a5 r_b3 r_b4 r_b5 h1 h2 h3 h7).mono ?_
          rintro e w' ⟨rfl, hb⟩
          exact ⟨ret_bool (by simp), hb⟩
        case true =>
          rcases h4 : (oEq a3l b3l) with _ | _
          case false =>
            refine (l17Same_4 a0 a1 a2 a3A a3c a3l a4A a4c a4l a5A a5c a5l a6 b0 b1 b2 b3A b3c b3l b4A b4c b4l b5A b5c b5l b6 ga pa gb pb w hl_a3 hl_a4 hl_a5 hl_b3 hl_b4 hl_b5 hi_a3 hi_b3 hga hgb s0 s1 s2 s3 s4 s5 s6 t0 t1 t2 t3 t4 t5 t6 r_a3 r_a4 r_a5 r_b3 r_b4 r_b5 h1 h2 h3 h7 h4).mono ?_
            rintro e w' ⟨rfl, hb⟩
            exact ⟨ret_bool (by simp), hb⟩
          case true =>
            by_cases hln4 : a4l.length = b4l.length
            case neg =>
              refine (l17Same_5 a0 a1 a2 a3A a3c a3l a4A a4c a4l a5A a5c a5l a6 b0 b1 b2 b3A b3c b3l b4A b4c b4l b5A b5c b5l b6 ga pa gb pb w hl_a3 hl_a4 hl_a5 hl_b3 hl_b4 hl_b5 hi_a3 hi_b3 hga hgb s0 s1 s2 s3 s4 s5 s6 t0 t1 t2 t3 t4 t5 t6 r_a3 r_a4 r_a5 r_b3 r_b4 r_b5 h1 h2 h3 h7 h4 hln4).mono ?_
              rintro e w' ⟨rfl, hb⟩
              exact ⟨ret_bool (by rw [← eqG_len (f := kKPart) hln4]; simp), hb⟩
            case pos =>
              by_cases hln5 : a5l.length = b5l.length
              case neg =>
                refine (l17Same_6 a0 a1 a2 a3A a3c a3l a4A a4c a4l a5A a5c a5l a6 b0 b1 b2 b3A b3c b3l b4A b4c b4l b5A b5c b5l b6 ga pa gb pb w hl_a3 hl_a4 hl_a5 hl_b3 hl_b4 hl_b5 hi_a3 hi_b3 hga hgb s0 s1 s2 s3 s4 s5 s6 t0 t1 t2 t3 t4 t5 t6 r_a3 r_a4 r_a5 r_b3 r_b4 r_b5 h1 h2 h3 h7 h4 hln4 hln5).mono ?_
                rintro e w' ⟨rfl, hb⟩
                exact ⟨ret_bool (by rw [← eqG_len (f := kKAnchor) hln5]; simp), hb⟩
              case pos =>
                refine (l17Same_7 a0 a1 a2 a3A a3c a3l a4A a4c a4l a5A a5c a5l a6 b0 b1 b2 b3A b3c b3l b4A b4c b4l b5A b5c b5l b6 ga pa gb pb w hl_a3 hl_a4 hl_a5 hl_b3 hl_b4 hl_b5 hi_a3 hi_b3 hga hgb s0 s1 s2 s3 s4 s5 s6 t0 t1 t2 t3 t4 t5 t6 r_a3 r_a4 r_a5 r_b3 r_b4 r_b5 h1 h2 h3 h7 h4 hln4 hln5).mono ?_
                rintro e w' ⟨rfl, hb⟩
                exact ⟨ret_bool (by simp), hb⟩
set_option maxHeartbeats 3200000 in
theorem specSameGlyph_any (a0 : ByteArray) (a1 : Int) (a2 : Int) (a3A : Option Addr) (a3c : Nat) (a3l : List DLoop) (a4A : Option Addr) (a4c : Nat) (a4l : List DPart) (a5A : Option Addr) (a5c : Nat) (a5l : List DAnchor) (a6 : ByteArray) (b0 : ByteArray) (b1 : Int) (b2 : Int) (b3A : Option Addr) (b3c : Nat) (b3l : List DLoop) (b4A : Option Addr) (b4c : Nat) (b4l : List DPart) (b5A : Option Addr) (b5c : Nat) (b5l : List DAnchor) (b6 : ByteArray) (w : World) (h_a : totGlyph (a0, a1, a2, a3l, a4l, a5l, a6) ≤ 1048576) (h_b : totGlyph (b0, b1, b2, b3l, b4l, b5l, b6) ≤ 1048576) (r_a3 : Row RvLoop 1 w w.heap.size a3A a3l) (r_a4 : Row RvPart 3 w w.heap.size a4A a4l) (r_a5 : Row RvAnchor 3 w w.heap.size a5A a5l) (r_b3 : Row RvLoop 1 w w.heap.size b3A b3l) (r_b4 : Row RvPart 3 w w.heap.size b4A b4l) (r_b5 : Row RvAnchor 3 w w.heap.size b5A b5l) :
    Calls Try.prog 18 #[.agg #[.string a0, .int .i64 a1, .int .i64 a2, .slice a3A a3l.length a3c, .slice a4A a4l.length a4c, .slice a5A a5l.length a5c, .string a6], .agg #[.string b0, .int .i64 b1, .int .i64 b2, .slice b3A b3l.length b3c, .slice b4A b4l.length b4c, .slice b5A b5l.length b5c, .string b6]] w fun e w' => e = .returned (.bool (smG (a0, a1, a2, a3l, a4l, a5l, a6) (b0, b1, b2, b3l, b4l, b5l, b6))) ∧ Below w.heap.size w w' := by
  have C := Lib.hid (fun w1 s0 s1 s2 s3 s4 s5 s6 t0 t1 t2 t3 t4 t5 t6 z1 z2 q_a3 q_a4 q_a5 q_b3 q_b4 q_b5 => l17Same_any a0 a1 a2 a3A a3c a3l a4A a4c a4l a5A a5c a5l a6 b0 b1 b2 b3A b3c b3l b4A b4c b4l b5A b5c b5l b6 w.heap.size 0 (w.heap.size + 1) 0 w1 h_a h_b z1 z2 s0 s1 s2 s3 s4 s5 s6 t0 t1 t2 t3 t4 t5 t6 q_a3 q_a4 q_a5 q_b3 q_b4 q_b5)
  generalize smG (a0, a1, a2, a3l, a4l, a5l, a6) (b0, b1, b2, b3l, b4l, b5l, b6) = v at C ⊢
  go_enter Try.func18, Try.ntmps18
  go_wp2_with fail
  refine (C.out _ (by simp [go_sem]) (by simp [go_sem]) (by simp [go_sem]) (by simp [go_sem]) (by simp [go_sem]) (by simp [go_sem]) (by simp [go_sem]) (by simp [go_sem]) (by simp [go_sem]) (by simp [go_sem]) (by simp [go_sem]) (by simp [go_sem]) (by simp [go_sem]) (by simp [go_sem]) (by first | (simp; done) | (simp; omega)) (by first | (simp; done) | (simp; omega)) ?_ ?_ ?_ ?_ ?_ ?_).mono ?_
  · exact (Row.carry (w' := _) r_a3 (by repeat' (first | with_reducible assumption | with_reducible exact Below.refl _ _ | (with_reducible refine Below.setCell ?_ ?_ _) | (with_reducible refine Below.alloc ?_ ?_ _) | (with_reducible refine Below.drew ?_) | (with_reducible refine below_dr ?_ _) | (with_reducible refine Below.trans ?_ (Below.mono (by with_reducible assumption) ?_)) | omega | (simp; done) | (simp; omega))) (Nat.le_refl _)).more (by (try simp only [World.size_setCell]); (try simp only [World.size_drew]); (try simp only [World.size_alloc]); omega)
  · exact (Row.carry (w' := _) r_a4 (by repeat' (first | with_reducible assumption | with_reducible exact Below.refl _ _ | (with_reducible refine Below.setCell ?_ ?_ _) | (with_reducible refine Below.alloc ?_ ?_ _) | (with_reducible refine Below.drew ?_) | (with_reducible refine below_dr ?_ _) | (with_reducible refine Below.trans ?_ (Below.mono (by with_reducible assumption) ?_)) | omega | (simp; done) | (simp; omega))) (Nat.le_refl _)).more (by (try simp only [World.size_setCell]); (try simp only [World.size_drew]); (try simp only [World.size_alloc]); omega)
  · exact (Row.carry (w' := _) r_a5 (by repeat' (first | with_reducible assumption | with_reducible exact Below.refl _ _ | (with_reducible refine Below.setCell ?_ ?_ _) | (with_reducible refine Below.alloc ?_ ?_ _) | (with_reducible refine Below.drew ?_) | (with_reducible refine below_dr ?_ _) | (with_reducible refine Below.trans ?_ (Below.mono (by with_reducible assumption) ?_)) | omega | (simp; done) | (simp; omega))) (Nat.le_refl _)).more (by (try simp only [World.size_setCell]); (try simp only [World.size_drew]); (try simp only [World.size_alloc]); omega)
  · exact (Row.carry (w' := _) r_b3 (by repeat' (first | with_reducible assumption | with_reducible exact Below.refl _ _ | (with_reducible refine Below.setCell ?_ ?_ _) | (with_reducible refine Below.alloc ?_ ?_ _) | (with_reducible refine Below.drew ?_) | (with_reducible refine below_dr ?_ _) | (with_reducible refine Below.trans ?_ (Below.mono (by with_reducible assumption) ?_)) | omega | (simp; done) | (simp; omega))) (Nat.le_refl _)).more (by (try simp only [World.size_setCell]); (try simp only [World.size_drew]); (try simp only [World.size_alloc]); omega)
  · exact (Row.carry (w' := _) r_b4 (by repeat' (first | with_reducible assumption | with_reducible exact Below.refl _ _ | (with_reducible refine Below.setCell ?_ ?_ _) | (with_reducible refine Below.alloc ?_ ?_ _) | (with_reducible refine Below.drew ?_) | (with_reducible refine below_dr ?_ _) | (with_reducible refine Below.trans ?_ (Below.mono (by with_reducible assumption) ?_)) | omega | (simp; done) | (simp; omega))) (Nat.le_refl _)).more (by (try simp only [World.size_setCell]); (try simp only [World.size_drew]); (try simp only [World.size_alloc]); omega)
  · exact (Row.carry (w' := _) r_b5 (by repeat' (first | with_reducible assumption | with_reducible exact Below.refl _ _ | (with_reducible refine Below.setCell ?_ ?_ _) | (with_reducible refine Below.alloc ?_ ?_ _) | (with_reducible refine Below.drew ?_) | (with_reducible refine below_dr ?_ _) | (with_reducible refine Below.trans ?_ (Below.mono (by with_reducible assumption) ?_)) | omega | (simp; done) | (simp; omega))) (Nat.le_refl _)).more (by (try simp only [World.size_setCell]); (try simp only [World.size_drew]); (try simp only [World.size_alloc]); omega)
  rintro e w1 ⟨rfl, hb⟩
  go_wp2_with fail
  go_ret
  exact ⟨rfl, by repeat' (first | with_reducible assumption | with_reducible exact Below.refl _ _ | (with_reducible refine Below.setCell ?_ ?_ _) | (with_reducible refine Below.alloc ?_ ?_ _) | (with_reducible refine Below.drew ?_) | (with_reducible refine below_dr ?_ _) | (with_reducible refine Below.trans ?_ (Below.mono (by with_reducible assumption) ?_)) | omega | (simp; done) | (simp; omega))⟩
end Go.Proofs.Ytelefmogmloniaa
