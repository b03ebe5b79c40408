/- Walks: statements that are the same, on the program's side. -/
import Derived.Test.YtjpadamlfhceaaaHxb
namespace Go.Proofs.Ytjpadamlfhceaaa
open Go.RowKit
set_option linter.unusedVariables false
theorem beq_dec {α : Type} [BEq α] [LawfulBEq α] [DecidableEq α] (a b : α) : (a == b) = decide (a = b) := by by_cases h : a = b <;> simp [h]
theorem bne_dec {α : Type} [BEq α] [LawfulBEq α] [DecidableEq α] (a b : α) : (a != b) = !decide (a = b) := by rw [bne, beq_dec]
theorem slicesEqS_b (l m : List DString) (A A' : Option Addr) (c c' : Nat) (w : World) (hl : l.length ≤ 1048576) (hm : m.length ≤ 1048576) (r : Row RvString 1 w w.heap.size A l) (r' : Row RvString 1 w w.heap.size A' m) :
    Calls Try.prog 35 #[.slice A l.length c, .slice A' m.length c'] w fun e w' => e = .returned (.bool (eqG kS l m)) ∧ Below w.heap.size w w' := by
  refine (slicesEqS_any l m A A' c c' _ w hl hm r r').mono ?_
  rintro e w' ⟨rfl, q, rfl⟩
  exact ⟨rfl, by repeat' (first | with_reducible assumption | with_reducible exact Below.refl _ _ | (with_reducible refine Below.setCell ?_ ?_ _) | (with_reducible refine Below.alloc ?_ ?_ _) | (with_reducible refine Below.drew ?_) | (with_reducible refine below_dr ?_ _) | (with_reducible refine Below.trans ?_ (Below.mono (by with_reducible assumption) ?_)) | omega | (simp; done) | (simp; omega))⟩
theorem slicesEqI_b (l m : List DInt64) (A A' : Option Addr) (c c' : Nat) (w : World) (hl : l.length ≤ 1048576) (hm : m.length ≤ 1048576) (r : Row RvInt64 1 w w.heap.size A l) (r' : Row RvInt64 1 w w.heap.size A' m) :
    Calls Try.prog 36 #[.slice A l.length c, .slice A' m.length c'] w fun e w' => e = .returned (.bool (eqG kI l m)) ∧ Below w.heap.size w w' := by
  refine (slicesEqI_any l m A A' c c' _ w hl hm r r').mono ?_
  rintro e w' ⟨rfl, q, rfl⟩
  exact ⟨rfl, by repeat' (first | with_reducible assumption | with_reducible exact Below.refl _ _ | (with_reducible refine Below.setCell ?_ ?_ _) | (with_reducible refine Below.alloc ?_ ?_ _) | (with_reducible refine Below.drew ?_) | (with_reducible refine below_dr ?_ _) | (with_reducible refine Below.trans ?_ (Below.mono (by with_reducible assumption) ?_)) | omega | (simp; done) | (simp; omega))⟩
def smV : DStatement → DStatement → Bool := fun ⟨a0, a1, a2, a3, a4, a5l, a6, a7, a8l, a9l, a10l, a11, a12⟩ ⟨b0, b1, b2, b3, b4, b5l, b6, b7, b8l, b9l, b10l, b11, b12⟩ => decide (a0 = b0) && (decide (a1.toList = b1.toList) && (decide (a2.toList = b2.toList) && ((sLin a3 a4 a5l b3 b4 b5l) && ((sLin a6 a7 a8l b6 b7 b8l) && ((eqG kS a9l b9l) && ((eqG kI a10l b10l) && (decide (a11 = b11) && (decide (a12 = b12)))))))))
set_option maxRecDepth 100000 in
set_option maxHeartbeats 12800000 in
theorem implSame_any (a0 : Int) (a1 : ByteArray) (a2 : ByteArray) (a3 : Int) (a4 : Int) (a5A : Option Addr) (a5c : Nat) (a5l : List DTerm) (a6 : Int) (a7 : Int) (a8A : Option Addr) (a8c : Nat) (a8l : List DTerm) (a9A : Option Addr) (a9c : Nat) (a9l : List DString) (a10A : Option Addr) (a10c : Nat) (a10l : List DInt64) (a11 : Bool) (a12 : Bool) (b0 : Int) (b1 : ByteArray) (b2 : ByteArray) (b3 : Int) (b4 : Int) (b5A : Option Addr) (b5c : Nat) (b5l : List DTerm) (b6 : Int) (b7 : Int) (b8A : Option Addr) (b8c : Nat) (b8l : List DTerm) (b9A : Option Addr) (b9c : Nat) (b9l : List DString) (b10A : Option Addr) (b10c : Nat) (b10l : List DInt64) (b11 : Bool) (b12 : Bool) (w : World) (h_a : totStatement (a0, a1, a2, a3, a4, a5l, a6, a7, a8l, a9l, a10l, a11, a12) ≤ 1048576) (h_b : totStatement (b0, b1, b2, b3, b4, b5l, b6, b7, b8l, b9l, b10l, b11, b12) ≤ 1048576) (r_a5 : Row RvTerm 3 w w.heap.size a5A a5l) (r_a8 : Row RvTerm 3 w w.heap.size a8A a8l) (r_a9 : Row RvString 1 w w.heap.size a9A a9l) (r_a10 : Row RvInt64 1 w w.heap.size a10A a10l) (r_b5 : Row RvTerm 3 w w.heap.size b5A b5l) (r_b8 : Row RvTerm 3 w w.heap.size b8A b8l) (r_b9 : Row RvString 1 w w.heap.size b9A b9l) (r_b10 : Row RvInt64 1 w w.heap.size b10A b10l) : Calls Try.prog 16 #[.agg #[.int .i64 a0, .string a1, .string a2, .int .i64 a3, .int .i64 a4, .slice a5A a5l.length a5c, .int .i64 a6, .int .i64 a7, .slice a8A a8l.length a8c, .slice a9A a9l.length a9c, .slice a10A a10l.length a10c, .bool a11, .bool a12], .agg #[.int .i64 b0, .string b1, .string b2, .int .i64 b3, .int .i64 b4, .slice b5A b5l.length b5c, .int .i64 b6, .int .i64 b7, .slice b8A b8l.length b8c, .slice b9A b9l.length b9c, .slice b10A b10l.length b10c, .bool b11, .bool b12]] w fun e w' => e = .returned (.bool (smV (a0, a1, a2, a3, a4, a5l, a6, a7, a8l, a9l, a10l, a11, a12) (b0, b1, b2, b3, b4, b5l, b6, b7, b8l, b9l, b10l, b11, b12))) ∧ Below w.heap.size w w' := by
  simp only [totStatement] at h_a h_b
  have hl_a5 : a5l.length ≤ 1048576 := Nat.le_trans (totRow_len totTerm _) (by omega)
  have hl_a8 : a8l.length ≤ 1048576 := Nat.le_trans (totRow_len totTerm _) (by omega)
  have hl_a9 : a9l.length ≤ 1048576 := Nat.le_trans (totRow_len totString _) (by omega)
  have hl_a10 : a10l.length ≤ 1048576 := Nat.le_trans (totRow_len totInt64 _) (by omega)
  have hl_b5 : b5l.length ≤ 1048576 := Nat.le_trans (totRow_len totTerm _) (by omega)
  have hl_b8 : b8l.length ≤ 1048576 := Nat.le_trans (totRow_len totTerm _) (by omega)
  have hl_b9 : b9l.length ≤ 1048576 := Nat.le_trans (totRow_len totString _) (by omega)
  have hl_b10 : b10l.length ≤ 1048576 := Nat.le_trans (totRow_len totInt64 _) (by omega)
  clear h_a h_b
  have C4 := Lib.hid (fun w r r' => implSameLinear_any a3 a4 a5A a5c a5l b3 b4 b5A b5c b5l w hl_a5 hl_b5 r r')
  have C5 := Lib.hid (fun w r r' => implSameLinear_any a6 a7 a8A a8c a8l b6 b7 b8A b8c b8l w hl_a8 hl_b8 r r')
  have C6 := Lib.hid (fun w r r' => slicesEqS_b a9l b9l a9A b9A a9c b9c w hl_a9 hl_b9 r r')
  have C7 := Lib.hid (fun w r r' => slicesEqI_b a10l b10l a10A b10A a10c b10c w hl_a10 hl_b10 r r')
  have hv : smV (a0, a1, a2, a3, a4, a5l, a6, a7, a8l, a9l, a10l, a11, a12) (b0, b1, b2, b3, b4, b5l, b6, b7, b8l, b9l, b10l, b11, b12) = (decide (a0 = b0) && (decide (a1.toList = b1.toList) && (decide (a2.toList = b2.toList) && ((sLin a3 a4 a5l b3 b4 b5l) && ((sLin a6 a7 a8l b6 b7 b8l) && ((eqG kS a9l b9l) && ((eqG kI a10l b10l) && (decide (a11 = b11) && (decide (a12 = b12)))))))))) := rfl
  rw [hv]; clear hv
  generalize sLin a3 a4 a5l b3 b4 b5l = v4 at C4 ⊢
  generalize sLin a6 a7 a8l b6 b7 b8l = v5 at C5 ⊢
  generalize eqG kS a9l b9l = v6 at C6 ⊢
  generalize eqG kI a10l b10l = v7 at C7 ⊢
  have F1 := beq_dec a0 b0
  have G1 := bne_dec a0 b0
  generalize decide (a0 = b0) = v1 at F1 G1 ⊢
  have F2 := beq_dec a1.toList b1.toList
  have G2 := bne_dec a1.toList b1.toList
  generalize decide (a1.toList = b1.toList) = v2 at F2 G2 ⊢
  have F3 := beq_dec a2.toList b2.toList
  have G3 := bne_dec a2.toList b2.toList
  generalize decide (a2.toList = b2.toList) = v3 at F3 G3 ⊢
  have F8 := beq_dec a11 b11
  have G8 := bne_dec a11 b11
  generalize decide (a11 = b11) = v8 at F8 G8 ⊢
  have F9 := beq_dec a12 b12
  have G9 := bne_dec a12 b12
  generalize decide (a12 = b12) = v9 at F9 G9 ⊢
  clear G1 G2 G3 G8 G9
  cases v1
  case false =>
    go_enter Try.func16, Try.ntmps16
    go_wp2_with fail
    go_ret
    exact ⟨rfl, by repeat' (first | with_reducible assumption | with_reducible exact Below.refl _ _ | (with_reducible refine Below.setCell ?_ ?_ _) | (with_reducible refine Below.alloc ?_ ?_ _) | (with_reducible refine Below.drew ?_) | (with_reducible refine below_dr ?_ _) | (with_reducible refine Below.trans ?_ (Below.mono (by with_reducible assumption) ?_)) | omega | (simp; done) | (simp; omega))⟩
  case true =>
    cases v2
    case false =>
      go_enter Try.func16, Try.ntmps16
      go_wp2_with fail
      go_ret
      exact ⟨rfl, by repeat' (first | with_reducible assumption | with_reducible exact Below.refl _ _ | (with_reducible refine Below.setCell ?_ ?_ _) | (with_reducible refine Below.alloc ?_ ?_ _) | (with_reducible refine Below.drew ?_) | (with_reducible refine below_dr ?_ _) | (with_reducible refine Below.trans ?_ (Below.mono (by with_reducible assumption) ?_)) | omega | (simp; done) | (simp; omega))⟩
    case true =>
      cases v3
      case false =>
        go_enter Try.func16, Try.ntmps16
        go_wp2_with fail
        go_ret
        exact ⟨rfl, by repeat' (first | with_reducible assumption | with_reducible exact Below.refl _ _ | (with_reducible refine Below.setCell ?_ ?_ _) | (with_reducible refine Below.alloc ?_ ?_ _) | (with_reducible refine Below.drew ?_) | (with_reducible refine below_dr ?_ _) | (with_reducible refine Below.trans ?_ (Below.mono (by with_reducible assumption) ?_)) | omega | (simp; done) | (simp; omega))⟩
      case true =>
        go_enter Try.func16, Try.ntmps16
        go_wp2_with fail
        refine (C4.out _ ?_ ?_).mono ?_
        · exact (Row.carry (w' := _) r_a5 (by repeat' (first | with_reducible assumption | with_reducible exact Below.refl _ _ | (with_reducible refine Below.setCell ?_ ?_ _) | (with_reducible refine Below.alloc ?_ ?_ _) | (with_reducible refine Below.drew ?_) | (with_reducible refine below_dr ?_ _) | (with_reducible refine Below.trans ?_ (Below.mono (by with_reducible assumption) ?_)) | omega | (simp; done) | (simp; omega))) (Nat.le_refl _)).more (by (try simp only [World.size_setCell]); (try simp only [World.size_drew]); (try simp only [World.size_alloc]); omega)
        · exact (Row.carry (w' := _) r_b5 (by repeat' (first | with_reducible assumption | with_reducible exact Below.refl _ _ | (with_reducible refine Below.setCell ?_ ?_ _) | (with_reducible refine Below.alloc ?_ ?_ _) | (with_reducible refine Below.drew ?_) | (with_reducible refine below_dr ?_ _) | (with_reducible refine Below.trans ?_ (Below.mono (by with_reducible assumption) ?_)) | omega | (simp; done) | (simp; omega))) (Nat.le_refl _)).more (by (try simp only [World.size_setCell]); (try simp only [World.size_drew]); (try simp only [World.size_alloc]); omega)
        rintro e wZ0 ⟨rfl, hbwZ0⟩
        obtain ⟨hcwZ0, hfwZ0⟩ := bcell hbwZ0
        have hzwZ0 := hbwZ0.size
        (try simp only [World.size_setCell] at hcwZ0 hfwZ0 hzwZ0)
        (try simp only [World.size_drew] at hcwZ0 hfwZ0 hzwZ0)
        (try simp only [World.size_alloc] at hcwZ0 hfwZ0 hzwZ0)
        have qwZ00 : w.heap.size < wZ0.heap.size := by omega
        have qwZ01 : w.heap.size + 1 < wZ0.heap.size := by omega
        cases v4
        case false =>
          go_wp2_with fail
          go_ret
          exact ⟨rfl, by repeat' (first | with_reducible assumption | with_reducible exact Below.refl _ _ | (with_reducible refine Below.setCell ?_ ?_ _) | (with_reducible refine Below.alloc ?_ ?_ _) | (with_reducible refine Below.drew ?_) | (with_reducible refine below_dr ?_ _) | (with_reducible refine Below.trans ?_ (Below.mono (by with_reducible assumption) ?_)) | omega | (simp; done) | (simp; omega))⟩
        case true =>
          go_wp2_with fail
          refine (C5.out _ ?_ ?_).mono ?_
          · exact (Row.carry (w' := _) r_a8 (by repeat' (first | with_reducible assumption | with_reducible exact Below.refl _ _ | (with_reducible refine Below.setCell ?_ ?_ _) | (with_reducible refine Below.alloc ?_ ?_ _) | (with_reducible refine Below.drew ?_) | (with_reducible refine below_dr ?_ _) | (with_reducible refine Below.trans ?_ (Below.mono (by with_reducible assumption) ?_)) | omega | (simp; done) | (simp; omega))) (Nat.le_refl _)).more (by (try simp only [World.size_setCell]); (try simp only [World.size_drew]); (try simp only [World.size_alloc]); omega)
          · exact (Row.carry (w' := _) r_b8 (by repeat' (first | with_reducible assumption | with_reducible exact Below.refl _ _ | (with_reducible refine Below.setCell ?_ ?_ _) | (with_reducible refine Below.alloc ?_ ?_ _) | (with_reducible refine Below.drew ?_) | (with_reducible refine below_dr ?_ _) | (with_reducible refine Below.trans ?_ (Below.mono (by with_reducible assumption) ?_)) | omega | (simp; done) | (simp; omega))) (Nat.le_refl _)).more (by (try simp only [World.size_setCell]); (try simp only [World.size_drew]); (try simp only [World.size_alloc]); omega)
          rintro e wZ1 ⟨rfl, hbwZ1⟩
          obtain ⟨hcwZ1, hfwZ1⟩ := bcell hbwZ1
          have hzwZ1 := hbwZ1.size
          (try simp only [World.size_setCell] at hcwZ1 hfwZ1 hzwZ1)
          (try simp only [World.size_drew] at hcwZ1 hfwZ1 hzwZ1)
          (try simp only [World.size_alloc] at hcwZ1 hfwZ1 hzwZ1)
          have qwZ10 : w.heap.size < wZ1.heap.size := by omega
          have qwZ11 : w.heap.size + 1 < wZ1.heap.size := by omega
          cases v5
          case false =>
            go_wp2_with fail
            go_ret
            exact ⟨rfl, by repeat' (first | with_reducible assumption | with_reducible exact Below.refl _ _ | (with_reducible refine Below.setCell ?_ ?_ _) | (with_reducible refine Below.alloc ?_ ?_ _) | (with_reducible refine Below.drew ?_) | (with_reducible refine below_dr ?_ _) | (with_reducible refine Below.trans ?_ (Below.mono (by with_reducible assumption) ?_)) | omega | (simp; done) | (simp; omega))⟩
          case true =>
            go_wp2_with fail
            refine (C6.out _ ?_ ?_).mono ?_
            · exact (Row.carry (w' := _) r_a9 (by repeat' (first | with_reducible assumption | with_reducible exact Below.refl _ _ | (with_reducible refine Below.setCell ?_ ?_ _) | (with_reducible refine Below.alloc ?_ ?_ _) | (with_reducible refine Below.drew ?_) | (with_reducible refine below_dr ?_ _) | (with_reducible refine Below.trans ?_ (Below.mono (by with_reducible assumption) ?_)) | omega | (simp; done) | (simp; omega))) (Nat.le_refl _)).more (by (try simp only [World.size_setCell]); (try simp only [World.size_drew]); (try simp only [World.size_alloc]); omega)
            · exact (Row.carry (w' := _) r_b9 (by repeat' (first | with_reducible assumption | with_reducible exact Below.refl _ _ | (with_reducible refine Below.setCell ?_ ?_ _) | (with_reducible refine Below.alloc ?_ ?_ _) | (with_reducible refine Below.drew ?_) | (with_reducible refine below_dr ?_ _) | (with_reducible refine Below.trans ?_ (Below.mono (by with_reducible assumption) ?_)) | omega | (simp; done) | (simp; omega))) (Nat.le_refl _)).more (by (try simp only [World.size_setCell]); (try simp only [World.size_drew]); (try simp only [World.size_alloc]); omega)
            rintro e wZ2 ⟨rfl, hbwZ2⟩
            obtain ⟨hcwZ2, hfwZ2⟩ := bcell hbwZ2
            have hzwZ2 := hbwZ2.size
            (try simp only [World.size_setCell] at hcwZ2 hfwZ2 hzwZ2)
            (try simp only [World.size_drew] at hcwZ2 hfwZ2 hzwZ2)
            (try simp only [World.size_alloc] at hcwZ2 hfwZ2 hzwZ2)
            have qwZ20 : w.heap.size < wZ2.heap.size := by omega
            have qwZ21 : w.heap.size + 1 < wZ2.heap.size := by omega
            cases v6
            case false =>
              go_wp2_with fail
              go_ret
              exact ⟨rfl, by repeat' (first | with_reducible assumption | with_reducible exact Below.refl _ _ | (with_reducible refine Below.setCell ?_ ?_ _) | (with_reducible refine Below.alloc ?_ ?_ _) | (with_reducible refine Below.drew ?_) | (with_reducible refine below_dr ?_ _) | (with_reducible refine Below.trans ?_ (Below.mono (by with_reducible assumption) ?_)) | omega | (simp; done) | (simp; omega))⟩
            case true =>
              go_wp2_with fail
              refine (C7.out _ ?_ ?_).mono ?_
              · exact (Row.carry (w' := _) r_a10 (by repeat' (first | with_reducible assumption | with_reducible exact Below.refl _ _ | (with_reducible refine Below.setCell ?_ ?_ _) | (with_reducible refine Below.alloc ?_ ?_ _) | (with_reducible refine Below.drew ?_) | (with_reducible refine below_dr ?_ _) | (with_reducible refine Below.trans ?_ (Below.mono (by with_reducible assumption) ?_)) | omega | (simp; done) | (simp; omega))) (Nat.le_refl _)).more (by (try simp only [World.size_setCell]); (try simp only [World.size_drew]); (try simp only [World.size_alloc]); omega)
              · exact (Row.carry (w' := _) r_b10 (by repeat' (first | with_reducible assumption | with_reducible exact Below.refl _ _ | (with_reducible refine Below.setCell ?_ ?_ _) | (with_reducible refine Below.alloc ?_ ?_ _) | (with_reducible refine Below.drew ?_) | (with_reducible refine below_dr ?_ _) | (with_reducible refine Below.trans ?_ (Below.mono (by with_reducible assumption) ?_)) | omega | (simp; done) | (simp; omega))) (Nat.le_refl _)).more (by (try simp only [World.size_setCell]); (try simp only [World.size_drew]); (try simp only [World.size_alloc]); omega)
              rintro e wZ3 ⟨rfl, hbwZ3⟩
              obtain ⟨hcwZ3, hfwZ3⟩ := bcell hbwZ3
              have hzwZ3 := hbwZ3.size
              (try simp only [World.size_setCell] at hcwZ3 hfwZ3 hzwZ3)
              (try simp only [World.size_drew] at hcwZ3 hfwZ3 hzwZ3)
              (try simp only [World.size_alloc] at hcwZ3 hfwZ3 hzwZ3)
              have qwZ30 : w.heap.size < wZ3.heap.size := by omega
              have qwZ31 : w.heap.size + 1 < wZ3.heap.size := by omega
              cases v7
              case false =>
                go_wp2_with fail
                go_ret
                exact ⟨rfl, by repeat' (first | with_reducible assumption | with_reducible exact Below.refl _ _ | (with_reducible refine Below.setCell ?_ ?_ _) | (with_reducible refine Below.alloc ?_ ?_ _) | (with_reducible refine Below.drew ?_) | (with_reducible refine below_dr ?_ _) | (with_reducible refine Below.trans ?_ (Below.mono (by with_reducible assumption) ?_)) | omega | (simp; done) | (simp; omega))⟩
              case true =>
                cases v8
                case false =>
                  go_wp2_with fail
                  go_ret
                  exact ⟨rfl, by repeat' (first | with_reducible assumption | with_reducible exact Below.refl _ _ | (with_reducible refine Below.setCell ?_ ?_ _) | (with_reducible refine Below.alloc ?_ ?_ _) | (with_reducible refine Below.drew ?_) | (with_reducible refine below_dr ?_ _) | (with_reducible refine Below.trans ?_ (Below.mono (by with_reducible assumption) ?_)) | omega | (simp; done) | (simp; omega))⟩
                case true =>
                  cases v9
                  case false =>
                    go_wp2_with fail
                    go_ret
                    exact ⟨rfl, by repeat' (first | with_reducible assumption | with_reducible exact Below.refl _ _ | (with_reducible refine Below.setCell ?_ ?_ _) | (with_reducible refine Below.alloc ?_ ?_ _) | (with_reducible refine Below.drew ?_) | (with_reducible refine below_dr ?_ _) | (with_reducible refine Below.trans ?_ (Below.mono (by with_reducible assumption) ?_)) | omega | (simp; done) | (simp; omega))⟩
                  case true =>
                    go_wp2_with fail
                    go_ret
                    exact ⟨rfl, by repeat' (first | with_reducible assumption | with_reducible exact Below.refl _ _ | (with_reducible refine Below.setCell ?_ ?_ _) | (with_reducible refine Below.alloc ?_ ?_ _) | (with_reducible refine Below.drew ?_) | (with_reducible refine below_dr ?_ _) | (with_reducible refine Below.trans ?_ (Below.mono (by with_reducible assumption) ?_)) | omega | (simp; done) | (simp; omega))⟩
end Go.Proofs.Ytjpadamlfhceaaa
