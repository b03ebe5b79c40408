/- Walks: statements that are the same, the reference's side. -/
import Derived.Test.YtimmopnckmdcjaaHxd0
import Derived.Test.YtimmopnckmdcjaaHxd1
import Derived.Test.YtimmopnckmdcjaaHxd2
import Derived.Test.YtimmopnckmdcjaaHxd3
import Derived.Test.YtimmopnckmdcjaaHxd4
import Derived.Test.YtimmopnckmdcjaaHxd5
import Derived.Test.YtimmopnckmdcjaaHxd6
import Derived.Test.YtimmopnckmdcjaaHxd7
import Derived.Test.YtimmopnckmdcjaaHxd8
import Derived.Test.YtimmopnckmdcjaaHxd9
namespace Go.Proofs.Ytimmopnckmdcjaa
open Go.RowKit
set_option linter.unusedVariables false
set_option maxRecDepth 100000 in
set_option maxHeartbeats 3200000 in
theorem l07Same_any (a0 : Int) (a1 : ByteArray) (a2 : ByteArray) (a3 : Int) (a4 : Int) (a5A : Option Addr) (a5c : Nat) (a5l : List DTerm) (a6 : Int) (a7 : Int) (a8A : Option Addr) (a8c : Nat) (a8l : List DTerm) (a9A : Option Addr) (a9c : Nat) (a9l : List DString) (a10A : Option Addr) (a10c : Nat) (a10l : List DInt64) (a11 : Bool) (a12 : Bool) (b0 : Int) (b1 : ByteArray) (b2 : ByteArray) (b3 : Int) (b4 : Int) (b5A : Option Addr) (b5c : Nat) (b5l : List DTerm) (b6 : Int) (b7 : Int) (b8A : Option Addr) (b8c : Nat) (b8l : List DTerm) (b9A : Option Addr) (b9c : Nat) (b9l : List DString) (b10A : Option Addr) (b10c : Nat) (b10l : List DInt64) (b11 : Bool) (b12 : Bool) (ga gb : Nat) (w : World) (h_a : totStatement (a0, a1, a2, a3, a4, a5l, a6, a7, a8l, a9l, a10l, a11, a12) ≤ 1048576) (h_b : totStatement (b0, b1, b2, b3, b4, b5l, b6, b7, b8l, b9l, b10l, b11, b12) ≤ 1048576) (at0 : AtL ga [.int .i64 a0, .string a1, .string a2, .int .i64 a3, .int .i64 a4, .slice a5A a5l.length a5c, .int .i64 a6, .int .i64 a7, .slice a8A a8l.length a8c, .slice a9A a9l.length a9c, .slice a10A a10l.length a10c, .bool a11, .bool a12] w) (at1 : AtL gb [.int .i64 b0, .string b1, .string b2, .int .i64 b3, .int .i64 b4, .slice b5A b5l.length b5c, .int .i64 b6, .int .i64 b7, .slice b8A b8l.length b8c, .slice b9A b9l.length b9c, .slice b10A b10l.length b10c, .bool b11, .bool b12] w) (r_a5 : Row RvTerm 3 w w.heap.size a5A a5l) (r_a8 : Row RvTerm 3 w w.heap.size a8A a8l) (r_a9 : Row RvString 1 w w.heap.size a9A a9l) (r_a10 : Row RvInt64 1 w w.heap.size a10A a10l) (r_b5 : Row RvTerm 3 w w.heap.size b5A b5l) (r_b8 : Row RvTerm 3 w w.heap.size b8A b8l) (r_b9 : Row RvString 1 w w.heap.size b9A b9l) (r_b10 : Row RvInt64 1 w w.heap.size b10A b10l) : Calls Try.prog 18 #[.pointer (some ⟨ga, 0, none⟩), .pointer (some ⟨gb, 0, none⟩)] w fun e w' => e = .returned (.bool (smV (a0, a1, a2, a3, a4, a5l, a6, a7, a8l, a9l, a10l, a11, a12) (b0, b1, b2, b3, b4, b5l, b6, b7, b8l, b9l, b10l, b11, b12))) ∧ Below w.heap.size w w' := by
  simp only [totStatement] at h_a h_b
  have hl_a5 : a5l.length ≤ 1048576 := Nat.le_trans (totRow_len totTerm _) (by omega)
  have hl_a8 : a8l.length ≤ 1048576 := Nat.le_trans (totRow_len totTerm _) (by omega)
  have hl_a9 : a9l.length ≤ 1048576 := Nat.le_trans (totRow_len totString _) (by omega)
  have hl_a10 : a10l.length ≤ 1048576 := Nat.le_trans (totRow_len totInt64 _) (by omega)
  have hl_b5 : b5l.length ≤ 1048576 := Nat.le_trans (totRow_len totTerm _) (by omega)
  have hl_b8 : b8l.length ≤ 1048576 := Nat.le_trans (totRow_len totTerm _) (by omega)
  have hl_b9 : b9l.length ≤ 1048576 := Nat.le_trans (totRow_len totString _) (by omega)
  have hl_b10 : b10l.length ≤ 1048576 := Nat.le_trans (totRow_len totInt64 _) (by omega)
  clear h_a h_b
  have hv : smV (a0, a1, a2, a3, a4, a5l, a6, a7, a8l, a9l, a10l, a11, a12) (b0, b1, b2, b3, b4, b5l, b6, b7, b8l, b9l, b10l, b11, b12) = (decide (a0 = b0) && (decide (a1.toList = b1.toList) && (decide (a2.toList = b2.toList) && ((sLin a3 a4 a5l b3 b4 b5l) && ((sLin a6 a7 a8l b6 b7 b8l) && ((eqG kS a9l b9l) && ((eqG kI a10l b10l) && (decide (a11 = b11) && (decide (a12 = b12)))))))))) := rfl
  rw [hv]; clear hv
  rcases h1 : decide (a0 = b0) with _ | _
  case false =>
    refine (l07Same_0 a0 a1 a2 a3 a4 a5A a5c a5l a6 a7 a8A a8c a8l a9A a9c a9l a10A a10c a10l a11 a12 b0 b1 b2 b3 b4 b5A b5c b5l b6 b7 b8A b8c b8l b9A b9c b9l b10A b10c b10l b11 b12 ga gb w hl_a5 hl_a8 hl_a9 hl_a10 hl_b5 hl_b8 hl_b9 hl_b10 at0 at1 r_a5 r_a8 r_a9 r_a10 r_b5 r_b8 r_b9 r_b10 h1).mono ?_
    rintro e w' ⟨rfl, hb⟩
    exact ⟨ret_bool (by simp), hb⟩
  case true =>
    rcases h2 : decide (a1.toList = b1.toList) with _ | _
    case false =>
      refine (l07Same_1 a0 a1 a2 a3 a4 a5A a5c a5l a6 a7 a8A a8c a8l a9A a9c a9l a10A a10c a10l a11 a12 b0 b1 b2 b3 b4 b5A b5c b5l b6 b7 b8A b8c b8l b9A b9c b9l b10A b10c b10l b11 b12 ga gb w hl_a5 hl_a8 hl_a9 hl_a10 hl_b5 hl_b8 hl_b9 hl_b10 at0 at1 r_a5 r_a8 r_a9 r_a10 r_b5 r_b8 r_b9 r_b10 h1 h2).mono ?_
      rintro e w' ⟨rfl, hb⟩
      exact ⟨ret_bool (by simp), hb⟩
    case true =>
      rcases h3 : decide (a2.toList = b2.toList) with _ | _
      case false =>
        refine (l07Same_2 a0 a1 a2 a3 a4 a5A a5c a5l a6 a7 a8A a8c a8l a9A a9c a9l a10A a10c a10l a11 a12 b0 b1 b2 b3 b4 b5A b5c b5l b6 b7 b8A b8c b8l b9A b9c b9l b10A b10c b10l b11 b12 ga gb w hl_a5 hl_a8 hl_a9 hl_a10 hl_b5 hl_b8 hl_b9 hl_b10 at0 at1 r_a5 r_a8 r_a9 r_a10 r_b5 r_b8 r_b9 r_b10 h1 h2 h3).mono ?_
        rintro e w' ⟨rfl, hb⟩
        exact ⟨ret_bool (by simp), hb⟩
      case true =>
        rcases h8 : decide (a11 = b11) with _ | _
        case false =>
          refine (l07Same_3 a0 a1 a2 a3 a4 a5A a5c a5l a6 a7 a8A a8c a8l a9A a9c a9l a10A a10c a10l a11 a12 b0 b1 b2 b3 b4 b5A b5c b5l b6 b7 b8A b8c b8l b9A b9c b9l b10A b10c b10l b11 b12 ga gb w hl_a5 hl_a8 hl_a9 hl_a10 hl_b5 hl_b8 hl_b9 hl_b10 at0 at1 r_a5 r_a8 r_a9 r_a10 r_b5 r_b8 r_b9 r_b10 h1 h2 h3 h8).mono ?_
          rintro e w' ⟨rfl, hb⟩
          exact ⟨ret_bool (by simp), hb⟩
        case true =>
          rcases h9 : decide (a12 = b12) with _ | _
          case false =>
            refine (l07Same_4 a0 a1 a2 a3 a4 a5A a5c a5l a6 a7 a8A a8c a8l a9A a9c a9l a10A a10c a10l a11 a12 b0 b1 b2 b3 b4 b5A b5c b5l b6 b7 b8A b8c b8l b9A b9c b9l b10A b10c b10l b11 b12 ga gb w hl_a5 hl_a8 hl_a9 hl_a10 hl_b5 hl_b8 hl_b9 hl_b10 at0 at1 r_a5 r_a8 r_a9 r_a10 r_b5 r_b8 r_b9 r_b10 h1 h2 h3 h8 h9).mono ?_
            rintro e w' ⟨rfl, hb⟩
            exact ⟨ret_bool (by simp), hb⟩
          case true =>
            rcases h4 : (sLin a3 a4 a5l b3 b4 b5l) with _ | _
            case false =>
              refine (l07Same_5 a0 a1 a2 a3 a4 a5A a5c a5l a6 a7 a8A a8c a8l a9A a9c a9l a10A a10c a10l a11 a12 b0 b1 b2 b3 b4 b5A b5c b5l b6 b7 b8A b8c b8l b9A b9c b9l b10A b10c b10l b11 b12 ga gb w hl_a5 hl_a8 hl_a9 hl_a10 hl_b5 hl_b8 hl_b9 hl_b10 at0 at1 r_a5 r_a8 r_a9 r_a10 r_b5 r_b8 r_b9 r_b10 h1 h2 h3 h8 h9 h4).mono ?_
              rintro e w' ⟨rfl, hb⟩
              exact ⟨ret_bool (by simp), hb⟩
            case true =>
              rcases h5 : (sLin a6 a7 a8l b6 b7 b8l) with _ | _
              case false =>
                refine (l07Same_6 a0 a1 a2 a3 a4 a5A a5c a5l a6 a7 a8A a8c a8l a9A a9c a9l a10A a10c a10l a11 a12 b0 b1 b2 b3 b4 b5A b5c b5l b6 b7 b8A b8c b8l b9A b9c b9l b10A b10c b10l b11 b12 ga gb w hl_a5 hl_a8 hl_a9 hl_a10 hl_b5 hl_b8 hl_b9 hl_b10 at0 at1 r_a5 r_a8 r_a9 r_a10 r_b5 r_b8 r_b9 r_b10 h1 h2 h3 h8 h9 h4 h5).mono ?_
                rintro e w' ⟨rfl, hb⟩
                exact ⟨ret_bool (by simp), hb⟩
              case true =>
                rcases h7 : (eqG kI a10l b10l) with _ | _
                case false =>
                  refine (l07Same_7 a0 a1 a2 a3 a4 a5A a5c a5l a6 a7 a8A a8c a8l a9A a9c a9l a10A a10c a10l a11 a12 b0 b1 b2 b3 b4 b5A b5c b5l b6 b7 b8A b8c b8l b9A b9c b9l b10A b10c b10l b11 b12 ga gb w hl_a5 hl_a8 hl_a9 hl_a10 hl_b5 hl_b8 hl_b9 hl_b10 at0 at1 r_a5 r_a8 r_a9 r_a10 r_b5 r_b8 r_b9 r_b10 h1 h2 h3 h8 h9 h4 h5 h7).mono ?_
                  rintro e w' ⟨rfl, hb⟩
                  exact ⟨ret_bool (by simp), hb⟩
                case true =>
                  by_cases hln : a9l.length = b9l.length
                  case pos =>
                    refine (l07Same_9 a0 a1 a2 a3 a4 a5A a5c a5l a6 a7 a8A a8c a8l a9A a9c a9l a10A a10c a10l a11 a12 b0 b1 b2 b3 b4 b5A b5c b5l b6 b7 b8A b8c b8l b9A b9c b9l b10A b10c b10l b11 b12 ga gb w hl_a5 hl_a8 hl_a9 hl_a10 hl_b5 hl_b8 hl_b9 hl_b10 at0 at1 r_a5 r_a8 r_a9 r_a10 r_b5 r_b8 r_b9 r_b10 h1 h2 h3 h8 h9 h4 h5 h7 hln).mono ?_
                    rintro e w' ⟨rfl, hb⟩
                    exact ⟨ret_bool (by simp), hb⟩
                  case neg =>
                    refine (l07Same_8 a0 a1 a2 a3 a4 a5A a5c a5l a6 a7 a8A a8c a8l a9A a9c a9l a10A a10c a10l a11 a12 b0 b1 b2 b3 b4 b5A b5c b5l b6 b7 b8A b8c b8l b9A b9c b9l b10A b10c b10l b11 b12 ga gb w hl_a5 hl_a8 hl_a9 hl_a10 hl_b5 hl_b8 hl_b9 hl_b10 at0 at1 r_a5 r_a8 r_a9 r_a10 r_b5 r_b8 r_b9 r_b10 h1 h2 h3 h8 h9 h4 h5 h7 hln).mono ?_
                    rintro e w' ⟨rfl, hb⟩
                    exact ⟨ret_bool (by rw [← eqG_len (f := kS) hln]; simp), hb⟩
set_option maxRecDepth 100000 in
set_option maxHeartbeats 12800000 in
theorem specSame_any (a0 : Int) (a1 : ByteArray) (a2 : ByteArray) (a3 : Int) (a4 : Int) (a5A : Option Addr) (a5c : Nat) (a5l : List DTerm) (a6 : Int) (a7 : Int) (a8A : Option Addr) (a8c : Nat) (a8l : List DTerm) (a9A : Option Addr) (a9c : Nat) (a9l : List DString) (a10A : Option Addr) (a10c : Nat) (a10l : List DInt64) (a11 : Bool) (a12 : Bool) (b0 : Int) (b1 : ByteArray) (b2 : ByteArray) (b3 : Int) (b4 : Int) (b5A : Option Addr) (b5c : Nat) (b5l : List DTerm) (b6 : Int) (b7 : Int) (b8A : Option Addr) (b8c : Nat) (b8l : List DTerm) (b9A : Option Addr) (b9c : Nat) (b9l : List DString) (b10A : Option Addr) (b10c : Nat) (b10l : List DInt64) (b11 : Bool) (b12 : Bool) (w : World) (h_a : totStatement (a0, a1, a2, a3, a4, a5l, a6, a7, a8l, a9l, a10l, a11, a12) ≤ 1048576) (h_b : totStatement (b0, b1, b2, b3, b4, b5l, b6, b7, b8l, b9l, b10l, b11, b12) ≤ 1048576) (r_a5 : Row RvTerm 3 w w.heap.size a5A a5l) (r_a8 : Row RvTerm 3 w w.heap.size a8A a8l) (r_a9 : Row RvString 1 w w.heap.size a9A a9l) (r_a10 : Row RvInt64 1 w w.heap.size a10A a10l) (r_b5 : Row RvTerm 3 w w.heap.size b5A b5l) (r_b8 : Row RvTerm 3 w w.heap.size b8A b8l) (r_b9 : Row RvString 1 w w.heap.size b9A b9l) (r_b10 : Row RvInt64 1 w w.heap.size b10A b10l) : Calls Try.prog 7 #[.agg #[.int .i64 a0, .string a1, .string a2, .int .i64 a3, .int .i64 a4, .slice a5A a5l.length a5c, .int .i64 a6, .int .i64 a7, .slice a8A a8l.length a8c, .slice a9A a9l.length a9c, .slice a10A a10l.length a10c, .bool a11, .bool a12], .agg #[.int .i64 b0, .string b1, .string b2, .int .i64 b3, .int .i64 b4, .slice b5A b5l.length b5c, .int .i64 b6, .int .i64 b7, .slice b8A b8l.length b8c, .slice b9A b9l.length b9c, .slice b10A b10l.length b10c, .bool b11, .bool b12]] w fun e w' => e = .returned (.bool (smV (a0, a1, a2, a3, a4, a5l, a6, a7, a8l, a9l, a10l, a11, a12) (b0, b1, b2, b3, b4, b5l, b6, b7, b8l, b9l, b10l, b11, b12))) ∧ Below w.heap.size w w' := by
  go_enter Try.func7, Try.ntmps7
  go_wp2_with fail
  refine (l07Same_any a0 a1 a2 a3 a4 a5A a5c a5l a6 a7 a8A a8c a8l a9A a9c a9l a10A a10c a10l a11 a12 b0 b1 b2 b3 b4 b5A b5c b5l b6 b7 b8A b8c b8l b9A b9c b9l b10A b10c b10l b11 b12 _ _ _ h_a h_b ?_ ?_ ?_ ?_ ?_ ?_ ?_ ?_ ?_ ?_).mono ?_
  · exact (AtL.new w [.int .i64 a0, .string a1, .string a2, .int .i64 a3, .int .i64 a4, .slice a5A a5l.length a5c, .int .i64 a6, .int .i64 a7, .slice a8A a8l.length a8c, .slice a9A a9l.length a9c, .slice a10A a10l.length a10c, .bool a11, .bool a12] _).alloc _
  · exact AtL.newAt (by simp)
  · exact (Row.carry (w' := _) r_a5 (by repeat' (first | with_reducible assumption | with_reducible exact Below.refl _ _ | (with_reducible refine Below.setCell ?_ ?_ _) | (with_reducible refine Below.alloc ?_ ?_ _) | (with_reducible refine Below.drew ?_) | (with_reducible refine below_dr ?_ _) | (with_reducible refine Below.trans ?_ (Below.mono (by with_reducible assumption) ?_)) | omega | (simp; done) | (simp; omega))) (Nat.le_refl _)).more (by (try simp only [World.size_setCell]); (try simp only [World.size_drew]); (try simp only [World.size_alloc]); omega)
  · exact (Row.carry (w' := _) r_a8 (by repeat' (first | with_reducible assumption | with_reducible exact Below.refl _ _ | (with_reducible refine Below.setCell ?_ ?_ _) | (with_reducible refine Below.alloc ?_ ?_ _) | (with_reducible refine Below.drew ?_) | (with_reducible refine below_dr ?_ _) | (with_reducible refine Below.trans ?_ (Below.mono (by with_reducible assumption) ?_)) | omega | (simp; done) | (simp; omega))) (Nat.le_refl _)).more (by (try simp only [World.size_setCell]); (try simp only [World.size_drew]); (try simp only [World.size_alloc]); omega)
  · exact (Row.carry (w' := _) r_a9 (by repeat' (first | with_reducible assumption | with_reducible exact Below.refl _ _ | (with_reducible refine Below.setCell ?_ ?_ _) | (with_reducible refine Below.alloc ?_ ?_ _) | (with_reducible refine Below.drew ?_) | (with_reducible refine below_dr ?_ _) | (with_reducible refine Below.trans ?_ (Below.mono (by with_reducible assumption) ?_)) | omega | (simp; done) | (simp; omega))) (Nat.le_refl _)).more (by (try simp only [World.size_setCell]); (try simp only [World.size_drew]); (try simp only [World.size_alloc]); omega)
  · exact (Row.carry (w' := _) r_a10 (by repeat' (first | with_reducible assumption | with_reducible exact Below.refl _ _ | (with_reducible refine Below.setCell ?_ ?_ _) | (with_reducible refine Below.alloc ?_ ?_ _) | (with_reducible refine Below.drew ?_) | (with_reducible refine below_dr ?_ _) | (with_reducible refine Below.trans ?_ (Below.mono (by with_reducible assumption) ?_)) | omega | (simp; done) | (simp; omega))) (Nat.le_refl _)).more (by (try simp only [World.size_setCell]); (try simp only [World.size_drew]); (try simp only [World.size_alloc]); omega)
  · exact (Row.carry (w' := _) r_b5 (by repeat' (first | with_reducible assumption | with_reducible exact Below.refl _ _ | (with_reducible refine Below.setCell ?_ ?_ _) | (with_reducible refine Below.alloc ?_ ?_ _) | (with_reducible refine Below.drew ?_) | (with_reducible refine below_dr ?_ _) | (with_reducible refine Below.trans ?_ (Below.mono (by with_reducible assumption) ?_)) | omega | (simp; done) | (simp; omega))) (Nat.le_refl _)).more (by (try simp only [World.size_setCell]); (try simp only [World.size_drew]); (try simp only [World.size_alloc]); omega)
  · exact (Row.carry (w' := _) r_b8 (by repeat' (first | with_reducible assumption | with_reducible exact Below.refl _ _ | (with_reducible refine Below.setCell ?_ ?_ _) | (with_reducible refine Below.alloc ?_ ?_ _) | (with_reducible refine Below.drew ?_) | (with_reducible refine below_dr ?_ _) | (with_reducible refine Below.trans ?_ (Below.mono (by with_reducible assumption) ?_)) | omega | (simp; done) | (simp; omega))) (Nat.le_refl _)).more (by (try simp only [World.size_setCell]); (try simp only [World.size_drew]); (try simp only [World.size_alloc]); omega)
  · exact (Row.carry (w' := _) r_b9 (by repeat' (first | with_reducible assumption | with_reducible exact Below.refl _ _ | (with_reducible refine Below.setCell ?_ ?_ _) | (with_reducible refine Below.alloc ?_ ?_ _) | (with_reducible refine Below.drew ?_) | (with_reducible refine below_dr ?_ _) | (with_reducible refine Below.trans ?_ (Below.mono (by with_reducible assumption) ?_)) | omega | (simp; done) | (simp; omega))) (Nat.le_refl _)).more (by (try simp only [World.size_setCell]); (try simp only [World.size_drew]); (try simp only [World.size_alloc]); omega)
  · exact (Row.carry (w' := _) r_b10 (by repeat' (first | with_reducible assumption | with_reducible exact Below.refl _ _ | (with_reducible refine Below.setCell ?_ ?_ _) | (with_reducible refine Below.alloc ?_ ?_ _) | (with_reducible refine Below.drew ?_) | (with_reducible refine below_dr ?_ _) | (with_reducible refine Below.trans ?_ (Below.mono (by with_reducible assumption) ?_)) | omega | (simp; done) | (simp; omega))) (Nat.le_refl _)).more (by (try simp only [World.size_setCell]); (try simp only [World.size_drew]); (try simp only [World.size_alloc]); omega)
  rintro e w1 ⟨rfl, hb1⟩
  go_wp2_with fail
  go_ret
  exact ⟨rfl, by repeat' (first | with_reducible assumption | with_reducible exact Below.refl _ _ | (with_reducible refine Below.setCell ?_ ?_ _) | (with_reducible refine Below.alloc ?_ ?_ _) | (with_reducible refine Below.drew ?_) | (with_reducible refine below_dr ?_ _) | (with_reducible refine Below.trans ?_ (Below.mono (by with_reducible assumption) ?_)) | omega | (simp; done) | (simp; omega))⟩
end Go.Proofs.Ytimmopnckmdcjaa
