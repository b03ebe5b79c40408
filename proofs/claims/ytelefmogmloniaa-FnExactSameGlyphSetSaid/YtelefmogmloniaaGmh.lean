/- Walks: sets of glyphs that are the same, on the program's side. -/
import Derived.Test.YtelefmogmloniaaGme
namespace Go.Proofs.Ytelefmogmloniaa
open Go.RowKit
set_option linter.unusedVariables false
abbrev KG1 : Type := List (Int × Int × Int) × List (List UInt8 × Int × Int) × List UInt8
abbrev KG2 : Type := List DLoop × KG1
abbrev KG : Type := List UInt8 × Int × Int × KG2
instance decLoops : DecidableEq (List DLoop) := fun l m => inferInstanceAs (Decidable ((l : List (List (Int × Int × Bool))) = m))
instance decKA : DecidableEq (List UInt8 × Int × Int) := instDecidableEqProd
instance decKAs : DecidableEq (List (List UInt8 × Int × Int)) := instDecidableEqList
instance decKPs : DecidableEq (List (Int × Int × Int)) := instDecidableEqList
instance decKAB : DecidableEq (List (List UInt8 × Int × Int) × List UInt8) := instDecidableEqProd
instance decKG1 : DecidableEq KG1 := instDecidableEqProd
instance decKG2 : DecidableEq KG2 := instDecidableEqProd
instance decIK2 : DecidableEq (Int × KG2) := instDecidableEqProd
instance decIIK2 : DecidableEq (Int × Int × KG2) := instDecidableEqProd
instance decKG : DecidableEq KG := instDecidableEqProd
def kGlyph (a : DGlyph) : KG := (a.1.toList, a.2.1, a.2.2.1, a.2.2.2.1, a.2.2.2.2.1.map kKPart, a.2.2.2.2.2.1.map kKAnchor, a.2.2.2.2.2.2.toList)
theorem smG_iff {a b : DGlyph} : smG a b = true ↔ kGlyph a = kGlyph b := by
  obtain ⟨a0, a1, a2, a3, a4, a5, a6⟩ := a
  obtain ⟨b0, b1, b2, b3, b4, b5, b6⟩ := b
  simp [smG, kGlyph, oEq, eqG]
theorem smG_yes {a b : DGlyph} (h : smG a b = true) : kGlyph a = kGlyph b := smG_iff.1 h
theorem smG_no {a b : DGlyph} (h : smG a b = false) : ¬ kGlyph a = kGlyph b := fun e => by rw [smG_iff.2 e] at h; cases h
def smS : DGlyphSet → DGlyphSet → Bool := fun ⟨u, l⟩ ⟨v, m⟩ => decide (u = v) && eqG kGlyph l m
theorem glyphs_in {l : List DGlyph} {n : Nat} (h : totRow totGlyph l ≤ n) (i : Nat) (d : DGlyph) (hd : l[i]? = some d) : totGlyph d ≤ n := Nat.le_trans (totRow_at hd) h
set_option maxHeartbeats 6400000 in
theorem equalGlyphs_any (l m : List DGlyph) (A A' : Option Addr) (c c' : Nat) (w : World) (hl : totRow totGlyph l ≤ 1048576) (hm : totRow totGlyph m ≤ 1048576) (r : Row RvGlyph 7 w w.heap.size A l) (r' : Row RvGlyph 7 w w.heap.size A' m) :
    Calls Try.prog 69 #[.slice A l.length c, .slice A' m.length c', .func (.func 19) #[] #[]] w fun e w' => e = .returned (.bool (eqG kGlyph l m)) ∧ Below w.heap.size w w' := by
  have HI := Lib.hid (glyphs_in hl)
  have HI' := Lib.hid (glyphs_in hm)
  have hll := Nat.le_trans (totRow_len totGlyph l) hl
  have hml := Nat.le_trans (totRow_len totGlyph m) hm
  clear hl hm
  by_cases hln : l.length = m.length
  case neg =>
    have e0 : ((l.length : Int) != (m.length : Int)) = true := by rw [bne_iff_ne]; omega
    have H := Lib.hid (eqG_len (f := kGlyph) hln)
    clear hln
    go_enter Try.func69, Try.ntmps69
    go_wp2_with fail
    go_ret
    exact ⟨ret_bool H.out, by repeat' (first | with_reducible assumption | with_reducible exact Below.refl _ _ | (with_reducible refine Below.setCell ?_ ?_ _) | (with_reducible refine Below.alloc ?_ ?_ _) | (with_reducible refine Below.drew ?_) | (with_reducible refine below_dr ?_ _) | (with_reducible refine Below.trans ?_ (Below.mono (by with_reducible assumption) ?_)) | omega | (simp; done) | (simp; omega))⟩
  case pos =>
    obtain ⟨n, hn⟩ : ∃ n, n = l.length := ⟨_, rfl⟩
    have HL := Lib.hid hln
    rw [← hln, ← hn]
    rw [← hn] at hll
    have HN := Lib.hid hn
    have e0 : ((n : Int) != (n : Int)) = false := by simp
    clear hn hln hml
    go_enter Try.func69, Try.ntmps69
    go_wp2_with fail
    go_loopw [17] (fun i wr => ∃ k : Nat, k ≤ n ∧ i = .int .i64 k ∧ upG kGlyph l m k = true ∧ Below w.heap.size w wr) (fun i _ => n - (intOf i).toNat)
    case atStart => exact ⟨0, Nat.zero_le _, rfl, upG_zero, by repeat' (first | with_reducible assumption | with_reducible exact Below.refl _ _ | (with_reducible refine Below.setCell ?_ ?_ _) | (with_reducible refine Below.alloc ?_ ?_ _) | (with_reducible refine Below.drew ?_) | (with_reducible refine below_dr ?_ _) | (with_reducible refine Below.trans ?_ (Below.mono (by with_reducible assumption) ?_)) | omega | (simp; done) | (simp; omega))⟩
    case round =>
      obtain ⟨k, hk, rfl, hup, hbl⟩ := hrel
      have HUP := Lib.hid hup
      clear hup
      have zr := hbl.size
      by_cases hlt : k < n
      case pos =>
        obtain ⟨⟨x0, x1, x2, x3l, x4l, x5l, x6⟩, ha⟩ : ∃ a, l[k]? = some a := ⟨l[k]'(by have := HN.out; omega), List.getElem?_eq_getElem (by have := HN.out; omega)⟩
        obtain ⟨⟨y0, y1, y2, y3l, y4l, y5l, y6⟩, hb⟩ : ∃ a, m[k]? = some a := ⟨m[k]'(by have := HN.out; have := HL.out; omega), List.getElem?_eq_getElem (by have := HN.out; have := HL.out; omega)⟩
        obtain ⟨g, o, rowc, rfl, hg, hRc, hcc⟩ := (Row.carry (w' := wr) r hbl (Nat.le_refl _)).elem ha
        obtain ⟨x3A, x3c, x4A, x4c, x5A, x5c, rfl, u_x3, u_x4, u_x5⟩ := hRc
        have c0 : wr.cell? ⟨g, o + k * 7, none⟩ = some (.string x0) := hcc 0 _ rfl
        have c1 : wr.cell? ⟨g, o + k * 7 + 1, none⟩ = some (.int .i64 x1) := hcc 1 _ rfl
        have c2 : wr.cell? ⟨g, o + k * 7 + 2, none⟩ = some (.int .i64 x2) := hcc 2 _ rfl
        have c3 : wr.cell? ⟨g, o + k * 7 + 3, none⟩ = some (.slice x3A x3l.length x3c) := hcc 3 _ rfl
        have c4 : wr.cell? ⟨g, o + k * 7 + 4, none⟩ = some (.slice x4A x4l.length x4c) := hcc 4 _ rfl
        have c5 : wr.cell? ⟨g, o + k * 7 + 5, none⟩ = some (.slice x5A x5l.length x5c) := hcc 5 _ rfl
        have c6 : wr.cell? ⟨g, o + k * 7 + 6, none⟩ = some (.string x6) := hcc 6 _ rfl
        clear hcc
        obtain ⟨g', o', rowd, rfl, hg', hRd, hcd⟩ := (Row.carry (w' := wr) r' hbl (Nat.le_refl _)).elem hb
        obtain ⟨y3A, y3c, y4A, y4c, y5A, y5c, rfl, v_y3, v_y4, v_y5⟩ := hRd
        have d0 : wr.cell? ⟨g', o' + k * 7, none⟩ = some (.string y0) := hcd 0 _ rfl
        have d1 : wr.cell? ⟨g', o' + k * 7 + 1, none⟩ = some (.int .i64 y1) := hcd 1 _ rfl
        have d2 : wr.cell? ⟨g', o' + k * 7 + 2, none⟩ = some (.int .i64 y2) := hcd 2 _ rfl
        have d3 : wr.cell? ⟨g', o' + k * 7 + 3, none⟩ = some (.slice y3A y3l.length y3c) := hcd 3 _ rfl
        have d4 : wr.cell? ⟨g', o' + k * 7 + 4, none⟩ = some (.slice y4A y4l.length y4c) := hcd 4 _ rfl
        have d5 : wr.cell? ⟨g', o' + k * 7 + 5, none⟩ = some (.slice y5A y5l.length y5c) := hcd 5 _ rfl
        have d6 : wr.cell? ⟨g', o' + k * 7 + 6, none⟩ = some (.string y6) := hcd 6 _ rfl
        clear hcd
        have ti := HI.out k _ ha
        have ti' := HI'.out k _ hb
        have HA := Lib.hid ha
        have HB := Lib.hid hb
        clear ha hb
        have hgw : g < wr.heap.size := by omega
        have hgw' : g' < wr.heap.size := by omega
        have hki : (k : Int) < (n : Int) := by omega
        rcases hv : smG (x0, x1, x2, x3l, x4l, x5l, x6) (y0, y1, y2, y3l, y4l, y5l, y6) with _ | _
        case false =>
          have C := Lib.hid (fun w1 qx3 qx4 qx5 qy3 qy4 qy5 => implSameGlyph_any x0 x1 x2 x3A x3c x3l x4A x4c x4l x5A x5c x5l x6 y0 y1 y2 y3A y3c y3l y4A y4c y4l y5A y5c y5l y6 w1 ti ti' qx3 qx4 qx5 qy3 qy4 qy5)
          simp only [hv] at C
          have HV := Lib.hid hv
          clear hv r r' ti ti'
          go_wp2_with fail
          refine (C.out _ ?_ ?_ ?_ ?_ ?_ ?_).mono ?_
          · exact (Row.carry (w' := _) u_x3 (by first | (with_reducible exact Below.refl _ _) | skip; repeat' (first | with_reducible assumption | with_reducible exact Below.refl _ _ | (with_reducible refine Below.setCell ?_ ?_ _) | (with_reducible refine Below.alloc ?_ ?_ _) | (with_reducible refine Below.drew ?_) | (with_reducible refine below_dr ?_ _) | (with_reducible refine Below.trans ?_ (Below.mono (by with_reducible assumption) ?_)) | omega | (simp; done) | (simp; omega))) (by omega)).more (by (try simp only [World.size_setCell]); (try simp only [World.size_drew]); (try simp only [World.size_alloc]); omega)
          · exact (Row.carry (w' := _) u_x4 (by first | (with_reducible exact Below.refl _ _) | skip; repeat' (first | with_reducible assumption | with_reducible exact Below.refl _ _ | (with_reducible refine Below.setCell ?_ ?_ _) | (with_reducible refine Below.alloc ?_ ?_ _) | (with_reducible refine Below.drew ?_) | (with_reducible refine below_dr ?_ _) | (with_reducible refine Below.trans ?_ (Below.mono (by with_reducible assumption) ?_)) | omega | (simp; done) | (simp; omega))) (by omega)).more (by (try simp only [World.size_setCell]); (try simp only [World.size_drew]); (try simp only [World.size_alloc]); omega)
          · exact (Row.carry (w' := _) u_x5 (by first | (with_reducible exact Below.refl _ _) | skip; repeat' (first | with_reducible assumption | with_reducible exact Below.refl _ _ | (with_reducible refine Below.setCell ?_ ?_ _) | (with_reducible refine Below.alloc ?_ ?_ _) | (with_reducible refine Below.drew ?_) | (with_reducible refine below_dr ?_ _) | (with_reducible refine Below.trans ?_ (Below.mono (by with_reducible assumption) ?_)) | omega | (simp; done) | (simp; omega))) (by omega)).more (by (try simp only [World.size_setCell]); (try simp only [World.size_drew]); (try simp only [World.size_alloc]); omega)
          · exact (Row.carry (w' := _) v_y3 (by first | (with_reducible exact Below.refl _ _) | skip; repeat' (first | with_reducible assumption | with_reducible exact Below.refl _ _ | (with_reducible refine Below.setCell ?_ ?_ _) | (with_reducible refine Below.alloc ?_ ?_ _) | (with_reducible refine Below.drew ?_) | (with_reducible refine below_dr ?_ _) | (with_reducible refine Below.trans ?_ (Below.mono (by with_reducible assumption) ?_)) | omega | (simp; done) | (simp; omega))) (by omega)).more (by (try simp only [World.size_setCell]); (try simp only [World.size_drew]); (try simp only [World.size_alloc]); omega)
          · exact (Row.carry (w' := _) v_y4 (by first | (with_reducible exact Below.refl _ _) | skip; repeat' (first | with_reducible assumption | with_reducible exact Below.refl _ _ | (with_reducible refine Below.setCell ?_ ?_ _) | (with_reducible refine Below.alloc ?_ ?_ _) | (with_reducible refine Below.drew ?_) | (with_reducible refine below_dr ?_ _) | (with_reducible refine Below.trans ?_ (Below.mono (by with_reducible assumption) ?_)) | omega | (simp; done) | (simp; omega))) (by omega)).more (by (try simp only [World.size_setCell]); (try simp only [World.size_drew]); (try simp only [World.size_alloc]); omega)
          · exact (Row.carry (w' := _) v_y5 (by first | (with_reducible exact Below.refl _ _) | skip; repeat' (first | with_reducible assumption | with_reducible exact Below.refl _ _ | (with_reducible refine Below.setCell ?_ ?_ _) | (with_reducible refine Below.alloc ?_ ?_ _) | (with_reducible refine Below.drew ?_) | (with_reducible refine below_dr ?_ _) | (with_reducible refine Below.trans ?_ (Below.mono (by with_reducible assumption) ?_)) | omega | (simp; done) | (simp; omega))) (by omega)).more (by (try simp only [World.size_setCell]); (try simp only [World.size_drew]); (try simp only [World.size_alloc]); omega)
          rintro e w1 ⟨rfl, hb⟩
          go_wp2_with fail
          go_ret
          exact ⟨ret_bool (eqG_no HA.out HB.out (smG_no HV.out)), by repeat' (first | with_reducible assumption | with_reducible exact Below.refl _ _ | (with_reducible refine Below.setCell ?_ ?_ _) | (with_reducible refine Below.alloc ?_ ?_ _) | (with_reducible refine Below.drew ?_) | (with_reducible refine below_dr ?_ _) | (with_reducible refine Below.trans ?_ (Below.mono (by with_reducible assumption) ?_)) | omega | (simp; done) | (simp; omega))⟩
        case true =>
          have C := Lib.hid (fun w1 qx3 qx4 qx5 qy3 qy4 qy5 => implSameGlyph_any x0 x1 x2 x3A x3c x3l x4A x4c x4l x5A x5c x5l x6 y0 y1 y2 y3A y3c y3l y4A y4c y4l y5A y5c y5l y6 w1 ti ti' qx3 qx4 qx5 qy3 qy4 qy5)
          simp only [hv] at C
          have HV := Lib.hid hv
          clear hv r r' ti ti'
          go_wp2_with fail
          refine (C.out _ ?_ ?_ ?_ ?_ ?_ ?_).mono ?_
          · exact (Row.carry (w' := _) u_x3 (by first | (with_reducible exact Below.refl _ _) | skip; repeat' (first | with_reducible assumption | with_reducible exact Below.refl _ _ | (with_reducible refine Below.setCell ?_ ?_ _) | (with_reducible refine Below.alloc ?_ ?_ _) | (with_reducible refine Below.drew ?_) | (with_reducible refine below_dr ?_ _) | (with_reducible refine Below.trans ?_ (Below.mono (by with_reducible assumption) ?_)) | omega | (simp; done) | (simp; omega))) (by omega)).more (by (try simp only [World.size_setCell]); (try simp only [World.size_drew]); (try simp only [World.size_alloc]); omega)
          · exact (Row.carry (w' := _) u_x4 (by first | (with_reducible exact Below.refl _ _) | skip; repeat' (first | with_reducible assumption | with_reducible exact Below.refl _ _ | (with_reducible refine Below.setCell ?_ ?_ _) | (with_reducible refine Below.alloc ?_ ?_ _) | (with_reducible refine Below.drew ?_) | (with_reducible refine below_dr ?_ _) | (with_reducible refine Below.trans ?_ (Below.mono (by with_reducible assumption) ?_)) | omega | (simp; done) | (simp; omega))) (by omega)).more (by (try simp only [World.size_setCell]); (try simp only [World.size_drew]); (try simp only [World.size_alloc]); omega)
          · exact (Row.carry (w' := _) u_x5 (by first | (with_reducible exact Below.refl _ _) | skip; repeat' (first | with_reducible assumption | with_reducible exact Below.refl _ _ | (with_reducible refine Below.setCell ?_ ?_ _) | (with_reducible refine Below.alloc ?_ ?_ _) | (with_reducible refine Below.drew ?_) | (with_reducible refine below_dr ?_ _) | (with_reducible refine Below.trans ?_ (Below.mono (by with_reducible assumption) ?_)) | omega | (simp; done) | (simp; omega))) (by omega)).more (by (try simp only [World.size_setCell]); (try simp only [World.size_drew]); (try simp only [World.size_alloc]); omega)
          · exact (Row.carry (w' := _) v_y3 (by first | (with_reducible exact Below.refl _ _) | skip; repeat' (first | with_reducible assumption | with_reducible exact Below.refl _ _ | (with_reducible refine Below.setCell ?_ ?_ _) | (with_reducible refine Below.alloc ?_ ?_ _) | (with_reducible refine Below.drew ?_) | (with_reducible refine below_dr ?_ _) | (with_reducible refine Below.trans ?_ (Below.mono (by with_reducible assumption) ?_)) | omega | (simp; done) | (simp; omega))) (by omega)).more (by (try simp only [World.size_setCell]); (try simp only [World.size_drew]); (try simp only [World.size_alloc]); omega)
          · exact (Row.carry (w' := _) v_y4 (by first | (with_reducible exact Below.refl _ _) | skip; repeat' (first | with_reducible assumption | with_reducible exact Below.refl _ _ | (with_reducible refine Below.setCell ?_ ?_ _) | (with_reducible refine Below.alloc ?_ ?_ _) | (with_reducible refine Below.drew ?_) | (with_reducible refine below_dr ?_ _) | (with_reducible refine Below.trans ?_ (Below.mono (by with_reducible assumption) ?_)) | omega | (simp; done) | (simp; omega))) (by omega)).more (by (try simp only [World.size_setCell]); (try simp only [World.size_drew]); (try simp only [World.size_alloc]); omega)
          · exact (Row.carry (w' := _) v_y5 (by first | (with_reducible exact Below.refl _ _) | skip; repeat' (first | with_reducible assumption | with_reducible exact Below.refl _ _ | (with_reducible refine Below.setCell ?_ ?_ _) | (with_reducible refine Below.alloc ?_ ?_ _) | (with_reducible refine Below.drew ?_) | (with_reducible refine below_dr ?_ _) | (with_reducible refine Below.trans ?_ (Below.mono (by with_reducible assumption) ?_)) | omega | (simp; done) | (simp; omega))) (by omega)).more (by (try simp only [World.size_setCell]); (try simp only [World.size_drew]); (try simp only [World.size_alloc]); omega)
          rintro e w1 ⟨rfl, hb⟩
          go_wp2_with fail
          go_roundw
          case rel => exact ⟨k + 1, by omega, by go_num, upG_succ HUP.out HA.out HB.out (smG_yes HV.out), by repeat' (first | with_reducible assumption | with_reducible exact Below.refl _ _ | (with_reducible refine Below.setCell ?_ ?_ _) | (with_reducible refine Below.alloc ?_ ?_ _) | (with_reducible refine Below.drew ?_) | (with_reducible refine below_dr ?_ _) | (with_reducible refine Below.trans ?_ (Below.mono (by with_reducible assumption) ?_)) | omega | (simp; done) | (simp; omega))⟩
          case measure => simp [intOf]; omega
      case neg =>
        obtain rfl : k = n := by omega
        go_wp2_with fail
        go_ret
        exact ⟨ret_bool (eqG_yes HL.out (HN.out ▸ HUP.out)), hbl⟩
set_option maxHeartbeats 3200000 in
theorem implSameGlyphSet_any (a0 : Int) (a1A : Option Addr) (a1c : Nat) (a1l : List DGlyph) (b0 : Int) (b1A : Option Addr) (b1c : Nat) (b1l : List DGlyph) (w : World) (h_a : totGlyphSet (a0, a1l) ≤ 1048576) (h_b : totGlyphSet (b0, b1l) ≤ 1048576) (r_a1 : Row RvGlyph 7 w w.heap.size a1A a1l) (r_b1 : Row RvGlyph 7 w w.heap.size b1A b1l) :
    Calls Try.prog 23 #[.agg #[.int .i64 a0, .slice a1A a1l.length a1c], .agg #[.int .i64 b0, .slice b1A b1l.length b1c]] w fun e w' => e = .returned (.bool (smS (a0, a1l) (b0, b1l))) ∧ Below w.heap.size w w' := by
  have C := Lib.hid (fun w1 r r' => equalGlyphs_any a1l b1l a1A b1A a1c b1c w1 h_a h_b r r')
  have hv : smS (a0, a1l) (b0, b1l) = (decide (a0 = b0) && eqG kGlyph a1l b1l) := rfl
  rw [hv]; clear hv
  generalize eqG kGlyph a1l b1l = v at C ⊢
  have F := beq_dec a0 b0
  generalize decide (a0 = b0) = u at F ⊢
  clear h_a h_b
  cases u
  case false =>
    go_enter Try.func23, Try.ntmps23
    go_wp2_with fail
    go_ret
    exact ⟨rfl, by repeat' (first | with_reducible assumption | with_reducible exact Below.refl _ _ | (with_reducible refine Below.setCell ?_ ?_ _) | (with_reducible refine Below.alloc ?_ ?_ _) | (with_reducible refine Below.drew ?_) | (with_reducible refine below_dr ?_ _) | (with_reducible refine Below.trans ?_ (Below.mono (by with_reducible assumption) ?_)) | omega | (simp; done) | (simp; omega))⟩
  case true =>
    go_enter Try.func23, Try.ntmps23
    go_wp2_with fail
    refine (C.out _ ?_ ?_).mono ?_
    · exact (Row.carry (w' := _) r_a1 (by repeat' (first | with_reducible assumption | with_reducible exact Below.refl _ _ | (with_reducible refine Below.setCell ?_ ?_ _) | (with_reducible refine Below.alloc ?_ ?_ _) | (with_reducible refine Below.drew ?_) | (with_reducible refine below_dr ?_ _) | (with_reducible refine Below.trans ?_ (Below.mono (by with_reducible assumption) ?_)) | omega | (simp; done) | (simp; omega))) (Nat.le_refl _)).more (by (try simp only [World.size_setCell]); (try simp only [World.size_drew]); (try simp only [World.size_alloc]); omega)
    · exact (Row.carry (w' := _) r_b1 (by repeat' (first | with_reducible assumption | with_reducible exact Below.refl _ _ | (with_reducible refine Below.setCell ?_ ?_ _) | (with_reducible refine Below.alloc ?_ ?_ _) | (with_reducible refine Below.drew ?_) | (with_reducible refine below_dr ?_ _) | (with_reducible refine Below.trans ?_ (Below.mono (by with_reducible assumption) ?_)) | omega | (simp; done) | (simp; omega))) (Nat.le_refl _)).more (by (try simp only [World.size_setCell]); (try simp only [World.size_drew]); (try simp only [World.size_alloc]); omega)
    rintro e w1 ⟨rfl, hb⟩
    go_wp2_with fail
    go_ret
    exact ⟨by cases v <;> rfl, by repeat' (first | with_reducible assumption | with_reducible exact Below.refl _ _ | (with_reducible refine Below.setCell ?_ ?_ _) | (with_reducible refine Below.alloc ?_ ?_ _) | (with_reducible refine Below.drew ?_) | (with_reducible refine below_dr ?_ _) | (with_reducible refine Below.trans ?_ (Below.mono (by with_reducible assumption) ?_)) | omega | (simp; done) | (simp; omega))⟩
end Go.Proofs.Ytelefmogmloniaa
