/- Walks: the point with a text form, on both sides. -/
import Derived.Test.YtiljdnfhojpgnaaDoorTx
import Derived.Test.YtiljdnfhojpgnaaDoorRp
import Derived.Test.YtiljdnfhojpgnaaDoorSps
import Derived.Test.YtiljdnfhojpgnaaDoorWRe
namespace Go.Proofs.YtiljdnfhojpgnaaDoor
open Go.RowKit

def ptR : Option (Int × Int) → Value
  | some (a, b) => .tuple #[.agg #[.int .i64 a, .int .i64 b], .bool true]
  | none => .tuple #[.agg #[.int .i64 0, .int .i64 0], .bool false]
theorem ret_ptn {o : Option (Int × Int)} (h : o = none) : Ending.returned (.tuple #[.agg #[.int .i64 0, .int .i64 0], .bool false]) = .returned (ptR o) := by rw [h]; rfl
theorem ret_pty {o : Option (Int × Int)} {a b : Int} (h : o = some (a, b)) : Ending.returned (.tuple #[.agg #[.int .i64 a, .int .i64 b], .bool true]) = .returned (ptR o) := by rw [h]; rfl
theorem st2 {g : Nat} {a b x y : Value} {wx : World} (h0 : wx.cell? ⟨g, 0, none⟩ = some x) (h1 : wx.cell? ⟨g, 1, none⟩ = some y) : ((wx.setCell ⟨g, 0, none⟩ a).setCell ⟨g, 1, none⟩ b).cell? ⟨g, 0, none⟩ = some a ∧ ((wx.setCell ⟨g, 0, none⟩ a).setCell ⟨g, 1, none⟩ b).cell? ⟨g, 1, none⟩ = some b := by
  constructor
  · rw [World.cell?_setCell_other _ _ _ _ (by simp)]
    exact World.cell?_setCell_same _ _ _ h0
  · refine World.cell?_setCell_same _ _ _ (u := y) ?_
    rw [World.cell?_setCell_other _ _ _ _ (by simp)]; exact h1
theorem st2a {g : Nat} {a b x y : Value} {wx : World} (o : Obj) (hl : g < wx.heap.size) (h0 : wx.cell? ⟨g, 0, none⟩ = some x) (h1 : wx.cell? ⟨g, 1, none⟩ = some y) : (((wx.setCell ⟨g, 0, none⟩ a).setCell ⟨g, 1, none⟩ b).alloc o).cell? ⟨g, 0, none⟩ = some a ∧ (((wx.setCell ⟨g, 0, none⟩ a).setCell ⟨g, 1, none⟩ b).alloc o).cell? ⟨g, 1, none⟩ = some b :=
  ⟨(World.cell?_alloc_lt _ o ⟨g, 0, none⟩ (by simpa using hl)).trans (st2 h0 h1).1, (World.cell?_alloc_lt _ o ⟨g, 1, none⟩ (by simpa using hl)).trans (st2 h0 h1).2⟩
theorem rd_yes {s : ByteArray} {n : Int} (h : numL s.data.toList = some n) (w : World) (hs : s.size ≤ 1048576) :
    Calls Tryd.prog 25 #[.string s] w fun e w' => e = .returned (.tuple #[.int .i64 n, .bool true]) ∧ Below w.heap.size w w' := by
  have := specReadDecimal_any s w hs; rw [h] at this; exact this
theorem rd_no {s : ByteArray} (h : numL s.data.toList = none) (w : World) (hs : s.size ≤ 1048576) :
    Calls Tryd.prog 25 #[.string s] w fun e w' => e = .returned (.tuple #[.int .i64 0, .bool false]) ∧ Below w.heap.size w w' := by
  have := specReadDecimal_any s w hs; rw [h] at this; exact this
theorem two_of {P : List ByteArray} (h : P.length = 2) : ∃ p q, P = [p, q] := by
  match P, h with
  | [p, q], _ => exact ⟨p, q, rfl⟩
set_option maxRecDepth 100000 in
set_option maxHeartbeats 3200000 in
theorem specReadPt_any (s : ByteArray) (w : World) (hs : s.size ≤ 1048576) :
    Calls Tryd.prog 9 #[.string s] w fun e w' => e = .returned (ptR (ptA s.data.toList)) ∧ Below w.heap.size w w' := by
  have HP := partsc_split s 44
  have CS := Lib.hid (fun w => l01Split_any s 44 w hs)
  have hpl := partsc_len s 44
  generalize partsc s 44 = P at HP CS hpl
  by_cases hn : P.length = 2
  · obtain ⟨p, q, rfl⟩ := two_of hn
    have hA := ptA_two (show splitL 44 s.data.toList = [p.data.toList, q.data.toList] by rw [← HP]; rfl)
    have hp : p.size ≤ 1048576 := by
      have := splitL_le 44 s.data.toList p.data.toList (by rw [← HP]; simp)
      rw [len_list, len_list] at this; omega
    have hq : q.size ≤ 1048576 := by
      have := splitL_le 44 s.data.toList q.data.toList (by rw [← HP]; simp)
      rw [len_list, len_list] at this; omega
    rw [hA]
    clear hA HP hn hpl
    rcases h1 : numL p.data.toList with _ | a
    · rcases h2 : numL q.data.toList with _ | b
      · have R1 := Lib.hid (fun w => rd_no h1 w hp)
        have R2 := Lib.hid (fun w => rd_no h2 w hq)
        have X := Lib.hid (comb_n1 (y := q.data.toList) h1)
        clear h1 h2
        go_enter Tryd.func9, Tryd.ntmps9
        go_wp2_with fail
        refine (CS.out _).mono ?_
        rintro e w1 ⟨A, cp, rfl, hown, hbw1⟩
        obtain ⟨g, cap, hv, _, hlt⟩ := hown.form (by simp)
        obtain rfl : A = some ⟨g, 0, none⟩ := by injection hv
        have hcell := hown.cells (g := g) rfl
        have e0 : w1.cell? ⟨g, 0, none⟩ = some (.string p) := hcell 0 _ rfl
        have e1 : w1.cell? ⟨g, 1, none⟩ = some (.string q) := hcell 1 _ rfl
        clear hcell hown
        have g1 : Below w.heap.size w w1 := by repeat' (first | with_reducible assumption | with_reducible exact Below.refl _ _ | (with_reducible refine Below.setCell ?_ ?_ _) | (with_reducible refine Below.alloc ?_ ?_ _) | (with_reducible refine Below.drew ?_) | (with_reducible refine below_dr ?_ _) | (with_reducible refine Below.trans ?_ (Below.mono (by with_reducible assumption) ?_)) | omega | (simp; done) | (simp; omega))
        obtain ⟨hcw1, hfw1⟩ := bcell hbw1
        have hzw1 := hbw1.size
        (try simp only [World.size_alloc] at hcw1 hfw1 hzw1)
        have rw10 : w1.cell? ⟨w.heap.size, 0, none⟩ = some (.int .i64 0) := (hcw1 _ _ (by omega)).trans (by first | assumption | (simp [go_sem]; done) | (simp [go_sem, *]; done))
        have rfw10 : w1.frozen? ⟨w.heap.size, 0, none⟩ = false := (hfw1 _ _ (by omega)).trans (by first | assumption | (simp [go_sem]; done) | (simp [go_sem, *]; done))
        have rw11 : w1.cell? ⟨w.heap.size, 1, none⟩ = some (.int .i64 0) := (hcw1 _ _ (by omega)).trans (by first | assumption | (simp [go_sem]; done) | (simp [go_sem, *]; done))
        have rfw11 : w1.frozen? ⟨w.heap.size, 1, none⟩ = false := (hfw1 _ _ (by omega)).trans (by first | assumption | (simp [go_sem]; done) | (simp [go_sem, *]; done))
        have rw1z : w.heap.size < w1.heap.size := by omega
        clear hcw1 hfw1 hzw1
        go_wp2_with fail
        refine (R1.out _).mono ?_
        rintro e w2 ⟨rfl, hbw2⟩
        have g2 : Below w.heap.size w w2 := by repeat' (first | with_reducible assumption | with_reducible exact Below.refl _ _ | (with_reducible refine Below.setCell ?_ ?_ _) | (with_reducible refine Below.alloc ?_ ?_ _) | (with_reducible refine Below.drew ?_) | (with_reducible refine below_dr ?_ _) | (with_reducible refine Below.trans ?_ (Below.mono (by with_reducible assumption) ?_)) | omega | (simp; done) | (simp; omega))
        obtain ⟨hcw2, hfw2⟩ := bcell hbw2
        have hzw2 := hbw2.size
        (try simp only [World.size_alloc] at hcw2 hfw2 hzw2)
        have rw20 : w2.cell? ⟨w.heap.size, 0, none⟩ = some (.int .i64 0) := (hcw2 _ _ (by omega)).trans (by first | assumption | (simp [go_sem]; done) | (simp [go_sem, *]; done))
        have rfw20 : w2.frozen? ⟨w.heap.size, 0, none⟩ = false := (hfw2 _ _ (by omega)).trans (by first | assumption | (simp [go_sem]; done) | (simp [go_sem, *]; done))
        have rw21 : w2.cell? ⟨w.heap.size, 1, none⟩ = some (.int .i64 0) := (hcw2 _ _ (by omega)).trans (by first | assumption | (simp [go_sem]; done) | (simp [go_sem, *]; done))
        have rfw21 : w2.frozen? ⟨w.heap.size, 1, none⟩ = false := (hfw2 _ _ (by omega)).trans (by first | assumption | (simp [go_sem]; done) | (simp [go_sem, *]; done))
        have rw2z : w.heap.size < w2.heap.size := by omega
        have pw20 : w2.cell? ⟨g, 0, none⟩ = some (.string p) := (hcw2 _ _ (by omega)).trans (by first | assumption | (simp [go_sem]; done) | (simp [go_sem, *]; done))
        have pw21 : w2.cell? ⟨g, 1, none⟩ = some (.string q) := (hcw2 _ _ (by omega)).trans (by first | assumption | (simp [go_sem]; done) | (simp [go_sem, *]; done))
        have pw2z : g < w2.heap.size := by omega
        clear hcw2 hfw2 hzw2
        go_wp2_with fail
        refine (R2.out _).mono ?_
        rintro e w3 ⟨rfl, hbw3⟩
        have g3 : Below w.heap.size w w3 := by repeat' (first | with_reducible assumption | with_reducible exact Below.refl _ _ | (with_reducible refine Below.setCell ?_ ?_ _) | (with_reducible refine Below.alloc ?_ ?_ _) | (with_reducible refine Below.drew ?_) | (with_reducible refine below_dr ?_ _) | (with_reducible refine Below.trans ?_ (Below.mono (by with_reducible assumption) ?_)) | omega | (simp; done) | (simp; omega))
        obtain ⟨hcw3, hfw3⟩ := bcell hbw3
        have hzw3 := hbw3.size
        (try simp only [World.size_alloc] at hcw3 hfw3 hzw3)
        have rw30 : w3.cell? ⟨w.heap.size, 0, none⟩ = some (.int .i64 0) := (hcw3 _ _ (by omega)).trans (by first | assumption | (simp [go_sem]; done) | (simp [go_sem, *]; done))
        have rfw30 : w3.frozen? ⟨w.heap.size, 0, none⟩ = false := (hfw3 _ _ (by omega)).trans (by first | assumption | (simp [go_sem]; done) | (simp [go_sem, *]; done))
        have rw31 : w3.cell? ⟨w.heap.size, 1, none⟩ = some (.int .i64 0) := (hcw3 _ _ (by omega)).trans (by first | assumption | (simp [go_sem]; done) | (simp [go_sem, *]; done))
        have rfw31 : w3.frozen? ⟨w.heap.size, 1, none⟩ = false := (hfw3 _ _ (by omega)).trans (by first | assumption | (simp [go_sem]; done) | (simp [go_sem, *]; done))
        have rw3z : w.heap.size < w3.heap.size := by omega
        clear hcw3 hfw3 hzw3
        go_wp2
        obtain ⟨r0, r1⟩ := st2a (g := w.heap.size) (a := .int .i64 0) (b := .int .i64 0) (.cells #[.int .i64 0, .int .i64 0] 25) rw3z rw30 rw31
        refine bodyPost_ret (v := .tuple #[.agg #[.int .i64 0, .int .i64 0], .bool false]) (by simp [results, Tryd.results9, go_sem, r0, r1]) rfl ⟨ret_ptn X.out, ?_⟩
        repeat' (first | with_reducible assumption | with_reducible exact Below.refl _ _ | (with_reducible refine Below.setCell ?_ ?_ _) | (with_reducible refine Below.alloc ?_ ?_ _) | (with_reducible refine Below.drew ?_) | (with_reducible refine below_dr ?_ _) | (with_reducible refine Below.trans ?_ (Below.mono (by with_reducible assumption) ?_)) | omega | (simp; done) | (simp; omega))
      · have R1 := Lib.hid (fun w => rd_no h1 w hp)
        have R2 := Lib.hid (fun w => rd_yes h2 w hq)
        have X := Lib.hid (comb_n1 (y := q.data.toList) h1)
        clear h1 h2
        go_enter Tryd.func9, Tryd.ntmps9
        go_wp2_with fail
        refine (CS.out _).mono ?_
        rintro e w1 ⟨A, cp, rfl, hown, hbw1⟩
        obtain ⟨g, cap, hv, _, hlt⟩ := hown.form (by simp)
        obtain rfl : A = some ⟨g, 0, none⟩ := by injection hv
        have hcell := hown.cells (g := g) rfl
        have e0 : w1.cell? ⟨g, 0, none⟩ = some (.string p) := hcell 0 _ rfl
        have e1 : w1.cell? ⟨g, 1, none⟩ = some (.string q) := hcell 1 _ rfl
        clear hcell hown
        have g1 : Below w.heap.size w w1 := by repeat' (first | with_reducible assumption | with_reducible exact Below.refl _ _ | (with_reducible refine Below.setCell ?_ ?_ _) | (with_reducible refine Below.alloc ?_ ?_ _) | (with_reducible refine Below.drew ?_) | (with_reducible refine below_dr ?_ _) | (with_reducible refine Below.trans ?_ (Below.mono (by with_reducible assumption) ?_)) | omega | (simp; done) | (simp; omega))
        obtain ⟨hcw1, hfw1⟩ := bcell hbw1
        have hzw1 := hbw1.size
        (try simp only [World.size_alloc] at hcw1 hfw1 hzw1)
        have rw10 : w1.cell? ⟨w.heap.size, 0, none⟩ = some (.int .i64 0) := (hcw1 _ _ (by omega)).trans (by first | assumption | (simp [go_sem]; done) | (simp [go_sem, *]; done))
        have rfw10 : w1.frozen? ⟨w.heap.size, 0, none⟩ = false := (hfw1 _ _ (by omega)).trans (by first | assumption | (simp [go_sem]; done) | (simp [go_sem, *]; done))
        have rw11 : w1.cell? ⟨w.heap.size, 1, none⟩ = some (.int .i64 0) := (hcw1 _ _ (by omega)).trans (by first | assumption | (simp [go_sem]; done) | (simp [go_sem, *]; done))
        have rfw11 : w1.frozen? ⟨w.heap.size, 1, none⟩ = false := (hfw1 _ _ (by omega)).trans (by first | assumption | (simp [go_sem]; done) | (simp [go_sem, *]; done))
        have rw1z : w.heap.size < w1.heap.size := by omega
        clear hcw1 hfw1 hzw1
        go_wp2_with fail
        refine (R1.out _).mono ?_
        rintro e w2 ⟨rfl, hbw2⟩
        have g2 : Below w.heap.size w w2 := by repeat' (first | with_reducible assumption | with_reducible exact Below.refl _ _ | (with_reducible refine Below.setCell ?_ ?_ _) | (with_reducible refine Below.alloc ?_ ?_ _) | (with_reducible refine Below.drew ?_) | (with_reducible refine below_dr ?_ _) | (with_reducible refine Below.trans ?_ (Below.mono (by with_reducible assumption) ?_)) | omega | (simp; done) | (simp; omega))
        obtain ⟨hcw2, hfw2⟩ := bcell hbw2
        have hzw2 := hbw2.size
        (try simp only [World.size_alloc] at hcw2 hfw2 hzw2)
        have rw20 : w2.cell? ⟨w.heap.size, 0, none⟩ = some (.int .i64 0) := (hcw2 _ _ (by omega)).trans (by first | assumption | (simp [go_sem]; done) | (simp [go_sem, *]; done))
        have rfw20 : w2.frozen? ⟨w.heap.size, 0, none⟩ = false := (hfw2 _ _ (by omega)).trans (by first | assumption | (simp [go_sem]; done) | (simp [go_sem, *]; done))
        have rw21 : w2.cell? ⟨w.heap.size, 1, none⟩ = some (.int .i64 0) := (hcw2 _ _ (by omega)).trans (by first | assumption | (simp [go_sem]; done) | (simp [go_sem, *]; done))
        have rfw21 : w2.frozen? ⟨w.heap.size, 1, none⟩ = false := (hfw2 _ _ (by omega)).trans (by first | assumption | (simp [go_sem]; done) | (simp [go_sem, *]; done))
        have rw2z : w.heap.size < w2.heap.size := by omega
        have pw20 : w2.cell? ⟨g, 0, none⟩ = some (.string p) := (hcw2 _ _ (by omega)).trans (by first | assumption | (simp [go_sem]; done) | (simp [go_sem, *]; done))
        have pw21 : w2.cell? ⟨g, 1, none⟩ = some (.string q) := (hcw2 _ _ (by omega)).trans (by first | assumption | (simp [go_sem]; done) | (simp [go_sem, *]; done))
        have pw2z : g < w2.heap.size := by omega
        clear hcw2 hfw2 hzw2
        go_wp2_with fail
        refine (R2.out _).mono ?_
        rintro e w3 ⟨rfl, hbw3⟩
        have g3 : Below w.heap.size w w3 := by repeat' (first | with_reducible assumption | with_reducible exact Below.refl _ _ | (with_reducible refine Below.setCell ?_ ?_ _) | (with_reducible refine Below.alloc ?_ ?_ _) | (with_reducible refine Below.drew ?_) | (with_reducible refine below_dr ?_ _) | (with_reducible refine Below.trans ?_ (Below.mono (by with_reducible assumption) ?_)) | omega | (simp; done) | (simp; omega))
        obtain ⟨hcw3, hfw3⟩ := bcell hbw3
        have hzw3 := hbw3.size
        (try simp only [World.size_alloc] at hcw3 hfw3 hzw3)
        have rw30 : w3.cell? ⟨w.heap.size, 0, none⟩ = some (.int .i64 0) := (hcw3 _ _ (by omega)).trans (by first | assumption | (simp [go_sem]; done) | (simp [go_sem, *]; done))
        have rfw30 : w3.frozen? ⟨w.heap.size, 0, none⟩ = false := (hfw3 _ _ (by omega)).trans (by first | assumption | (simp [go_sem]; done) | (simp [go_sem, *]; done))
        have rw31 : w3.cell? ⟨w.heap.size, 1, none⟩ = some (.int .i64 0) := (hcw3 _ _ (by omega)).trans (by first | assumption | (simp [go_sem]; done) | (simp [go_sem, *]; done))
        have rfw31 : w3.frozen? ⟨w.heap.size, 1, none⟩ = false := (hfw3 _ _ (by omega)).trans (by first | assumption | (simp [go_sem]; done) | (simp [go_sem, *]; done))
        have rw3z : w.heap.size < w3.heap.size := by omega
        clear hcw3 hfw3 hzw3
        go_wp2
        obtain ⟨r0, r1⟩ := st2a (g := w.heap.size) (a := .int .i64 0) (b := .int .i64 0) (.cells #[.int .i64 0, .int .i64 b] 25) rw3z rw30 rw31
        refine bodyPost_ret (v := .tuple #[.agg #[.int .i64 0, .int .i64 0], .bool false]) (by simp [results, Tryd.results9, go_sem, r0, r1]) rfl ⟨ret_ptn X.out, ?_⟩
        repeat' (first | with_reducible assumption | with_reducible exact Below.refl _ _ | (with_reducible refine Below.setCell ?_ ?_ _) | (with_reducible refine Below.alloc ?_ ?_ _) | (with_reducible refine Below.drew ?_) | (with_reducible refine below_dr ?_ _) | (with_reducible refine Below.trans ?_ (Below.mono (by with_reducible assumption) ?_)) | omega | (simp; done) | (simp; omega))
    · rcases h2 : numL q.data.toList with _ | b
      · have R1 := Lib.hid (fun w => rd_yes h1 w hp)
        have R2 := Lib.hid (fun w => rd_no h2 w hq)
        have X := Lib.hid (comb_n2 (x := p.data.toList) h2)
        clear h1 h2
        go_enter Tryd.func9, Tryd.ntmps9
        go_wp2_with fail
        refine (CS.out _).mono ?_
        rintro e w1 ⟨A, cp, rfl, hown, hbw1⟩
        obtain ⟨g, cap, hv, _, hlt⟩ := hown.form (by simp)
        obtain rfl : A = some ⟨g, 0, none⟩ := by injection hv
        have hcell := hown.cells (g := g) rfl
        have e0 : w1.cell? ⟨g, 0, none⟩ = some (.string p) := hcell 0 _ rfl
        have e1 : w1.cell? ⟨g, 1, none⟩ = some (.string q) := hcell 1 _ rfl
        clear hcell hown
        have g1 : Below w.heap.size w w1 := by repeat' (first | with_reducible assumption | with_reducible exact Below.refl _ _ | (with_reducible refine Below.setCell ?_ ?_ _) | (with_reducible refine Below.alloc ?_ ?_ _) | (with_reducible refine Below.drew ?_) | (with_reducible refine below_dr ?_ _) | (with_reducible refine Below.trans ?_ (Below.mono (by with_reducible assumption) ?_)) | omega | (simp; done) | (simp; omega))
        obtain ⟨hcw1, hfw1⟩ := bcell hbw1
        have hzw1 := hbw1.size
        (try simp only [World.size_alloc] at hcw1 hfw1 hzw1)
        have rw10 : w1.cell? ⟨w.heap.size, 0, none⟩ = some (.int .i64 0) := (hcw1 _ _ (by omega)).trans (by first | assumption | (simp [go_sem]; done) | (simp [go_sem, *]; done))
        have rfw10 : w1.frozen? ⟨w.heap.size, 0, none⟩ = false := (hfw1 _ _ (by omega)).trans (by first | assumption | (simp [go_sem]; done) | (simp [go_sem, *]; done))
        have rw11 : w1.cell? ⟨w.heap.size, 1, none⟩ = some (.int .i64 0) := (hcw1 _ _ (by omega)).trans (by first | assumption | (simp [go_sem]; done) | (simp [go_sem, *]; done))
        have rfw11 : w1.frozen? ⟨w.heap.size, 1, none⟩ = false := (hfw1 _ _ (by omega)).trans (by first | assumption | (simp [go_sem]; done) | (simp [go_sem, *]; done))
        have rw1z : w.heap.size < w1.heap.size := by omega
        clear hcw1 hfw1 hzw1
        go_wp2_with fail
        refine (R1.out _).mono ?_
        rintro e w2 ⟨rfl, hbw2⟩
        have g2 : Below w.heap.size w w2 := by repeat' (first | with_reducible assumption | with_reducible exact Below.refl _ _ | (with_reducible refine Below.setCell ?_ ?_ _) | (with_reducible refine Below.alloc ?_ ?_ _) | (with_reducible refine Below.drew ?_) | (with_reducible refine below_dr ?_ _) | (with_reducible refine Below.trans ?_ (Below.mono (by with_reducible assumption) ?_)) | omega | (simp; done) | (simp; omega))
        obtain ⟨hcw2, hfw2⟩ := bcell hbw2
        have hzw2 := hbw2.size
        (try simp only [World.size_alloc] at hcw2 hfw2 hzw2)
        have rw20 : w2.cell? ⟨w.heap.size, 0, none⟩ = some (.int .i64 0) := (hcw2 _ _ (by omega)).trans (by first | assumption | (simp [go_sem]; done) | (simp [go_sem, *]; done))
        have rfw20 : w2.frozen? ⟨w.heap.size, 0, none⟩ = false := (hfw2 _ _ (by omega)).trans (by first | assumption | (simp [go_sem]; done) | (simp [go_sem, *]; done))
        have rw21 : w2.cell? ⟨w.heap.size, 1, none⟩ = some (.int .i64 0) := (hcw2 _ _ (by omega)).trans (by first | assumption | (simp [go_sem]; done) | (simp [go_sem, *]; done))
        have rfw21 : w2.frozen? ⟨w.heap.size, 1, none⟩ = false := (hfw2 _ _ (by omega)).trans (by first | assumption | (simp [go_sem]; done) | (simp [go_sem, *]; done))
        have rw2z : w.heap.size < w2.heap.size := by omega
        have pw20 : w2.cell? ⟨g, 0, none⟩ = some (.string p) := (hcw2 _ _ (by omega)).trans (by first | assumption | (simp [go_sem]; done) | (simp [go_sem, *]; done))
        have pw21 : w2.cell? ⟨g, 1, none⟩ = some (.string q) := (hcw2 _ _ (by omega)).trans (by first | assumption | (simp [go_sem]; done) | (simp [go_sem, *]; done))
        have pw2z : g < w2.heap.size := by omega
        clear hcw2 hfw2 hzw2
        go_wp2_with fail
        refine (R2.out _).mono ?_
        rintro e w3 ⟨rfl, hbw3⟩
        have g3 : Below w.heap.size w w3 := by repeat' (first | with_reducible assumption | with_reducible exact Below.refl _ _ | (with_reducible refine Below.setCell ?_ ?_ _) | (with_reducible refine Below.alloc ?_ ?_ _) | (with_reducible refine Below.drew ?_) | (with_reducible refine below_dr ?_ _) | (with_reducible refine Below.trans ?_ (Below.mono (by with_reducible assumption) ?_)) | omega | (simp; done) | (simp; omega))
        obtain ⟨hcw3, hfw3⟩ := bcell hbw3
        have hzw3 := hbw3.size
        (try simp only [World.size_alloc] at hcw3 hfw3 hzw3)
        have rw30 : w3.cell? ⟨w.heap.size, 0, none⟩ = some (.int .i64 0) := (hcw3 _ _ (by omega)).trans (by first | assumption | (simp [go_sem]; done) | (simp [go_sem, *]; done))
        have rfw30 : w3.frozen? ⟨w.heap.size, 0, none⟩ = false := (hfw3 _ _ (by omega)).trans (by first | assumption | (simp [go_sem]; done) | (simp [go_sem, *]; done))
        have rw31 : w3.cell? ⟨w.heap.size, 1, none⟩ = some (.int .i64 0) := (hcw3 _ _ (by omega)).trans (by first | assumption | (simp [go_sem]; done) | (simp [go_sem, *]; done))
        have rfw31 : w3.frozen? ⟨w.heap.size, 1, none⟩ = false := (hfw3 _ _ (by omega)).trans (by first | assumption | (simp [go_sem]; done) | (simp [go_sem, *]; done))
        have rw3z : w.heap.size < w3.heap.size := by omega
        clear hcw3 hfw3 hzw3
        go_wp2
        obtain ⟨r0, r1⟩ := st2a (g := w.heap.size) (a := .int .i64 0) (b := .int .i64 0) (.cells #[.int .i64 a, .int .i64 0] 25) rw3z rw30 rw31
        refine bodyPost_ret (v := .tuple #[.agg #[.int .i64 0, .int .i64 0], .bool false]) (by simp [results, Tryd.results9, go_sem, r0, r1]) rfl ⟨ret_ptn X.out, ?_⟩
        repeat' (first | with_reducible assumption | with_reducible exact Below.refl _ _ | (with_reducible refine Below.setCell ?_ ?_ _) | (with_reducible refine Below.alloc ?_ ?_ _) | (with_reducible refine Below.drew ?_) | (with_reducible refine below_dr ?_ _) | (with_reducible refine Below.trans ?_ (Below.mono (by with_reducible assumption) ?_)) | omega | (simp; done) | (simp; omega))
      · rcases hv : okB a b with _ | _
        · have R1 := Lib.hid (fun w => rd_yes h1 w hp)
          have R2 := Lib.hid (fun w => rd_yes h2 w hq)
          have X := Lib.hid (comb_no h1 h2 hv)
          have OK := Lib.hid (fun w => l03Ok_any a b w)
          rw [hv] at OK
          clear h1 h2 hv
          go_enter Tryd.func9, Tryd.ntmps9
          go_wp2_with fail
          refine (CS.out _).mono ?_
          rintro e w1 ⟨A, cp, rfl, hown, hbw1⟩
          obtain ⟨g, cap, hv, _, hlt⟩ := hown.form (by simp)
          obtain rfl : A = some ⟨g, 0, none⟩ := by injection hv
          have hcell := hown.cells (g := g) rfl
          have e0 : w1.cell? ⟨g, 0, none⟩ = some (.string p) := hcell 0 _ rfl
          have e1 : w1.cell? ⟨g, 1, none⟩ = some (.string q) := hcell 1 _ rfl
          clear hcell hown
          have g1 : Below w.heap.size w w1 := by repeat' (first | with_reducible assumption | with_reducible exact Below.refl _ _ | (with_reducible refine Below.setCell ?_ ?_ _) | (with_reducible refine Below.alloc ?_ ?_ _) | (with_reducible refine Below.drew ?_) | (with_reducible refine below_dr ?_ _) | (with_reducible refine Below.trans ?_ (Below.mono (by with_reducible assumption) ?_)) | omega | (simp; done) | (simp; omega))
          obtain ⟨hcw1, hfw1⟩ := bcell hbw1
          have hzw1 := hbw1.size
          (try simp only [World.size_alloc] at hcw1 hfw1 hzw1)
          have rw10 : w1.cell? ⟨w.heap.size, 0, none⟩ = some (.int .i64 0) := (hcw1 _ _ (by omega)).trans (by first | assumption | (simp [go_sem]; done) | (simp [go_sem, *]; done))
          have rfw10 : w1.frozen? ⟨w.heap.size, 0, none⟩ = false := (hfw1 _ _ (by omega)).trans (by first | assumption | (simp [go_sem]; done) | (simp [go_sem, *]; done))
          have rw11 : w1.cell? ⟨w.heap.size, 1, none⟩ = some (.int .i64 0) := (hcw1 _ _ (by omega)).trans (by first | assumption | (simp [go_sem]; done) | (simp [go_sem, *]; done))
          have rfw11 : w1.frozen? ⟨w.heap.size, 1, none⟩ = false := (hfw1 _ _ (by omega)).trans (by first | assumption | (simp [go_sem]; done) | (simp [go_sem, *]; done))
          have rw1z : w.heap.size < w1.heap.size := by omega
          clear hcw1 hfw1 hzw1
          go_wp2_with fail
          refine (R1.out _).mono ?_
          rintro e w2 ⟨rfl, hbw2⟩
          have g2 : Below w.heap.size w w2 := by repeat' (first | with_reducible assumption | with_reducible exact Below.refl _ _ | (with_reducible refine Below.setCell ?_ ?_ _) | (with_reducible refine Below.alloc ?_ ?_ _) | (with_reducible refine Below.drew ?_) | (with_reducible refine below_dr ?_ _) | (with_reducible refine Below.trans ?_ (Below.mono (by with_reducible assumption) ?_)) | omega | (simp; done) | (simp; omega))
          obtain ⟨hcw2, hfw2⟩ := bcell hbw2
          have hzw2 := hbw2.size
          (try simp only [World.size_alloc] at hcw2 hfw2 hzw2)
          have rw20 : w2.cell? ⟨w.heap.size, 0, none⟩ = some (.int .i64 0) := (hcw2 _ _ (by omega)).trans (by first | assumption | (simp [go_sem]; done) | (simp [go_sem, *]; done))
          have rfw20 : w2.frozen? ⟨w.heap.size, 0, none⟩ = false := (hfw2 _ _ (by omega)).trans (by first | assumption | (simp [go_sem]; done) | (simp [go_sem, *]; done))
          have rw21 : w2.cell? ⟨w.heap.size, 1, none⟩ = some (.int .i64 0) := (hcw2 _ _ (by omega)).trans (by first | assumption | (simp [go_sem]; done) | (simp [go_sem, *]; done))
          have rfw21 : w2.frozen? ⟨w.heap.size, 1, none⟩ = false := (hfw2 _ _ (by omega)).trans (by first | assumption | (simp [go_sem]; done) | (simp [go_sem, *]; done))
          have rw2z : w.heap.size < w2.heap.size := by omega
          have pw20 : w2.cell? ⟨g, 0, none⟩ = some (.string p) := (hcw2 _ _ (by omega)).trans (by first | assumption | (simp [go_sem]; done) | (simp [go_sem, *]; done))
          have pw21 : w2.cell? ⟨g, 1, none⟩ = some (.string q) := (hcw2 _ _ (by omega)).trans (by first | assumption | (simp [go_sem]; done) | (simp [go_sem, *]; done))
          have pw2z : g < w2.heap.size := by omega
          clear hcw2 hfw2 hzw2
          go_wp2_with fail
          refine (R2.out _).mono ?_
          rintro e w3 ⟨rfl, hbw3⟩
          have g3 : Below w.heap.size w w3 := by repeat' (first | with_reducible assumption | with_reducible exact Below.refl _ _ | (with_reducible refine Below.setCell ?_ ?_ _) | (with_reducible refine Below.alloc ?_ ?_ _) | (with_reducible refine Below.drew ?_) | (with_reducible refine below_dr ?_ _) | (with_reducible refine Below.trans ?_ (Below.mono (by with_reducible assumption) ?_)) | omega | (simp; done) | (simp; omega))
          obtain ⟨hcw3, hfw3⟩ := bcell hbw3
          have hzw3 := hbw3.size
          (try simp only [World.size_alloc] at hcw3 hfw3 hzw3)
          have rw30 : w3.cell? ⟨w.heap.size, 0, none⟩ = some (.int .i64 0) := (hcw3 _ _ (by omega)).trans (by first | assumption | (simp [go_sem]; done) | (simp [go_sem, *]; done))
          have rfw30 : w3.frozen? ⟨w.heap.size, 0, none⟩ = false := (hfw3 _ _ (by omega)).trans (by first | assumption | (simp [go_sem]; done) | (simp [go_sem, *]; done))
          have rw31 : w3.cell? ⟨w.heap.size, 1, none⟩ = some (.int .i64 0) := (hcw3 _ _ (by omega)).trans (by first | assumption | (simp [go_sem]; done) | (simp [go_sem, *]; done))
          have rfw31 : w3.frozen? ⟨w.heap.size, 1, none⟩ = false := (hfw3 _ _ (by omega)).trans (by first | assumption | (simp [go_sem]; done) | (simp [go_sem, *]; done))
          have rw3z : w.heap.size < w3.heap.size := by omega
          clear hcw3 hfw3 hzw3
          go_wp2_with fail
          refine (OK.out _).mono ?_
          rintro e w4 ⟨rfl, hbw4⟩
          have g4 : Below w.heap.size w w4 := by repeat' (first | with_reducible assumption | with_reducible exact Below.refl _ _ | (with_reducible refine Below.setCell ?_ ?_ _) | (with_reducible refine Below.alloc ?_ ?_ _) | (with_reducible refine Below.drew ?_) | (with_reducible refine below_dr ?_ _) | (with_reducible refine Below.trans ?_ (Below.mono (by with_reducible assumption) ?_)) | omega | (simp; done) | (simp; omega))
          obtain ⟨hcw4, hfw4⟩ := bcell hbw4
          have hzw4 := hbw4.size
          (try simp only [World.size_alloc] at hcw4 hfw4 hzw4)
          have rw40 : w4.cell? ⟨w.heap.size, 0, none⟩ = some (.int .i64 0) := (hcw4 _ _ (by omega)).trans (by first | assumption | (simp [go_sem]; done) | (simp [go_sem, *]; done))
          have rfw40 : w4.frozen? ⟨w.heap.size, 0, none⟩ = false := (hfw4 _ _ (by omega)).trans (by first | assumption | (simp [go_sem]; done) | (simp [go_sem, *]; done))
          have rw41 : w4.cell? ⟨w.heap.size, 1, none⟩ = some (.int .i64 0) := (hcw4 _ _ (by omega)).trans (by first | assumption | (simp [go_sem]; done) | (simp [go_sem, *]; done))
          have rfw41 : w4.frozen? ⟨w.heap.size, 1, none⟩ = false := (hfw4 _ _ (by omega)).trans (by first | assumption | (simp [go_sem]; done) | (simp [go_sem, *]; done))
          have rw4z : w.heap.size < w4.heap.size := by omega
          have mw40 : w4.cell? ⟨w3.heap.size, 0, none⟩ = some (.int .i64 a) := (hcw4 _ _ (by omega)).trans (by first | assumption | (simp [go_sem]; done) | (simp [go_sem, *]; done))
          have mw41 : w4.cell? ⟨w3.heap.size, 1, none⟩ = some (.int .i64 b) := (hcw4 _ _ (by omega)).trans (by first | assumption | (simp [go_sem]; done) | (simp [go_sem, *]; done))
          have mw4z : w3.heap.size < w4.heap.size := by omega
          clear hcw4 hfw4 hzw4
          go_wp2
          obtain ⟨r0, r1⟩ := st2 (g := w.heap.size) (a := .int .i64 0) (b := .int .i64 0) rw40 rw41
          refine bodyPost_ret (v := .tuple #[.agg #[.int .i64 0, .int .i64 0], .bool false]) (by simp [results, Tryd.results9, go_sem, r0, r1]) rfl ⟨ret_ptn X.out, ?_⟩
          repeat' (first | with_reducible assumption | with_reducible exact Below.refl _ _ | (with_reducible refine Below.setCell ?_ ?_ _) | (with_reducible refine Below.alloc ?_ ?_ _) | (with_reducible refine Below.drew ?_) | (with_reducible refine below_dr ?_ _) | (with_reducible refine Below.trans ?_ (Below.mono (by with_reducible assumption) ?_)) | omega | (simp; done) | (simp; omega))
        · have R1 := Lib.hid (fun w => rd_yes h1 w hp)
          have R2 := Lib.hid (fun w => rd_yes h2 w hq)
          have X := Lib.hid (comb_yes h1 h2 hv)
          have OK := Lib.hid (fun w => l03Ok_any a b w)
          rw [hv] at OK
          clear h1 h2 hv
          go_enter Tryd.func9, Tryd.ntmps9
          go_wp2_with fail
          refine (CS.out _).mono ?_
          rintro e w1 ⟨A, cp, rfl, hown, hbw1⟩
          obtain ⟨g, cap, hv, _, hlt⟩ := hown.form (by simp)
          obtain rfl : A = some ⟨g, 0, none⟩ := by injection hv
          have hcell := hown.cells (g := g) rfl
          have e0 : w1.cell? ⟨g, 0, none⟩ = some (.string p) := hcell 0 _ rfl
          have e1 : w1.cell? ⟨g, 1, none⟩ = some (.string q) := hcell 1 _ rfl
          clear hcell hown
          have g1 : Below w.heap.size w w1 := by repeat' (first | with_reducible assumption | with_reducible exact Below.refl _ _ | (with_reducible refine Below.setCell ?_ ?_ _) | (with_reducible refine Below.alloc ?_ ?_ _) | (with_reducible refine Below.drew ?_) | (with_reducible refine below_dr ?_ _) | (with_reducible refine Below.trans ?_ (Below.mono (by with_reducible assumption) ?_)) | omega | (simp; done) | (simp; omega))
          obtain ⟨hcw1, hfw1⟩ := bcell hbw1
          have hzw1 := hbw1.size
          (try simp only [World.size_alloc] at hcw1 hfw1 hzw1)
          have rw10 : w1.cell? ⟨w.heap.size, 0, none⟩ = some (.int .i64 0) := (hcw1 _ _ (by omega)).trans (by first | assumption | (simp [go_sem]; done) | (simp [go_sem, *]; done))
          have rfw10 : w1.frozen? ⟨w.heap.size, 0, none⟩ = false := (hfw1 _ _ (by omega)).trans (by first | assumption | (simp [go_sem]; done) | (simp [go_sem, *]; done))
          have rw11 : w1.cell? ⟨w.heap.size, 1, none⟩ = some (.int .i64 0) := (hcw1 _ _ (by omega)).trans (by first | assumption | (simp [go_sem]; done) | (simp [go_sem, *]; done))
          have rfw11 : w1.frozen? ⟨w.heap.size, 1, none⟩ = false := (hfw1 _ _ (by omega)).trans (by first | assumption | (simp [go_sem]; done) | (simp [go_sem, *]; done))
          have rw1z : w.heap.size < w1.heap.size := by omega
          clear hcw1 hfw1 hzw1
          go_wp2_with fail
          refine (R1.out _).mono ?_
          rintro e w2 ⟨rfl, hbw2⟩
          have g2 : Below w.heap.size w w2 := by repeat' (first | with_reducible assumption | with_reducible exact Below.refl _ _ | (with_reducible refine Below.setCell ?_ ?_ _) | (with_reducible refine Below.alloc ?_ ?_ _) | (with_reducible refine Below.drew ?_) | (with_reducible refine below_dr ?_ _) | (with_reducible refine Below.trans ?_ (Below.mono (by with_reducible assumption) ?_)) | omega | (simp; done) | (simp; omega))
          obtain ⟨hcw2, hfw2⟩ := bcell hbw2
          have hzw2 := hbw2.size
          (try simp only [World.size_alloc] at hcw2 hfw2 hzw2)
          have rw20 : w2.cell? ⟨w.heap.size, 0, none⟩ = some (.int .i64 0) := (hcw2 _ _ (by omega)).trans (by first | assumption | (simp [go_sem]; done) | (simp [go_sem, *]; done))
          have rfw20 : w2.frozen? ⟨w.heap.size, 0, none⟩ = false := (hfw2 _ _ (by omega)).trans (by first | assumption | (simp [go_sem]; done) | (simp [go_sem, *]; done))
          have rw21 : w2.cell? ⟨w.heap.size, 1, none⟩ = some (.int .i64 0) := (hcw2 _ _ (by omega)).trans (by first | assumption | (simp [go_sem]; done) | (simp [go_sem, *]; done))
          have rfw21 : w2.frozen? ⟨w.heap.size, 1, none⟩ = false := (hfw2 _ _ (by omega)).trans (by first | assumption | (simp [go_sem]; done) | (simp [go_sem, *]; done))
          have rw2z : w.heap.size < w2.heap.size := by omega
          have pw20 : w2.cell? ⟨g, 0, none⟩ = some (.string p) := (hcw2 _ _ (by omega)).trans (by first | assumption | (simp [go_sem]; done) | (simp [go_sem, *]; done))
          have pw21 : w2.cell? ⟨g, 1, none⟩ = some (.string q) := (hcw2 _ _ (by omega)).trans (by first | assumption | (simp [go_sem]; done) | (simp [go_sem, *]; done))
          have pw2z : g < w2.heap.size := by omega
          clear hcw2 hfw2 hzw2
          go_wp2_with fail
          refine (R2.out _).mono ?_
          rintro e w3 ⟨rfl, hbw3⟩
          have g3 : Below w.heap.size w w3 := by repeat' (first | with_reducible assumption | with_reducible exact Below.refl _ _ | (with_reducible refine Below.setCell ?_ ?_ _) | (with_reducible refine Below.alloc ?_ ?_ _) | (with_reducible refine Below.drew ?_) | (with_reducible refine below_dr ?_ _) | (with_reducible refine Below.trans ?_ (Below.mono (by with_reducible assumption) ?_)) | omega | (simp; done) | (simp; omega))
          obtain ⟨hcw3, hfw3⟩ := bcell hbw3
          have hzw3 := hbw3.size
          (try simp only [World.size_alloc] at hcw3 hfw3 hzw3)
          have rw30 : w3.cell? ⟨w.heap.size, 0, none⟩ = some (.int .i64 0) := (hcw3 _ _ (by omega)).trans (by first | assumption | (simp [go_sem]; done) | (simp [go_sem, *]; done))
          have rfw30 : w3.frozen? ⟨w.heap.size, 0, none⟩ = false := (hfw3 _ _ (by omega)).trans (by first | assumption | (simp [go_sem]; done) | (simp [go_sem, *]; done))
          have rw31 : w3.cell? ⟨w.heap.size, 1, none⟩ = some (.int .i64 0) := (hcw3 _ _ (by omega)).trans (by first | assumption | (simp [go_sem]; done) | (simp [go_sem, *]; done))
          have rfw31 : w3.frozen? ⟨w.heap.size, 1, none⟩ = false := (hfw3 _ _ (by omega)).trans (by first | assumption | (simp [go_sem]; done) | (simp [go_sem, *]; done))
          have rw3z : w.heap.size < w3.heap.size := by omega
          clear hcw3 hfw3 hzw3
          go_wp2_with fail
          refine (OK.out _).mono ?_
          rintro e w4 ⟨rfl, hbw4⟩
          have g4 : Below w.heap.size w w4 := by repeat' (first | with_reducible assumption | with_reducible exact Below.refl _ _ | (with_reducible refine Below.setCell ?_ ?_ _) | (with_reducible refine Below.alloc ?_ ?_ _) | (with_reducible refine Below.drew ?_) | (with_reducible refine below_dr ?_ _) | (with_reducible refine Below.trans ?_ (Below.mono (by with_reducible assumption) ?_)) | omega | (simp; done) | (simp; omega))
          obtain ⟨hcw4, hfw4⟩ := bcell hbw4
          have hzw4 := hbw4.size
          (try simp only [World.size_alloc] at hcw4 hfw4 hzw4)
          have rw40 : w4.cell? ⟨w.heap.size, 0, none⟩ = some (.int .i64 0) := (hcw4 _ _ (by omega)).trans (by first | assumption | (simp [go_sem]; done) | (simp [go_sem, *]; done))
          have rfw40 : w4.frozen? ⟨w.heap.size, 0, none⟩ = false := (hfw4 _ _ (by omega)).trans (by first | assumption | (simp [go_sem]; done) | (simp [go_sem, *]; done))
          have rw41 : w4.cell? ⟨w.heap.size, 1, none⟩ = some (.int .i64 0) := (hcw4 _ _ (by omega)).trans (by first | assumption | (simp [go_sem]; done) | (simp [go_sem, *]; done))
          have rfw41 : w4.frozen? ⟨w.heap.size, 1, none⟩ = false := (hfw4 _ _ (by omega)).trans (by first | assumption | (simp [go_sem]; done) | (simp [go_sem, *]; done))
          have rw4z : w.heap.size < w4.heap.size := by omega
          have mw40 : w4.cell? ⟨w3.heap.size, 0, none⟩ = some (.int .i64 a) := (hcw4 _ _ (by omega)).trans (by first | assumption | (simp [go_sem]; done) | (simp [go_sem, *]; done))
          have mw41 : w4.cell? ⟨w3.heap.size, 1, none⟩ = some (.int .i64 b) := (hcw4 _ _ (by omega)).trans (by first | assumption | (simp [go_sem]; done) | (simp [go_sem, *]; done))
          have mw4z : w3.heap.size < w4.heap.size := by omega
          clear hcw4 hfw4 hzw4
          go_wp2
          obtain ⟨r0, r1⟩ := st2 (g := w.heap.size) (a := .int .i64 a) (b := .int .i64 b) rw40 rw41
          refine bodyPost_ret (v := .tuple #[.agg #[.int .i64 a, .int .i64 b], .bool true]) (by simp [results, Tryd.results9, go_sem, r0, r1]) rfl ⟨ret_pty X.out, ?_⟩
          repeat' (first | with_reducible assumption | with_reducible exact Below.refl _ _ | (with_reducible refine Below.setCell ?_ ?_ _) | (with_reducible refine Below.alloc ?_ ?_ _) | (with_reducible refine Below.drew ?_) | (with_reducible refine below_dr ?_ _) | (with_reducible refine Below.trans ?_ (Below.mono (by with_reducible assumption) ?_)) | omega | (simp; done) | (simp; omega))
  · have X := Lib.hid (ptA_len (l := s.data.toList) (by rw [← HP]; simpa using hn))
    have hn2 : ((P.length : Int) != 2) = true := by rw [bne_iff_ne]; omega
    have hk : P.length ≤ 1048577 := by omega
    clear HP hn hpl
    unfold NewStrs at CS
    generalize P.length = n at CS hn2 hk
    go_enter Tryd.func9, Tryd.ntmps9
    go_wp2_with fail
    refine (CS.out _).mono ?_
    rintro e w1 ⟨A, cp, rfl, _, hbw1⟩
    have g1 : Below w.heap.size w w1 := by repeat' (first | with_reducible assumption | with_reducible exact Below.refl _ _ | (with_reducible refine Below.setCell ?_ ?_ _) | (with_reducible refine Below.alloc ?_ ?_ _) | (with_reducible refine Below.drew ?_) | (with_reducible refine below_dr ?_ _) | (with_reducible refine Below.trans ?_ (Below.mono (by with_reducible assumption) ?_)) | omega | (simp; done) | (simp; omega))
    obtain ⟨hcw1, hfw1⟩ := bcell hbw1
    have hzw1 := hbw1.size
    (try simp only [World.size_alloc] at hcw1 hfw1 hzw1)
    have rw10 : w1.cell? ⟨w.heap.size, 0, none⟩ = some (.int .i64 0) := (hcw1 _ _ (by omega)).trans (by first | assumption | (simp [go_sem]; done) | (simp [go_sem, *]; done))
    have rfw10 : w1.frozen? ⟨w.heap.size, 0, none⟩ = false := (hfw1 _ _ (by omega)).trans (by first | assumption | (simp [go_sem]; done) | (simp [go_sem, *]; done))
    have rw11 : w1.cell? ⟨w.heap.size, 1, none⟩ = some (.int .i64 0) := (hcw1 _ _ (by omega)).trans (by first | assumption | (simp [go_sem]; done) | (simp [go_sem, *]; done))
    have rfw11 : w1.frozen? ⟨w.heap.size, 1, none⟩ = false := (hfw1 _ _ (by omega)).trans (by first | assumption | (simp [go_sem]; done) | (simp [go_sem, *]; done))
    have rw1z : w.heap.size < w1.heap.size := by omega
    clear hcw1 hfw1 hzw1
    go_wp2
    obtain ⟨r0, r1⟩ := st2 (g := w.heap.size) (a := .int .i64 0) (b := .int .i64 0) rw10 rw11
    refine bodyPost_ret (v := .tuple #[.agg #[.int .i64 0, .int .i64 0], .bool false]) (by simp [results, Tryd.results9, go_sem, r0, r1]) rfl ⟨ret_ptn X.out, ?_⟩
    repeat' (first | with_reducible assumption | with_reducible exact Below.refl _ _ | (with_reducible refine Below.setCell ?_ ?_ _) | (with_reducible refine Below.alloc ?_ ?_ _) | (with_reducible refine Below.drew ?_) | (with_reducible refine below_dr ?_ _) | (with_reducible refine Below.trans ?_ (Below.mono (by with_reducible assumption) ?_)) | omega | (simp; done) | (simp; omega))
theorem cell_lt {w : World} {a : Addr} {v : Value} (h : w.cell? a = some v) : a.block < w.heap.size := by
  rcases Nat.lt_or_ge a.block w.heap.size with hlt | hge
  · exact hlt
  · simp [World.cell?, Array.getElem?_eq_none hge] at h
/-- Some number stands in the library's variable. -/
def MaxIs (w : World) : Prop := ∃ m, w.cell? ⟨0, 0, none⟩ = some (.int .i64 m)
theorem MaxIs.stay {w w' : World} (h : MaxIs w) (hb : Below w.heap.size w w') : MaxIs w' := by
  obtain ⟨m, hm⟩ := h
  exact ⟨m, (hb.cell (cell_lt hm)).trans hm⟩
def CutRet (c : List UInt8 × List UInt8 × Bool) (w : World) (e : Ending) (w' : World) : Prop :=
  ∃ a b : ByteArray, a.data.toList = c.1 ∧ b.data.toList = c.2.1 ∧ e = .returned (.tuple #[.string a, .string b, .bool c.2.2]) ∧ Below w.heap.size w w'
theorem cut_any (s : ByteArray) (w : World) (hs : s.size ≤ 1048576) (hM : MaxIs w) :
    Calls Tryd.prog 26 #[.string s, .string ⟨#[44]⟩] w (CutRet (Lib.cut s.data.toList [44]) w) := by
  obtain ⟨m, hm⟩ := hM
  exact (Tryd.strings_Cut s ⟨#[44]⟩ m w (by omega) hm).mono fun e w' ⟨he, n, hw⟩ => ⟨_, _, by simp, by simp, he, by rw [hw]; exact Joins.below_draws _ _ _⟩
theorem ird_yes {s : ByteArray} {n : Int} (h : numL s.data.toList = some n) (w : World) (hs : s.size ≤ 1048576) (hT : Tabs w) :
    Calls Tryd.prog 27 #[.string s] w fun e w' => e = .returned (.tuple #[.int .i64 n, .bool true]) ∧ Below w.heap.size w w' := by
  have := implReadDecimal_any s w hs hT; rw [h] at this; exact this
theorem ird_no {s : ByteArray} (h : numL s.data.toList = none) (w : World) (hs : s.size ≤ 1048576) (hT : Tabs w) :
    Calls Tryd.prog 27 #[.string s] w fun e w' => e = .returned (.tuple #[.int .i64 0, .bool false]) ∧ Below w.heap.size w w' := by
  have := implReadDecimal_any s w hs hT; rw [h] at this; exact this
set_option maxRecDepth 100000 in
set_option maxHeartbeats 3200000 in
theorem implReadPt_any (s : ByteArray) (w : World) (hs : s.size ≤ 1048576) (hT : Tabs w) (hM : MaxIs w) :
    Calls Tryd.prog 10 #[.string s] w fun e w' => e = .returned (ptR (ptA s.data.toList)) ∧ Below w.heap.size w w' := by
  have CC := Lib.hid (fun w1 (hb : Below w.heap.size w w1) => cut_any s w1 hs (hM.stay hb))
  have HA := Lib.hid (ptA_cut s.data.toList)
  obtain ⟨hl1, hl2⟩ := cut_lens44 s.data.toList
  rw [len_list] at hl1 hl2
  generalize Lib.cut s.data.toList [44] = c at CC HA hl1 hl2
  obtain ⟨c1, c2, c3⟩ := c
  have TT := Lib.hid hT
  clear hT hM
  simp only at HA hl1 hl2
  rcases h1 : numL c1 with _ | a
  · rcases h2 : numL c2 with _ | b
    · have X := Lib.hid (HA.out.trans (comb_n1 (y := c2) h1))
      have H1 := Lib.hid h1
      have H2 := Lib.hid h2
      clear h1 h2
      go_enter Tryd.func10, Tryd.ntmps10
      go_wp2_with fail
      refine (CC.out _ (by repeat' (first | with_reducible assumption | with_reducible exact Below.refl _ _ | (with_reducible refine Below.setCell ?_ ?_ _) | (with_reducible refine Below.alloc ?_ ?_ _) | (with_reducible refine Below.drew ?_) | (with_reducible refine below_dr ?_ _) | (with_reducible refine Below.trans ?_ (Below.mono (by with_reducible assumption) ?_)) | omega | (simp; done) | (simp; omega)))).mono ?_
      rintro e w1 ⟨p, q, hp, hq, rfl, hbw1⟩
      simp only at hp hq
      have sp : p.size ≤ 1048576 := by rw [← len_list, hp]; omega
      have sq : q.size ≤ 1048576 := by rw [← len_list, hq]; omega
      have HP := Lib.hid hp
      have HQ := Lib.hid hq
      clear hp hq
      have g1 : Below w.heap.size w w1 := by repeat' (first | with_reducible assumption | with_reducible exact Below.refl _ _ | (with_reducible refine Below.setCell ?_ ?_ _) | (with_reducible refine Below.alloc ?_ ?_ _) | (with_reducible refine Below.drew ?_) | (with_reducible refine below_dr ?_ _) | (with_reducible refine Below.trans ?_ (Below.mono (by with_reducible assumption) ?_)) | omega | (simp; done) | (simp; omega))
      obtain ⟨hcw1, hfw1⟩ := bcell hbw1
      have hzw1 := hbw1.size
      (try simp only [World.size_alloc] at hcw1 hfw1 hzw1)
      have rw10 : w1.cell? ⟨w.heap.size, 0, none⟩ = some (.int .i64 0) := (hcw1 _ _ (by omega)).trans (by first | assumption | (simp [go_sem]; done) | (simp [go_sem, *]; done))
      have rfw10 : w1.frozen? ⟨w.heap.size, 0, none⟩ = false := (hfw1 _ _ (by omega)).trans (by first | assumption | (simp [go_sem]; done) | (simp [go_sem, *]; done))
      have rw11 : w1.cell? ⟨w.heap.size, 1, none⟩ = some (.int .i64 0) := (hcw1 _ _ (by omega)).trans (by first | assumption | (simp [go_sem]; done) | (simp [go_sem, *]; done))
      have rfw11 : w1.frozen? ⟨w.heap.size, 1, none⟩ = false := (hfw1 _ _ (by omega)).trans (by first | assumption | (simp [go_sem]; done) | (simp [go_sem, *]; done))
      have rw1z : w.heap.size < w1.heap.size := by omega
      clear hcw1 hfw1 hzw1
      go_wp2_with fail
      refine (ird_no (by rw [HP.out]; exact H1.out) _ sp (TT.out.stay g1)).mono ?_
      rintro e w2 ⟨rfl, hbw2⟩
      have g2 : Below w.heap.size w w2 := by repeat' (first | with_reducible assumption | with_reducible exact Below.refl _ _ | (with_reducible refine Below.setCell ?_ ?_ _) | (with_reducible refine Below.alloc ?_ ?_ _) | (with_reducible refine Below.drew ?_) | (with_reducible refine below_dr ?_ _) | (with_reducible refine Below.trans ?_ (Below.mono (by with_reducible assumption) ?_)) | omega | (simp; done) | (simp; omega))
      obtain ⟨hcw2, hfw2⟩ := bcell hbw2
      have hzw2 := hbw2.size
      (try simp only [World.size_alloc] at hcw2 hfw2 hzw2)
      have rw20 : w2.cell? ⟨w.heap.size, 0, none⟩ = some (.int .i64 0) := (hcw2 _ _ (by omega)).trans (by first | assumption | (simp [go_sem]; done) | (simp [go_sem, *]; done))
      have rfw20 : w2.frozen? ⟨w.heap.size, 0, none⟩ = false := (hfw2 _ _ (by omega)).trans (by first | assumption | (simp [go_sem]; done) | (simp [go_sem, *]; done))
      have rw21 : w2.cell? ⟨w.heap.size, 1, none⟩ = some (.int .i64 0) := (hcw2 _ _ (by omega)).trans (by first | assumption | (simp [go_sem]; done) | (simp [go_sem, *]; done))
      have rfw21 : w2.frozen? ⟨w.heap.size, 1, none⟩ = false := (hfw2 _ _ (by omega)).trans (by first | assumption | (simp [go_sem]; done) | (simp [go_sem, *]; done))
      have rw2z : w.heap.size < w2.heap.size := by omega
      clear hcw2 hfw2 hzw2
      go_wp2_with fail
      refine (ird_no (by rw [HQ.out]; exact H2.out) _ sq (TT.out.stay g2)).mono ?_
      rintro e w3 ⟨rfl, hbw3⟩
      have g3 : Below w.heap.size w w3 := by repeat' (first | with_reducible assumption | with_reducible exact Below.refl _ _ | (with_reducible refine Below.setCell ?_ ?_ _) | (with_reducible refine Below.alloc ?_ ?_ _) | (with_reducible refine Below.drew ?_) | (with_reducible refine below_dr ?_ _) | (with_reducible refine Below.trans ?_ (Below.mono (by with_reducible assumption) ?_)) | omega | (simp; done) | (simp; omega))
      obtain ⟨hcw3, hfw3⟩ := bcell hbw3
      have hzw3 := hbw3.size
      (try simp only [World.size_alloc] at hcw3 hfw3 hzw3)
      have rw30 : w3.cell? ⟨w.heap.size, 0, none⟩ = some (.int .i64 0) := (hcw3 _ _ (by omega)).trans (by first | assumption | (simp [go_sem]; done) | (simp [go_sem, *]; done))
      have rfw30 : w3.frozen? ⟨w.heap.size, 0, none⟩ = false := (hfw3 _ _ (by omega)).trans (by first | assumption | (simp [go_sem]; done) | (simp [go_sem, *]; done))
      have rw31 : w3.cell? ⟨w.heap.size, 1, none⟩ = some (.int .i64 0) := (hcw3 _ _ (by omega)).trans (by first | assumption | (simp [go_sem]; done) | (simp [go_sem, *]; done))
      have rfw31 : w3.frozen? ⟨w.heap.size, 1, none⟩ = false := (hfw3 _ _ (by omega)).trans (by first | assumption | (simp [go_sem]; done) | (simp [go_sem, *]; done))
      have rw3z : w.heap.size < w3.heap.size := by omega
      clear hcw3 hfw3 hzw3
      go_wp2
      obtain ⟨r0, r1⟩ := st2a (g := w.heap.size) (a := .int .i64 0) (b := .int .i64 0) (.cells #[.int .i64 0, .int .i64 0] 25) rw3z rw30 rw31
      refine bodyPost_ret (v := .tuple #[.agg #[.int .i64 0, .int .i64 0], .bool false]) (by simp [results, Tryd.results10, go_sem, r0, r1]) rfl ⟨ret_ptn X.out, ?_⟩
      repeat' (first | with_reducible assumption | with_reducible exact Below.refl _ _ | (with_reducible refine Below.setCell ?_ ?_ _) | (with_reducible refine Below.alloc ?_ ?_ _) | (with_reducible refine Below.drew ?_) | (with_reducible refine below_dr ?_ _) | (with_reducible refine Below.trans ?_ (Below.mono (by with_reducible assumption) ?_)) | omega | (simp; done) | (simp; omega))
    · have X := Lib.hid (HA.out.trans (comb_n1 (y := c2) h1))
      have H1 := Lib.hid h1
      have H2 := Lib.hid h2
      clear h1 h2
      go_enter Tryd.func10, Tryd.ntmps10
      go_wp2_with fail
      refine (CC.out _ (by repeat' (first | with_reducible assumption | with_reducible exact Below.refl _ _ | (with_reducible refine Below.setCell ?_ ?_ _) | (with_reducible refine Below.alloc ?_ ?_ _) | (with_reducible refine Below.drew ?_) | (with_reducible refine below_dr ?_ _) | (with_reducible refine Below.trans ?_ (Below.mono (by with_reducible assumption) ?_)) | omega | (simp; done) | (simp; omega)))).mono ?_
      rintro e w1 ⟨p, q, hp, hq, rfl, hbw1⟩
      simp only at hp hq
      have sp : p.size ≤ 1048576 := by rw [← len_list, hp]; omega
      have sq : q.size ≤ 1048576 := by rw [← len_list, hq]; omega
      have HP := Lib.hid hp
      have HQ := Lib.hid hq
      clear hp hq
      have g1 : Below w.heap.size w w1 := by repeat' (first | with_reducible assumption | with_reducible exact Below.refl _ _ | (with_reducible refine Below.setCell ?_ ?_ _) | (with_reducible refine Below.alloc ?_ ?_ _) | (with_reducible refine Below.drew ?_) | (with_reducible refine below_dr ?_ _) | (with_reducible refine Below.trans ?_ (Below.mono (by with_reducible assumption) ?_)) | omega | (simp; done) | (simp; omega))
      obtain ⟨hcw1, hfw1⟩ := bcell hbw1
      have hzw1 := hbw1.size
      (try simp only [World.size_alloc] at hcw1 hfw1 hzw1)
      have rw10 : w1.cell? ⟨w.heap.size, 0, none⟩ = some (.int .i64 0) := (hcw1 _ _ (by omega)).trans (by first | assumption | (simp [go_sem]; done) | (simp [go_sem, *]; done))
      have rfw10 : w1.frozen? ⟨w.heap.size, 0, none⟩ = false := (hfw1 _ _ (by omega)).trans (by first | assumption | (simp [go_sem]; done) | (simp [go_sem, *]; done))
      have rw11 : w1.cell? ⟨w.heap.size, 1, none⟩ = some (.int .i64 0) := (hcw1 _ _ (by omega)).trans (by first | assumption | (simp [go_sem]; done) | (simp [go_sem, *]; done))
      have rfw11 : w1.frozen? ⟨w.heap.size, 1, none⟩ = false := (hfw1 _ _ (by omega)).trans (by first | assumption | (simp [go_sem]; done) | (simp [go_sem, *]; done))
      have rw1z : w.heap.size < w1.heap.size := by omega
      clear hcw1 hfw1 hzw1
      go_wp2_with fail
      refine (ird_no (by rw [HP.out]; exact H1.out) _ sp (TT.out.stay g1)).mono ?_
      rintro e w2 ⟨rfl, hbw2⟩
      have g2 : Below w.heap.size w w2 := by repeat' (first | with_reducible assumption | with_reducible exact Below.refl _ _ | (with_reducible refine Below.setCell ?_ ?_ _) | (with_reducible refine Below.alloc ?_ ?_ _) | (with_reducible refine Below.drew ?_) | (with_reducible refine below_dr ?_ _) | (with_reducible refine Below.trans ?_ (Below.mono (by with_reducible assumption) ?_)) | omega | (simp; done) | (simp; omega))
      obtain ⟨hcw2, hfw2⟩ := bcell hbw2
      have hzw2 := hbw2.size
      (try simp only [World.size_alloc] at hcw2 hfw2 hzw2)
      have rw20 : w2.cell? ⟨w.heap.size, 0, none⟩ = some (.int .i64 0) := (hcw2 _ _ (by omega)).trans (by first | assumption | (simp [go_sem]; done) | (simp [go_sem, *]; done))
      have rfw20 : w2.frozen? ⟨w.heap.size, 0, none⟩ = false := (hfw2 _ _ (by omega)).trans (by first | assumption | (simp [go_sem]; done) | (simp [go_sem, *]; done))
      have rw21 : w2.cell? ⟨w.heap.size, 1, none⟩ = some (.int .i64 0) := (hcw2 _ _ (by omega)).trans (by first | assumption | (simp [go_sem]; done) | (simp [go_sem, *]; done))
      have rfw21 : w2.frozen? ⟨w.heap.size, 1, none⟩ = false := (hfw2 _ _ (by omega)).trans (by first | assumption | (simp [go_sem]; done) | (simp [go_sem, *]; done))
      have rw2z : w.heap.size < w2.heap.size := by omega
      clear hcw2 hfw2 hzw2
      go_wp2_with fail
      refine (ird_yes (by rw [HQ.out]; exact H2.out) _ sq (TT.out.stay g2)).mono ?_
      rintro e w3 ⟨rfl, hbw3⟩
      have g3 : Below w.heap.size w w3 := by repeat' (first | with_reducible assumption | with_reducible exact Below.refl _ _ | (with_reducible refine Below.setCell ?_ ?_ _) | (with_reducible refine Below.alloc ?_ ?_ _) | (with_reducible refine Below.drew ?_) | (with_reducible refine below_dr ?_ _) | (with_reducible refine Below.trans ?_ (Below.mono (by with_reducible assumption) ?_)) | omega | (simp; done) | (simp; omega))
      obtain ⟨hcw3, hfw3⟩ := bcell hbw3
      have hzw3 := hbw3.size
      (try simp only [World.size_alloc] at hcw3 hfw3 hzw3)
      have rw30 : w3.cell? ⟨w.heap.size, 0, none⟩ = some (.int .i64 0) := (hcw3 _ _ (by omega)).trans (by first | assumption | (simp [go_sem]; done) | (simp [go_sem, *]; done))
      have rfw30 : w3.frozen? ⟨w.heap.size, 0, none⟩ = false := (hfw3 _ _ (by omega)).trans (by first | assumption | (simp [go_sem]; done) | (simp [go_sem, *]; done))
      have rw31 : w3.cell? ⟨w.heap.size, 1, none⟩ = some (.int .i64 0) := (hcw3 _ _ (by omega)).trans (by first | assumption | (simp [go_sem]; done) | (simp [go_sem, *]; done))
      have rfw31 : w3.frozen? ⟨w.heap.size, 1, none⟩ = false := (hfw3 _ _ (by omega)).trans (by first | assumption | (simp [go_sem]; done) | (simp [go_sem, *]; done))
      have rw3z : w.heap.size < w3.heap.size := by omega
      clear hcw3 hfw3 hzw3
      go_wp2
      obtain ⟨r0, r1⟩ := st2a (g := w.heap.size) (a := .int .i64 0) (b := .int .i64 0) (.cells #[.int .i64 0, .int .i64 b] 25) rw3z rw30 rw31
      refine bodyPost_ret (v := .tuple #[.agg #[.int .i64 0, .int .i64 0], .bool false]) (by simp [results, Tryd.results10, go_sem, r0, r1]) rfl ⟨ret_ptn X.out, ?_⟩
      repeat' (first | with_reducible assumption | with_reducible exact Below.refl _ _ | (with_reducible refine Below.setCell ?_ ?_ _) | (with_reducible refine Below.alloc ?_ ?_ _) | (with_reducible refine Below.drew ?_) | (with_reducible refine below_dr ?_ _) | (with_reducible refine Below.trans ?_ (Below.mono (by with_reducible assumption) ?_)) | omega | (simp; done) | (simp; omega))
  · rcases h2 : numL c2 with _ | b
    · have X := Lib.hid (HA.out.trans (comb_n2 (x := c1) h2))
      have H1 := Lib.hid h1
      have H2 := Lib.hid h2
      clear h1 h2
      go_enter Tryd.func10, Tryd.ntmps10
      go_wp2_with fail
      refine (CC.out _ (by repeat' (first | with_reducible assumption | with_reducible exact Below.refl _ _ | (with_reducible refine Below.setCell ?_ ?_ _) | (with_reducible refine Below.alloc ?_ ?_ _) | (with_reducible refine Below.drew ?_) | (with_reducible refine below_dr ?_ _) | (with_reducible refine Below.trans ?_ (Below.mono (by with_reducible assumption) ?_)) | omega | (simp; done) | (simp; omega)))).mono ?_
      rintro e w1 ⟨p, q, hp, hq, rfl, hbw1⟩
      simp only at hp hq
      have sp : p.size ≤ 1048576 := by rw [← len_list, hp]; omega
      have sq : q.size ≤ 1048576 := by rw [← len_list, hq]; omega
      have HP := Lib.hid hp
      have HQ := Lib.hid hq
      clear hp hq
      have g1 : Below w.heap.size w w1 := by repeat' (first | with_reducible assumption | with_reducible exact Below.refl _ _ | (with_reducible refine Below.setCell ?_ ?_ _) | (with_reducible refine Below.alloc ?_ ?_ _) | (with_reducible refine Below.drew ?_) | (with_reducible refine below_dr ?_ _) | (with_reducible refine Below.trans ?_ (Below.mono (by with_reducible assumption) ?_)) | omega | (simp; done) | (simp; omega))
      obtain ⟨hcw1, hfw1⟩ := bcell hbw1
      have hzw1 := hbw1.size
      (try simp only [World.size_alloc] at hcw1 hfw1 hzw1)
      have rw10 : w1.cell? ⟨w.heap.size, 0, none⟩ = some (.int .i64 0) := (hcw1 _ _ (by omega)).trans (by first | assumption | (simp [go_sem]; done) | (simp [go_sem, *]; done))
      have rfw10 : w1.frozen? ⟨w.heap.size, 0, none⟩ = false := (hfw1 _ _ (by omega)).trans (by first | assumption | (simp [go_sem]; done) | (simp [go_sem, *]; done))
      have rw11 : w1.cell? ⟨w.heap.size, 1, none⟩ = some (.int .i64 0) := (hcw1 _ _ (by omega)).trans (by first | assumption | (simp [go_sem]; done) | (simp [go_sem, *]; done))
      have rfw11 : w1.frozen? ⟨w.heap.size, 1, none⟩ = false := (hfw1 _ _ (by omega)).trans (by first | assumption | (simp [go_sem]; done) | (simp [go_sem, *]; done))
      have rw1z : w.heap.size < w1.heap.size := by omega
      clear hcw1 hfw1 hzw1
      go_wp2_with fail
      refine (ird_yes (by rw [HP.out]; exact H1.out) _ sp (TT.out.stay g1)).mono ?_
      rintro e w2 ⟨rfl, hbw2⟩
      have g2 : Below w.heap.size w w2 := by repeat' (first | with_reducible assumption | with_reducible exact Below.refl _ _ | (with_reducible refine Below.setCell ?_ ?_ _) | (with_reducible refine Below.alloc ?_ ?_ _) | (with_reducible refine Below.drew ?_) | (with_reducible refine below_dr ?_ _) | (with_reducible refine Below.trans ?_ (Below.mono (by with_reducible assumption) ?_)) | omega | (simp; done) | (simp; omega))
      obtain ⟨hcw2, hfw2⟩ := bcell hbw2
      have hzw2 := hbw2.size
      (try simp only [World.size_alloc] at hcw2 hfw2 hzw2)
      have rw20 : w2.cell? ⟨w.heap.size, 0, none⟩ = some (.int .i64 0) := (hcw2 _ _ (by omega)).trans (by first | assumption | (simp [go_sem]; done) | (simp [go_sem, *]; done))
      have rfw20 : w2.frozen? ⟨w.heap.size, 0, none⟩ = false := (hfw2 _ _ (by omega)).trans (by first | assumption | (simp [go_sem]; done) | (simp [go_sem, *]; done))
      have rw21 : w2.cell? ⟨w.heap.size, 1, none⟩ = some (.int .i64 0) := (hcw2 _ _ (by omega)).trans (by first | assumption | (simp [go_sem]; done) | (simp [go_sem, *]; done))
      have rfw21 : w2.frozen? ⟨w.heap.size, 1, none⟩ = false := (hfw2 _ _ (by omega)).trans (by first | assumption | (simp [go_sem]; done) | (simp [go_sem, *]; done))
      have rw2z : w.heap.size < w2.heap.size := by omega
      clear hcw2 hfw2 hzw2
      go_wp2_with fail
      refine (ird_no (by rw [HQ.out]; exact H2.out) _ sq (TT.out.stay g2)).mono ?_
      rintro e w3 ⟨rfl, hbw3⟩
      have g3 : Below w.heap.size w w3 := by repeat' (first | with_reducible assumption | with_reducible exact Below.refl _ _ | (with_reducible refine Below.setCell ?_ ?_ _) | (with_reducible refine Below.alloc ?_ ?_ _) | (with_reducible refine Below.drew ?_) | (with_reducible refine below_dr ?_ _) | (with_reducible refine Below.trans ?_ (Below.mono (by with_reducible assumption) ?_)) | omega | (simp; done) | (simp; omega))
      obtain ⟨hcw3, hfw3⟩ := bcell hbw3
      have hzw3 := hbw3.size
      (try simp only [World.size_alloc] at hcw3 hfw3 hzw3)
      have rw30 : w3.cell? ⟨w.heap.size, 0, none⟩ = some (.int .i64 0) := (hcw3 _ _ (by omega)).trans (by first | assumption | (simp [go_sem]; done) | (simp [go_sem, *]; done))
      have rfw30 : w3.frozen? ⟨w.heap.size, 0, none⟩ = false := (hfw3 _ _ (by omega)).trans (by first | assumption | (simp [go_sem]; done) | (simp [go_sem, *]; done))
      have rw31 : w3.cell? ⟨w.heap.size, 1, none⟩ = some (.int .i64 0) := (hcw3 _ _ (by omega)).trans (by first | assumption | (simp [go_sem]; done) | (simp [go_sem, *]; done))
      have rfw31 : w3.frozen? ⟨w.heap.size, 1, none⟩ = false := (hfw3 _ _ (by omega)).trans (by first | assumption | (simp [go_sem]; done) | (simp [go_sem, *]; done))
      have rw3z : w.heap.size < w3.heap.size := by omega
      clear hcw3 hfw3 hzw3
      go_wp2
      obtain ⟨r0, r1⟩ := st2a (g := w.heap.size) (a := .int .i64 0) (b := .int .i64 0) (.cells #[.int .i64 a, .int .i64 0] 25) rw3z rw30 rw31
      refine bodyPost_ret (v := .tuple #[.agg #[.int .i64 0, .int .i64 0], .bool false]) (by simp [results, Tryd.results10, go_sem, r0, r1]) rfl ⟨ret_ptn X.out, ?_⟩
      repeat' (first | with_reducible assumption | with_reducible exact Below.refl _ _ | (with_reducible refine Below.setCell ?_ ?_ _) | (with_reducible refine Below.alloc ?_ ?_ _) | (with_reducible refine Below.drew ?_) | (with_reducible refine below_dr ?_ _) | (with_reducible refine Below.trans ?_ (Below.mono (by with_reducible assumption) ?_)) | omega | (simp; done) | (simp; omega))
    · rcases hv : okB a b with _ | _
      · have X := Lib.hid (HA.out.trans (comb_no h1 h2 hv))
        have H1 := Lib.hid h1
        have H2 := Lib.hid h2
        have OK := Lib.hid (fun w => implValidPt_any a b w)
        rw [hv] at OK
        clear h1 h2 hv
        go_enter Tryd.func10, Tryd.ntmps10
        go_wp2_with fail
        refine (CC.out _ (by repeat' (first | with_reducible assumption | with_reducible exact Below.refl _ _ | (with_reducible refine Below.setCell ?_ ?_ _) | (with_reducible refine Below.alloc ?_ ?_ _) | (with_reducible refine Below.drew ?_) | (with_reducible refine below_dr ?_ _) | (with_reducible refine Below.trans ?_ (Below.mono (by with_reducible assumption) ?_)) | omega | (simp; done) | (simp; omega)))).mono ?_
        rintro e w1 ⟨p, q, hp, hq, rfl, hbw1⟩
        simp only at hp hq
        have sp : p.size ≤ 1048576 := by rw [← len_list, hp]; omega
        have sq : q.size ≤ 1048576 := by rw [← len_list, hq]; omega
        have HP := Lib.hid hp
        have HQ := Lib.hid hq
        clear hp hq
        have g1 : Below w.heap.size w w1 := by repeat' (first | with_reducible assumption | with_reducible exact Below.refl _ _ | (with_reducible refine Below.setCell ?_ ?_ _) | (with_reducible refine Below.alloc ?_ ?_ _) | (with_reducible refine Below.drew ?_) | (with_reducible refine below_dr ?_ _) | (with_reducible refine Below.trans ?_ (Below.mono (by with_reducible assumption) ?_)) | omega | (simp; done) | (simp; omega))
        obtain ⟨hcw1, hfw1⟩ := bcell hbw1
        have hzw1 := hbw1.size
        (try simp only [World.size_alloc] at hcw1 hfw1 hzw1)
        have rw10 : w1.cell? ⟨w.heap.size, 0, none⟩ = some (.int .i64 0) := (hcw1 _ _ (by omega)).trans (by first | assumption | (simp [go_sem]; done) | (simp [go_sem, *]; done))
        have rfw10 : w1.frozen? ⟨w.heap.size, 0, none⟩ = false := (hfw1 _ _ (by omega)).trans (by first | assumption | (simp [go_sem]; done) | (simp [go_sem, *]; done))
        have rw11 : w1.cell? ⟨w.heap.size, 1, none⟩ = some (.int .i64 0) := (hcw1 _ _ (by omega)).trans (by first | assumption | (simp [go_sem]; done) | (simp [go_sem, *]; done))
        have rfw11 : w1.frozen? ⟨w.heap.size, 1, none⟩ = false := (hfw1 _ _ (by omega)).trans (by first | assumption | (simp [go_sem]; done) | (simp [go_sem, *]; done))
        have rw1z : w.heap.size < w1.heap.size := by omega
        clear hcw1 hfw1 hzw1
        go_wp2_with fail
        refine (ird_yes (by rw [HP.out]; exact H1.out) _ sp (TT.out.stay g1)).mono ?_
        rintro e w2 ⟨rfl, hbw2⟩
        have g2 : Below w.heap.size w w2 := by repeat' (first | with_reducible assumption | with_reducible exact Below.refl _ _ | (with_reducible refine Below.setCell ?_ ?_ _) | (with_reducible refine Below.alloc ?_ ?_ _) | (with_reducible refine Below.drew ?_) | (with_reducible refine below_dr ?_ _) | (with_reducible refine Below.trans ?_ (Below.mono (by with_reducible assumption) ?_)) | omega | (simp; done) | (simp; omega))
        obtain ⟨hcw2, hfw2⟩ := bcell hbw2
        have hzw2 := hbw2.size
        (try simp only [World.size_alloc] at hcw2 hfw2 hzw2)
        have rw20 : w2.cell? ⟨w.heap.size, 0, none⟩ = some (.int .i64 0) := (hcw2 _ _ (by omega)).trans (by first | assumption | (simp [go_sem]; done) | (simp [go_sem, *]; done))
        have rfw20 : w2.frozen? ⟨w.heap.size, 0, none⟩ = false := (hfw2 _ _ (by omega)).trans (by first | assumption | (simp [go_sem]; done) | (simp [go_sem, *]; done))
        have rw21 : w2.cell? ⟨w.heap.size, 1, none⟩ = some (.int .i64 0) := (hcw2 _ _ (by omega)).trans (by first | assumption | (simp [go_sem]; done) | (simp [go_sem, *]; done))
        have rfw21 : w2.frozen? ⟨w.heap.size, 1, none⟩ = false := (hfw2 _ _ (by omega)).trans (by first | assumption | (simp [go_sem]; done) | (simp [go_sem, *]; done))
        have rw2z : w.heap.size < w2.heap.size := by omega
        clear hcw2 hfw2 hzw2
        go_wp2_with fail
        refine (ird_yes (by rw [HQ.out]; exact H2.out) _ sq (TT.out.stay g2)).mono ?_
        rintro e w3 ⟨rfl, hbw3⟩
        have g3 : Below w.heap.size w w3 := by repeat' (first | with_reducible assumption | with_reducible exact Below.refl _ _ | (with_reducible refine Below.setCell ?_ ?_ _) | (with_reducible refine Below.alloc ?_ ?_ _) | (with_reducible refine Below.drew ?_) | (with_reducible refine below_dr ?_ _) | (with_reducible refine Below.trans ?_ (Below.mono (by with_reducible assumption) ?_)) | omega | (simp; done) | (simp; omega))
        obtain ⟨hcw3, hfw3⟩ := bcell hbw3
        have hzw3 := hbw3.size
        (try simp only [World.size_alloc] at hcw3 hfw3 hzw3)
        have rw30 : w3.cell? ⟨w.heap.size, 0, none⟩ = some (.int .i64 0) := (hcw3 _ _ (by omega)).trans (by first | assumption | (simp [go_sem]; done) | (simp [go_sem, *]; done))
        have rfw30 : w3.frozen? ⟨w.heap.size, 0, none⟩ = false := (hfw3 _ _ (by omega)).trans (by first | assumption | (simp [go_sem]; done) | (simp [go_sem, *]; done))
        have rw31 : w3.cell? ⟨w.heap.size, 1, none⟩ = some (.int .i64 0) := (hcw3 _ _ (by omega)).trans (by first | assumption | (simp [go_sem]; done) | (simp [go_sem, *]; done))
        have rfw31 : w3.frozen? ⟨w.heap.size, 1, none⟩ = false := (hfw3 _ _ (by omega)).trans (by first | assumption | (simp [go_sem]; done) | (simp [go_sem, *]; done))
        have rw3z : w.heap.size < w3.heap.size := by omega
        clear hcw3 hfw3 hzw3
        go_wp2_with fail
        refine (OK.out _).mono ?_
        rintro e w4 ⟨rfl, hbw4⟩
        have g4 : Below w.heap.size w w4 := by repeat' (first | with_reducible assumption | with_reducible exact Below.refl _ _ | (with_reducible refine Below.setCell ?_ ?_ _) | (with_reducible refine Below.alloc ?_ ?_ _) | (with_reducible refine Below.drew ?_) | (with_reducible refine below_dr ?_ _) | (with_reducible refine Below.trans ?_ (Below.mono (by with_reducible assumption) ?_)) | omega | (simp; done) | (simp; omega))
        obtain ⟨hcw4, hfw4⟩ := bcell hbw4
        have hzw4 := hbw4.size
        (try simp only [World.size_alloc] at hcw4 hfw4 hzw4)
        have rw40 : w4.cell? ⟨w.heap.size, 0, none⟩ = some (.int .i64 0) := (hcw4 _ _ (by omega)).trans (by first | assumption | (simp [go_sem]; done) | (simp [go_sem, *]; done))
        have rfw40 : w4.frozen? ⟨w.heap.size, 0, none⟩ = false := (hfw4 _ _ (by omega)).trans (by first | assumption | (simp [go_sem]; done) | (simp [go_sem, *]; done))
        have rw41 : w4.cell? ⟨w.heap.size, 1, none⟩ = some (.int .i64 0) := (hcw4 _ _ (by omega)).trans (by first | assumption | (simp [go_sem]; done) | (simp [go_sem, *]; done))
        have rfw41 : w4.frozen? ⟨w.heap.size, 1, none⟩ = false := (hfw4 _ _ (by omega)).trans (by first | assumption | (simp [go_sem]; done) | (simp [go_sem, *]; done))
        have rw4z : w.heap.size < w4.heap.size := by omega
        have mw40 : w4.cell? ⟨w3.heap.size, 0, none⟩ = some (.int .i64 a) := (hcw4 _ _ (by omega)).trans (by first | assumption | (simp [go_sem]; done) | (simp [go_sem, *]; done))
        have mw41 : w4.cell? ⟨w3.heap.size, 1, none⟩ = some (.int .i64 b) := (hcw4 _ _ (by omega)).trans (by first | assumption | (simp [go_sem]; done) | (simp [go_sem, *]; done))
        have mw4z : w3.heap.size < w4.heap.size := by omega
        clear hcw4 hfw4 hzw4
        go_wp2
        obtain ⟨r0, r1⟩ := st2 (g := w.heap.size) (a := .int .i64 0) (b := .int .i64 0) rw40 rw41
        refine bodyPost_ret (v := .tuple #[.agg #[.int .i64 0, .int .i64 0], .bool false]) (by simp [results, Tryd.results10, go_sem, r0, r1]) rfl ⟨ret_ptn X.out, ?_⟩
        repeat' (first | with_reducible assumption | with_reducible exact Below.refl _ _ | (with_reducible refine Below.setCell ?_ ?_ _) | (with_reducible refine Below.alloc ?_ ?_ _) | (with_reducible refine Below.drew ?_) | (with_reducible refine below_dr ?_ _) | (with_reducible refine Below.trans ?_ (Below.mono (by with_reducible assumption) ?_)) | omega | (simp; done) | (simp; omega))
      · have X := Lib.hid (HA.out.trans (comb_yes h1 h2 hv))
        have H1 := Lib.hid h1
        have H2 := Lib.hid h2
        have OK := Lib.hid (fun w => implValidPt_any a b w)
        rw [hv] at OK
        clear h1 h2 hv
        go_enter Tryd.func10, Tryd.ntmps10
        go_wp2_with fail
        refine (CC.out _ (by repeat' (first | with_reducible assumption | with_reducible exact Below.refl _ _ | (with_reducible refine Below.setCell ?_ ?_ _) | (with_reducible refine Below.alloc ?_ ?_ _) | (with_reducible refine Below.drew ?_) | (with_reducible refine below_dr ?_ _) | (with_reducible refine Below.trans ?_ (Below.mono (by with_reducible assumption) ?_)) | omega | (simp; done) | (simp; omega)))).mono ?_
        rintro e w1 ⟨p, q, hp, hq, rfl, hbw1⟩
        simp only at hp hq
        have sp : p.size ≤ 1048576 := by rw [← len_list, hp]; omega
        have sq : q.size ≤ 1048576 := by rw [← len_list, hq]; omega
        have HP := Lib.hid hp
        have HQ := Lib.hid hq
        clear hp hq
        have g1 : Below w.heap.size w w1 := by repeat' (first | with_reducible assumption | with_reducible exact Below.refl _ _ | (with_reducible refine Below.setCell ?_ ?_ _) | (with_reducible refine Below.alloc ?_ ?_ _) | (with_reducible refine Below.drew ?_) | (with_reducible refine below_dr ?_ _) | (with_reducible refine Below.trans ?_ (Below.mono (by with_reducible assumption) ?_)) | omega | (simp; done) | (simp; omega))
        obtain ⟨hcw1, hfw1⟩ := bcell hbw1
        have hzw1 := hbw1.size
        (try simp only [World.size_alloc] at hcw1 hfw1 hzw1)
        have rw10 : w1.cell? ⟨w.heap.size, 0, none⟩ = some (.int .i64 0) := (hcw1 _ _ (by omega)).trans (by first | assumption | (simp [go_sem]; done) | (simp [go_sem, *]; done))
        have rfw10 : w1.frozen? ⟨w.heap.size, 0, none⟩ = false := (hfw1 _ _ (by omega)).trans (by first | assumption | (simp [go_sem]; done) | (simp [go_sem, *]; done))
        have rw11 : w1.cell? ⟨w.heap.size, 1, none⟩ = some (.int .i64 0) := (hcw1 _ _ (by omega)).trans (by first | assumption | (simp [go_sem]; done) | (simp [go_sem, *]; done))
        have rfw11 : w1.frozen? ⟨w.heap.size, 1, none⟩ = false := (hfw1 _ _ (by omega)).trans (by first | assumption | (simp [go_sem]; done) | (simp [go_sem, *]; done))
        have rw1z : w.heap.size < w1.heap.size := by omega
        clear hcw1 hfw1 hzw1
        go_wp2_with fail
        refine (ird_yes (by rw [HP.out]; exact H1.out) _ sp (TT.out.stay g1)).mono ?_
        rintro e w2 ⟨rfl, hbw2⟩
        have g2 : Below w.heap.size w w2 := by repeat' (first | with_reducible assumption | with_reducible exact Below.refl _ _ | (with_reducible refine Below.setCell ?_ ?_ _) | (with_reducible refine Below.alloc ?_ ?_ _) | (with_reducible refine Below.drew ?_) | (with_reducible refine below_dr ?_ _) | (with_reducible refine Below.trans ?_ (Below.mono (by with_reducible assumption) ?_)) | omega | (simp; done) | (simp; omega))
        obtain ⟨hcw2, hfw2⟩ := bcell hbw2
        have hzw2 := hbw2.size
        (try simp only [World.size_alloc] at hcw2 hfw2 hzw2)
        have rw20 : w2.cell? ⟨w.heap.size, 0, none⟩ = some (.int .i64 0) := (hcw2 _ _ (by omega)).trans (by first | assumption | (simp [go_sem]; done) | (simp [go_sem, *]; done))
        have rfw20 : w2.frozen? ⟨w.heap.size, 0, none⟩ = false := (hfw2 _ _ (by omega)).trans (by first | assumption | (simp [go_sem]; done) | (simp [go_sem, *]; done))
        have rw21 : w2.cell? ⟨w.heap.size, 1, none⟩ = some (.int .i64 0) := (hcw2 _ _ (by omega)).trans (by first | assumption | (simp [go_sem]; done) | (simp [go_sem, *]; done))
        have rfw21 : w2.frozen? ⟨w.heap.size, 1, none⟩ = false := (hfw2 _ _ (by omega)).trans (by first | assumption | (simp [go_sem]; done) | (simp [go_sem, *]; done))
        have rw2z : w.heap.size < w2.heap.size := by omega
        clear hcw2 hfw2 hzw2
        go_wp2_with fail
        refine (ird_yes (by rw [HQ.out]; exact H2.out) _ sq (TT.out.stay g2)).mono ?_
        rintro e w3 ⟨rfl, hbw3⟩
        have g3 : Below w.heap.size w w3 := by repeat' (first | with_reducible assumption | with_reducible exact Below.refl _ _ | (with_reducible refine Below.setCell ?_ ?_ _) | (with_reducible refine Below.alloc ?_ ?_ _) | (with_reducible refine Below.drew ?_) | (with_reducible refine below_dr ?_ _) | (with_reducible refine Below.trans ?_ (Below.mono (by with_reducible assumption) ?_)) | omega | (simp; done) | (simp; omega))
        obtain ⟨hcw3, hfw3⟩ := bcell hbw3
        have hzw3 := hbw3.size
        (try simp only [World.size_alloc] at hcw3 hfw3 hzw3)
        have rw30 : w3.cell? ⟨w.heap.size, 0, none⟩ = some (.int .i64 0) := (hcw3 _ _ (by omega)).trans (by first | assumption | (simp [go_sem]; done) | (simp [go_sem, *]; done))
        have rfw30 : w3.frozen? ⟨w.heap.size, 0, none⟩ = false := (hfw3 _ _ (by omega)).trans (by first | assumption | (simp [go_sem]; done) | (simp [go_sem, *]; done))
        have rw31 : w3.cell? ⟨w.heap.size, 1, none⟩ = some (.int .i64 0) := (hcw3 _ _ (by omega)).trans (by first | assumption | (simp [go_sem]; done) | (simp [go_sem, *]; done))
        have rfw31 : w3.frozen? ⟨w.heap.size, 1, none⟩ = false := (hfw3 _ _ (by omega)).trans (by first | assumption | (simp [go_sem]; done) | (simp [go_sem, *]; done))
        have rw3z : w.heap.size < w3.heap.size := by omega
        clear hcw3 hfw3 hzw3
        go_wp2_with fail
        refine (OK.out _).mono ?_
        rintro e w4 ⟨rfl, hbw4⟩
        have g4 : Below w.heap.size w w4 := by repeat' (first | with_reducible assumption | with_reducible exact Below.refl _ _ | (with_reducible refine Below.setCell ?_ ?_ _) | (with_reducible refine Below.alloc ?_ ?_ _) | (with_reducible refine Below.drew ?_) | (with_reducible refine below_dr ?_ _) | (with_reducible refine Below.trans ?_ (Below.mono (by with_reducible assumption) ?_)) | omega | (simp; done) | (simp; omega))
        obtain ⟨hcw4, hfw4⟩ := bcell hbw4
        have hzw4 := hbw4.size
        (try simp only [World.size_alloc] at hcw4 hfw4 hzw4)
        have rw40 : w4.cell? ⟨w.heap.size, 0, none⟩ = some (.int .i64 0) := (hcw4 _ _ (by omega)).trans (by first | assumption | (simp [go_sem]; done) | (simp [go_sem, *]; done))
        have rfw40 : w4.frozen? ⟨w.heap.size, 0, none⟩ = false := (hfw4 _ _ (by omega)).trans (by first | assumption | (simp [go_sem]; done) | (simp [go_sem, *]; done))
        have rw41 : w4.cell? ⟨w.heap.size, 1, none⟩ = some (.int .i64 0) := (hcw4 _ _ (by omega)).trans (by first | assumption | (simp [go_sem]; done) | (simp [go_sem, *]; done))
        have rfw41 : w4.frozen? ⟨w.heap.size, 1, none⟩ = false := (hfw4 _ _ (by omega)).trans (by first | assumption | (simp [go_sem]; done) | (simp [go_sem, *]; done))
        have rw4z : w.heap.size < w4.heap.size := by omega
        have mw40 : w4.cell? ⟨w3.heap.size, 0, none⟩ = some (.int .i64 a) := (hcw4 _ _ (by omega)).trans (by first | assumption | (simp [go_sem]; done) | (simp [go_sem, *]; done))
        have mw41 : w4.cell? ⟨w3.heap.size, 1, none⟩ = some (.int .i64 b) := (hcw4 _ _ (by omega)).trans (by first | assumption | (simp [go_sem]; done) | (simp [go_sem, *]; done))
        have mw4z : w3.heap.size < w4.heap.size := by omega
        clear hcw4 hfw4 hzw4
        go_wp2
        obtain ⟨r0, r1⟩ := st2 (g := w.heap.size) (a := .int .i64 a) (b := .int .i64 b) rw40 rw41
        refine bodyPost_ret (v := .tuple #[.agg #[.int .i64 a, .int .i64 b], .bool true]) (by simp [results, Tryd.results10, go_sem, r0, r1]) rfl ⟨ret_pty X.out, ?_⟩
        repeat' (first | with_reducible assumption | with_reducible exact Below.refl _ _ | (with_reducible refine Below.setCell ?_ ?_ _) | (with_reducible refine Below.alloc ?_ ?_ _) | (with_reducible refine Below.drew ?_) | (with_reducible refine below_dr ?_ _) | (with_reducible refine Below.trans ?_ (Below.mono (by with_reducible assumption) ?_)) | omega | (simp; done) | (simp; omega))
end Go.Proofs.YtiljdnfhojpgnaaDoor
