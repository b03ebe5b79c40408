/- Walks: rows of a system are copied and compared. -/
import Derived.Test.YtmlhchiinlnfpaaHu
namespace Go.Proofs.Ytmlhchiinlnfpaa
open Go.RowKit
set_option linter.unusedVariables false
/-- The cells of one block stand as they were. -/
theorem Rd.moved {α : Type} {f : α → List Value} {s : Nat} {w w' : World} {B B' q : Nat} {A : Option Addr} {l : List α} (h : Rd f s w B A l) (hA : A = some ⟨q, 0, none⟩) (hc : ∀ p : Addr, p.block = q → q < B → w'.cell? p = w.cell? p) (hB : B ≤ B') : Rd f s w' B' A l := by
  rcases h with rfl | ⟨g, o, hA2, hg, h⟩
  · exact .inl rfl
  · obtain rfl : g = q := by rw [hA] at hA2; injection hA2 with h1; injection h1 with h1; exact h1.symm
    exact .inr ⟨g, o, hA2, by omega, fun k a hka i u hu => (hc _ rfl hg).trans (h k a hka i u hu)⟩
theorem Filled.step4 {α : Type} {f : α → List Value} {l : List α} {k : Nat} {xs : List Value} (h : Filled f 4 l k xs) {a : α} {u0 u1 u2 u3 : Value} (ha : l[k]? = some a) (hx : k * 4 + 4 ≤ xs.length) (hfa : f a = [u0, u1, u2, u3]) :
    Filled f 4 l (k + 1) ((((xs.set (k * 4) u0).set (k * 4 + 1) u1).set (k * 4 + 2) u2).set (k * 4 + 3) u3) := by
  intro j b hj hb i hi
  rcases Nat.lt_or_ge j k with hlt | hge
  · rw [List.getElem?_set_ne (by omega), List.getElem?_set_ne (by omega), List.getElem?_set_ne (by omega), List.getElem?_set_ne (by omega)]
    exact h j b hlt hb i hi
  · obtain rfl : j = k := by omega
    obtain rfl : a = b := Option.some.inj (ha.symm.trans hb)
    rw [hfa]
    match i, hi with
    | 0, _ =>
      show ((((xs.set (j * 4) u0).set (j * 4 + 1) u1).set (j * 4 + 2) u2).set (j * 4 + 3) u3)[j * 4]? = some u0
      rw [List.getElem?_set_ne (by omega), List.getElem?_set_ne (by omega), List.getElem?_set_ne (by omega), List.getElem?_set_self (by (try simp only [List.length_set]); omega)]
    | 1, _ =>
      show ((((xs.set (j * 4) u0).set (j * 4 + 1) u1).set (j * 4 + 2) u2).set (j * 4 + 3) u3)[j * 4 + 1]? = some u1
      rw [List.getElem?_set_ne (by omega), List.getElem?_set_ne (by omega), List.getElem?_set_self (by (try simp only [List.length_set]); omega)]
    | 2, _ =>
      show ((((xs.set (j * 4) u0).set (j * 4 + 1) u1).set (j * 4 + 2) u2).set (j * 4 + 3) u3)[j * 4 + 2]? = some u2
      rw [List.getElem?_set_ne (by omega), List.getElem?_set_self (by (try simp only [List.length_set]); omega)]
    | 3, _ =>
      show ((((xs.set (j * 4) u0).set (j * 4 + 1) u1).set (j * 4 + 2) u2).set (j * 4 + 3) u3)[j * 4 + 3]? = some u3
      rw [List.getElem?_set_self (by (try simp only [List.length_set]); omega)]
theorem infoRow : (Try.prog.info? 97).map (fun i => (i.zero, i.size, i.bytes)) = some (some (.agg #[.string ByteArray.empty, .int .i64 0, .int .i64 0, .slice none 0 0]), 4, 56) := by kernel_rfl
theorem Filled.app {α : Type} {f : α → List Value} {s : Nat} {l : List α} {xs : List Value} (h : Filled f s l l.length xs) (a : α) : Filled f s (l ++ [a]) l.length xs := fun j b hj hb i hi => h j b hj (by rw [List.getElem?_append_left hj] at hb; exact hb) i hi
/-- A slice of the call's own is handed back: its elements, each with its own slice, are ds. -/
def RetRow (ds : List DRow) (w : World) (e : Ending) (w' : World) : Prop := ∃ g, e = .returned (.slice (some ⟨g, 0, none⟩) ds.length ds.length) ∧ RdRowIn w' w.heap.size w'.heap.size (some ⟨g, 0, none⟩) ds ∧ Below w.heap.size w w'
set_option maxHeartbeats 3200000 in
theorem toRowS_any (ds : List DRow) (A : Option Addr) (c : Nat) (w : World) (hl : ds.length ≤ 1048576) (hin : ∀ (i : Nat) (d : DRow), ds[i]? = some d → d.2.2.2.length ≤ 1048576) (hr : RdRow w w.heap.size A ds) :
    Calls Try.prog 72 #[.slice A ds.length c] w (RetRow ds w) := by
  obtain ⟨i0, hi0, hz0, hz1, hz2⟩ := info_parts infoRow
  have HIN := Lib.hid hin
  clear hin
  obtain ⟨n, hn⟩ : ∃ n, n = ds.length := ⟨_, rfl⟩
  rw [← hn] at hl
  have hmk := fun W => run_make_rowN (P := Try.prog) 50 97 i0 _ Try.underlying50 hi0 hz0 .i64 .i64 n n (Nat.le_refl _) (by rw [hz2]; omega) (by omega) W
  rw [hz1] at hmk
  have hsz : ∀ W : World, (madeCells (Value.cells (.agg #[.string ByteArray.empty, .int .i64 0, .int .i64 0, .slice none 0 0])) (n * 4)).size = n * 4 := fun _ => size_madeCells _ _
  generalize hZ : madeCells (Value.cells (.agg #[.string ByteArray.empty, .int .i64 0, .int .i64 0, .slice none 0 0])) (n * 4) = Z at hmk hsz
  have HZ := Lib.hid hZ
  have hszZ := Lib.hid (hsz w)
  clear hZ hsz hi0 hz0 hz1 hz2
  unfold RetRow
  rw [← hn]
  have HN := Lib.hid hn
  clear hn
  go_enter Try.func72, Try.ntmps72
  go_wp2_with fail
  clear hmk
  have hown0 := own_made w w.heap.size 97 4 n Z (Nat.le_refl _) (by unfold maxLen; omega) hszZ.out
  have hb0 : Below w.heap.size w (w.alloc (.cells Z 97)) := by repeat' (first | with_reducible assumption | with_reducible exact Below.refl _ _ | (with_reducible refine Below.setCell ?_ ?_ _) | (with_reducible refine Below.alloc ?_ ?_ _) | (with_reducible refine Below.drew ?_) | (with_reducible refine below_dr ?_ _) | (with_reducible refine Below.trans ?_ (Below.mono (by with_reducible assumption) ?_)) | omega | (simp; done) | (simp; omega))
  have hz00 : w.heap.size < (w.alloc (.cells Z 97)).heap.size := by simp
  generalize w.alloc (.cells Z 97) = W0 at hown0 hb0 hz00 ⊢
  go_loopw [4] (fun i wr => ∃ (k : Nat) (ys : List Value) (rows : List ARow), k ≤ n ∧ i = .int .i64 k ∧ rows.length = k ∧ rows.map dRow = ds.take k ∧ wr.ownsRow w.heap.size 97 4 (.slice (some ⟨w.heap.size, 0, none⟩) n n) n ys ∧ Filled cRow 4 rows rows.length ys ∧ (∀ (i : Nat) (a : ARow), rows[i]? = some a → (∃ q, a.2.2.2.1 = some ⟨q, 0, none⟩ ∧ w.heap.size < q) ∧ Rd cTerm 3 wr wr.heap.size a.2.2.2.1 a.2.2.2.2.2) ∧ Below w.heap.size w wr ∧ w.heap.size < wr.heap.size) (fun i _ => n - (intOf i).toNat)
  case atStart => exact ⟨0, _, [], Nat.zero_le _, rfl, rfl, rfl, hown0, fun j a h => by simp at h, fun i a h => by simp at h, hb0, hz00⟩
  case round =>
    obtain ⟨k, ys, rows, hk, rfl, hrk, hrm, hown, hfil, hrs, hbl, hzr⟩ := hrel
    have hxl : ys.length = n * 4 := hown.1
    have HX := Lib.hid hxl
    have HRK := Lib.hid hrk
    have HRM := Lib.hid hrm
    have HRS := Lib.hid hrs
    have HFIL := Lib.hid hfil
    clear hxl hrk hrm hrs hfil
    by_cases hlt : k < n
    · obtain ⟨⟨x0, x1, x2, x3l⟩, ha⟩ : ∃ a, ds[k]? = some a := ⟨ds[k]'(by have := HN.out; omega), List.getElem?_eq_getElem (by have := HN.out; omega)⟩
      obtain ⟨g, o, x3A, x3c, rfl, hg, hc, hrd⟩ := (hr.carry hbl (Nat.le_refl _)).elem ha
      have hl_x3 : x3l.length ≤ 1048576 := HIN.out k _ ha
      have c0 : wr.cell? ⟨g, o + k * 4, none⟩ = some (.string x0) := hc 0 _ rfl
      have c1 : wr.cell? ⟨g, o + k * 4 + 1, none⟩ = some (.int .i64 x1) := hc 1 _ rfl
      have c2 : wr.cell? ⟨g, o + k * 4 + 2, none⟩ = some (.int .i64 x2) := hc 2 _ rfl
      have c3 : wr.cell? ⟨g, o + k * 4 + 3, none⟩ = some (.slice x3A x3l.length x3c) := hc 3 _ rfl
      have HA := Lib.hid ha
      clear hc ha
      have hki : (k : Int) < (n : Int) := by omega
      go_wp2_with fail
      refine (toRow_any x0 x1 x2 x3A x3c x3l _ hl_x3 (hrd.more (by omega))).mono ?_
      intro e wA hq
      obtain ⟨gx3, rfl, own_x3, hbA⟩ := hq
      have hownA := own_stays hown hbA
      have hzA := hbA.size
      have hgx : wr.heap.size ≤ gx3 := by
        rcases Nat.eq_zero_or_pos x3l.length with h0 | h0
        · rcases own_x3.2 with ⟨hh, _⟩ | ⟨q, cap, cur, hv, hb, _⟩
          · simp at hh
          · injection hv with h1; injection h1 with h1; injection h1 with h1; omega
        · rcases own_x3.2 with ⟨hh, _⟩ | ⟨q, cap, cur, hv, hb, _⟩
          · simp at hh
          · injection hv with h1; injection h1 with h1; injection h1 with h1; omega
      obtain ⟨yo0, y0⟩ : ∃ v, wA.cell? ⟨w.heap.size, k * 4, none⟩ = some v := ⟨_, (hownA.cellAt (k * 4) (by have := HX.out; omega)).trans (List.getElem?_eq_getElem (by have := HX.out; omega))⟩
      have yf0 : wA.frozen? ⟨w.heap.size, k * 4, none⟩ = false := hownA.frozenAt (k * 4)
      obtain ⟨yo1, y1⟩ : ∃ v, wA.cell? ⟨w.heap.size, k * 4 + 1, none⟩ = some v := ⟨_, (hownA.cellAt (k * 4 + 1) (by have := HX.out; omega)).trans (List.getElem?_eq_getElem (by have := HX.out; omega))⟩
      have yf1 : wA.frozen? ⟨w.heap.size, k * 4 + 1, none⟩ = false := hownA.frozenAt (k * 4 + 1)
      obtain ⟨yo2, y2⟩ : ∃ v, wA.cell? ⟨w.heap.size, k * 4 + 2, none⟩ = some v := ⟨_, (hownA.cellAt (k * 4 + 2) (by have := HX.out; omega)).trans (List.getElem?_eq_getElem (by have := HX.out; omega))⟩
      have yf2 : wA.frozen? ⟨w.heap.size, k * 4 + 2, none⟩ = false := hownA.frozenAt (k * 4 + 2)
      obtain ⟨yo3, y3⟩ : ∃ v, wA.cell? ⟨w.heap.size, k * 4 + 3, none⟩ = some v := ⟨_, (hownA.cellAt (k * 4 + 3) (by have := HX.out; omega)).trans (List.getElem?_eq_getElem (by have := HX.out; omega))⟩
      have yf3 : wA.frozen? ⟨w.heap.size, k * 4 + 3, none⟩ = false := hownA.frozenAt (k * 4 + 3)
      clear hown
      go_wp2_with fail
      go_roundw
      case rel =>
        have hstep := Filled.step4 (Filled.app HFIL.out (x0, x1, x2, (some ⟨gx3, 0, none⟩, x3l.length, x3l))) (a := (x0, x1, x2, (some ⟨gx3, 0, none⟩, x3l.length, x3l))) (k := rows.length) (by simp) (by have := HX.out; have := HRK.out; omega) (rfl : cRow _ = _)
        rw [HRK.out] at hstep
        have hst0 := World.ownsRow.stored (hownA) (k * 4) (.string x0)
        have hst1 := World.ownsRow.stored (hst0.1) (k * 4 + 1) (.int .i64 x1)
        have hst2 := World.ownsRow.stored (hst1.1) (k * 4 + 2) (.int .i64 x2)
        have hst3 := World.ownsRow.stored (hst2.1) (k * 4 + 3) (.slice (some ⟨gx3, 0, none⟩) x3l.length x3l.length)
        refine ⟨k + 1, _, rows ++ [(x0, x1, x2, (some ⟨gx3, 0, none⟩, x3l.length, x3l))], by omega, by go_num, by rw [List.length_append, HRK.out]; rfl, ?_, hst3.1, ?_, ?_, by repeat' (first | with_reducible assumption | with_reducible exact Below.refl _ _ | (with_reducible refine Below.setCell ?_ ?_ _) | (with_reducible refine Below.alloc ?_ ?_ _) | (with_reducible refine Below.drew ?_) | (with_reducible refine below_dr ?_ _) | (with_reducible refine Below.trans ?_ (Below.mono (by with_reducible assumption) ?_)) | omega | (simp; done) | (simp; omega)), by first | omega | (simp; omega)⟩
        · rw [List.map_append, HRM.out, List.take_add_one, HA.out]; rfl
        · rw [List.length_append, HRK.out]; exact hstep
        · intro i b hb2
          rcases Nat.lt_or_ge i rows.length with hi | hi
          · rw [List.getElem?_append_left hi] at hb2
            obtain ⟨⟨q, hq, hqw⟩, hrd2⟩ := HRS.out i b hb2
            refine ⟨⟨q, hq, hqw⟩, ?_⟩
            have h4 := (hrd2.carry hbA (Nat.le_refl _)).more hzA
            refine Rd.moved (q := q) (B := wA.heap.size) h4 hq ?_ (by simp)
            intro p hp _
            rw [World.cell?_setCell_other _ _ _ _ (fun e => by subst e; simp only at hp; omega), World.cell?_setCell_other _ _ _ _ (fun e => by subst e; simp only at hp; omega), World.cell?_setCell_other _ _ _ _ (fun e => by subst e; simp only at hp; omega), World.cell?_setCell_other _ _ _ _ (fun e => by subst e; simp only at hp; omega)]
          · rw [List.getElem?_append_right hi] at hb2
            have h0 : i - rows.length = 0 := by
              rcases Nat.eq_zero_or_pos (i - rows.length) with h0 | h0
              · exact h0
              · rw [List.getElem?_eq_none (by simp; omega)] at hb2; cases hb2
            rw [h0] at hb2
            simp only [List.getElem?_cons_zero, Option.some.injEq] at hb2
            subst hb2
            refine ⟨⟨gx3, rfl, by omega⟩, ?_⟩
            have h4 : Rd cTerm 3 wA wA.heap.size (some ⟨gx3, 0, none⟩) x3l := Rd.of_own (fun a => cTerm_len a) (by omega) own_x3 (Nat.le_refl _)
            refine Rd.moved (q := gx3) (B := wA.heap.size) h4 rfl ?_ (by simp)
            intro p hp _
            rw [World.cell?_setCell_other _ _ _ _ (fun e => by subst e; simp only at hp; omega), World.cell?_setCell_other _ _ _ _ (fun e => by subst e; simp only at hp; omega), World.cell?_setCell_other _ _ _ _ (fun e => by subst e; simp only at hp; omega), World.cell?_setCell_other _ _ _ _ (fun e => by subst e; simp only at hp; omega)]
      case measure => simp [intOf]; omega
    · obtain rfl : k = n := by omega
      go_wp2_with fail
      go_ret
      have hx := Filled.done (fun a => cRow_len a) (by omega) HFIL.out (by rw [HRK.out]; exact HX.out)
      rw [hx] at hown
      refine ⟨w.heap.size, rfl, fun w2 hag => ⟨rows, ?_, ?_, fun i a ha => ?_⟩, hbl⟩
      · have := HRM.out; rw [List.take_of_length_le (by have := HN.out; omega)] at this; exact this
      · exact Rd.moved (Rd.of_own (fun a => cRow_len a) (by omega) hown (Nat.le_refl _)) rfl (fun p hp hq => hag p (by omega) (by omega)) (Nat.le_refl _)
      · obtain ⟨⟨q, hq, hqw⟩, hrd2⟩ := HRS.out i a ha
        exact Rd.moved hrd2 hq (fun p hp hq => hag p (by omega) (by omega)) (Nat.le_refl _)
set_option maxHeartbeats 3200000 in
theorem eqRowS_same (ds : List DRow) (A A' : Option Addr) (c c' : Nat) (w : World) (hl : ds.length ≤ 4611686018427387904) (hin : ∀ (i : Nat) (d : DRow), ds[i]? = some d → d.2.2.2.length ≤ 4611686018427387904) (hr : RdRow w w.heap.size A ds) (hr' : RdRow w w.heap.size A' ds) :
    Calls Try.prog 74 #[.slice A ds.length c, .slice A' ds.length c'] w fun e w' => e = .returned (.bool true) ∧ Below w.heap.size w w' := by
  have HIN := Lib.hid hin
  clear hin
  obtain ⟨n, hn⟩ : ∃ n, n = ds.length := ⟨_, rfl⟩
  rw [← hn] at hl ⊢
  have HN := Lib.hid hn
  clear hn
  have e0 : ((n : Int) != (n : Int)) = false := by simp
  go_enter Try.func74, Try.ntmps74
  go_wp2_with fail
  go_loopw [5] (fun i wr => ∃ k : Nat, k ≤ n ∧ i = .int .i64 k ∧ Below w.heap.size w wr) (fun i _ => n - (intOf i).toNat)
  case atStart => exact ⟨0, Nat.zero_le _, rfl, by repeat' (first | with_reducible assumption | with_reducible exact Below.refl _ _ | (with_reducible refine Below.setCell ?_ ?_ _) | (with_reducible refine Below.alloc ?_ ?_ _) | (with_reducible refine Below.drew ?_) | (with_reducible refine below_dr ?_ _) | (with_reducible refine Below.trans ?_ (Below.mono (by with_reducible assumption) ?_)) | omega | (simp; done) | (simp; omega))⟩
  case round =>
    obtain ⟨k, hk, rfl, hbl⟩ := hrel
    by_cases hlt : k < n
    · obtain ⟨⟨x0, x1, x2, x3l⟩, ha⟩ : ∃ a, ds[k]? = some a := ⟨ds[k]'(by have := HN.out; omega), List.getElem?_eq_getElem (by have := HN.out; omega)⟩
      obtain ⟨g, o, x3A, x3c, rfl, hg, hc, hrd⟩ := (hr.carry hbl (Nat.le_refl _)).elem ha
      obtain ⟨g2, o2, x3A', x3c', rfl, hg2, hd, hrd'⟩ := (hr'.carry hbl (Nat.le_refl _)).elem ha
      have hl_x3 : x3l.length ≤ 4611686018427387904 := HIN.out k _ ha
      have c0 : wr.cell? ⟨g, o + k * 4, none⟩ = some (.string x0) := hc 0 _ rfl
      have c1 : wr.cell? ⟨g, o + k * 4 + 1, none⟩ = some (.int .i64 x1) := hc 1 _ rfl
      have c2 : wr.cell? ⟨g, o + k * 4 + 2, none⟩ = some (.int .i64 x2) := hc 2 _ rfl
      have c3 : wr.cell? ⟨g, o + k * 4 + 3, none⟩ = some (.slice x3A x3l.length x3c) := hc 3 _ rfl
      have d0 : wr.cell? ⟨g2, o2 + k * 4, none⟩ = some (.string x0) := hd 0 _ rfl
      have d1 : wr.cell? ⟨g2, o2 + k * 4 + 1, none⟩ = some (.int .i64 x1) := hd 1 _ rfl
      have d2 : wr.cell? ⟨g2, o2 + k * 4 + 2, none⟩ = some (.int .i64 x2) := hd 2 _ rfl
      have d3 : wr.cell? ⟨g2, o2 + k * 4 + 3, none⟩ = some (.slice x3A' x3l.length x3c') := hd 3 _ rfl
      clear hc hd ha hr hr'
      have hzr := hbl.size
      have hki : (k : Int) < (n : Int) := by omega
      have hgw : g < wr.heap.size := by omega
      have hgw2 : g2 < wr.heap.size := by omega
      replace hrd := hrd.more hzr
      replace hrd' := hrd'.more hzr
      go_wp2_with fail
      go_region_held3 (fun w' => w'.cell? ⟨g, o + k * 4, none⟩ = some (.string x0) ∧ w'.cell? ⟨g, o + k * 4 + 1, none⟩ = some (.int .i64 x1) ∧ w'.cell? ⟨g, o + k * 4 + 2, none⟩ = some (.int .i64 x2) ∧ w'.cell? ⟨g, o + k * 4 + 3, none⟩ = some (.slice x3A x3l.length x3c) ∧ w'.cell? ⟨g2, o2 + k * 4, none⟩ = some (.string x0) ∧ w'.cell? ⟨g2, o2 + k * 4 + 1, none⟩ = some (.int .i64 x1) ∧ w'.cell? ⟨g2, o2 + k * 4 + 2, none⟩ = some (.int .i64 x2) ∧ w'.cell? ⟨g2, o2 + k * 4 + 3, none⟩ = some (.slice x3A' x3l.length x3c') ∧ g < w'.heap.size ∧ g2 < w'.heap.size)
        (first | exact ⟨c0, c1, c2, c3, d0, d1, d2, d3, hgw, hgw2⟩ | assumption | fail)
        (first
          | (go_at_call 108; (with_reducible refine (eqRow_same x0 x1 x2 x3A x3c x3l x3A' x3c' _ hl_x3 ?_ ?_).mono ?_); (focus (first | exact hrd | exact hrd.drew)); (focus (first | exact hrd' | exact hrd'.drew)); rintro e wA ⟨rfl, hbA⟩; have hzA := hbA.size; (try simp only [World.size_drew] at hzA); have hS :  wA.cell? ⟨g, o + k * 4, none⟩ = some (.string x0) ∧ wA.cell? ⟨g, o + k * 4 + 1, none⟩ = some (.int .i64 x1) ∧ wA.cell? ⟨g, o + k * 4 + 2, none⟩ = some (.int .i64 x2) ∧ wA.cell? ⟨g, o + k * 4 + 3, none⟩ = some (.slice x3A x3l.length x3c) ∧ wA.cell? ⟨g2, o2 + k * 4, none⟩ = some (.string x0) ∧ wA.cell? ⟨g2, o2 + k * 4 + 1, none⟩ = some (.int .i64 x1) ∧ wA.cell? ⟨g2, o2 + k * 4 + 2, none⟩ = some (.int .i64 x2) ∧ wA.cell? ⟨g2, o2 + k * 4 + 3, none⟩ = some (.slice x3A' x3l.length x3c') ∧ g < wA.heap.size ∧ g2 < wA.heap.size := ⟨(hbA.cell (p := ⟨g, _, none⟩) (by simp only [World.size_drew]; omega)).trans c0, (hbA.cell (p := ⟨g, _, none⟩) (by simp only [World.size_drew]; omega)).trans c1, (hbA.cell (p := ⟨g, _, none⟩) (by simp only [World.size_drew]; omega)).trans c2, (hbA.cell (p := ⟨g, _, none⟩) (by simp only [World.size_drew]; omega)).trans c3, (hbA.cell (p := ⟨g2, _, none⟩) (by simp only [World.size_drew]; omega)).trans d0, (hbA.cell (p := ⟨g2, _, none⟩) (by simp only [World.size_drew]; omega)).trans d1, (hbA.cell (p := ⟨g2, _, none⟩) (by simp only [World.size_drew]; omega)).trans d2, (hbA.cell (p := ⟨g2, _, none⟩) (by simp only [World.size_drew]; omega)).trans d3, by omega, by omega⟩))
      all_goals
        go_wp2_with fail
        go_roundw
        case rel => exact ⟨k + 1, by omega, by go_num, by repeat' (first | with_reducible assumption | with_reducible exact Below.refl _ _ | (with_reducible refine Below.setCell ?_ ?_ _) | (with_reducible refine Below.alloc ?_ ?_ _) | (with_reducible refine Below.drew ?_) | (with_reducible refine below_dr ?_ _) | (with_reducible refine Below.trans ?_ (Below.mono (by with_reducible assumption) ?_)) | omega | (simp; done) | (simp; omega))⟩
        case measure => simp [intOf]; omega
    · go_wp2_with fail
      go_ret
      exact ⟨rfl, hbl⟩
theorem okDRow_all {w : World} {B : Nat} (l : List ARow) (h : ∀ (i : Nat) (a : ARow), l[i]? = some a → okRow w B a) : ∀ (i : Nat) (d : DRow), (l.map dRow)[i]? = some d → okDRow d := by
  intro i d hd
  rw [List.getElem?_map] at hd
  cases hr : l[i]? with
  | none => rw [hr] at hd; cases hd
  | some a =>
    rw [hr] at hd
    obtain rfl := Option.some.inj hd
    obtain ⟨s0, _, _, nc, cm, _, ok⟩ := h i a hr
    exact ⟨s0, Nat.le_trans nc cm, fun _ _ i b hb => ok i b hb⟩
theorem inRow {ds : List DRow} (h : totRow ds ≤ 1048576) : ∀ (i : Nat) (d : DRow), ds[i]? = some d → d.2.2.2.length ≤ 1048576 := by
  intro i d hd
  have h1 := totRow_snoc ds i d hd
  have h2 := totRow_le ds (i + 1)
  have h3 : d.2.2.2.length ≤ oneRow d := by unfold oneRow; omega
  omega
set_option maxHeartbeats 800000 in
theorem szSystem_yes (x0A : Option Addr) (x0c : Nat) (x0d : List DRow) (left : Int) (w : World) (h0 : 0 ≤ left) (h1 : left ≤ 1048576) (hm : x0d.length ≤ 9223372036854775807) (h : ((x0d.length + totRow x0d : Nat) : Int) ≤ left) (r_x0 : RdRow w w.heap.size x0A x0d) (hok : ∀ (i : Nat) (d : DRow), x0d[i]? = some d → okDRow d) :
    Calls Try.prog 29 #[.agg #[.slice x0A x0d.length x0c], .int .i64 left] w fun e w' => e = .returned (.int .i64 (left - (x0d.length + totRow x0d : Nat))) ∧ Below w.heap.size w w' := by
  have HK := Lib.hid hok
  clear hok
  have HH := Lib.hid h
  clear h
  obtain ⟨V, hV⟩ : ∃ V : Int, V = left - (x0d.length + totRow x0d : Nat) := ⟨_, rfl⟩
  have HV := Lib.hid hV
  rw [← hV]
  clear hV
  go_enter Try.func29, Try.ntmps29
  go_wp2_with fail
  refine (szRowS_yes x0d x0A x0c left _ h1 HH.out ?_ HK.out).mono ?_
  · exact (r_x0.carry (w' := _) (by repeat' (first | with_reducible assumption | with_reducible exact Below.refl _ _ | (with_reducible refine Below.setCell ?_ ?_ _) | (with_reducible refine Below.alloc ?_ ?_ _) | (with_reducible refine Below.drew ?_) | (with_reducible refine below_dr ?_ _) | (with_reducible refine Below.trans ?_ (Below.mono (by with_reducible assumption) ?_)) | omega | (simp; done) | (simp; omega))) (Nat.le_refl _)).more (by (try simp only [World.size_setCell]); (try simp only [World.size_drew]); (try simp only [World.size_alloc]); omega)
  rw [← HV.out]
  rintro e wZ ⟨rfl, hbZ⟩
  have hv : 0 ≤ V := by have := HV.out; have := HH.out; omega
  go_wp2_with fail
  go_ret
  exact ⟨ret_i rfl, by repeat' (first | with_reducible assumption | with_reducible exact Below.refl _ _ | (with_reducible refine Below.setCell ?_ ?_ _) | (with_reducible refine Below.alloc ?_ ?_ _) | (with_reducible refine Below.drew ?_) | (with_reducible refine below_dr ?_ _) | (with_reducible refine Below.trans ?_ (Below.mono (by with_reducible assumption) ?_)) | omega | (simp; done) | (simp; omega))⟩
set_option maxHeartbeats 800000 in
theorem szSystem_no (x0A : Option Addr) (x0c : Nat) (x0d : List DRow) (left : Int) (w : World) (h0 : 0 ≤ left) (h1 : left ≤ 1048576) (hm : x0d.length ≤ 9223372036854775807) (h : left < ((x0d.length + totRow x0d : Nat) : Int)) (r_x0 : RdRow w w.heap.size x0A x0d) (hok : ∀ (i : Nat) (d : DRow), x0d[i]? = some d → okDRow d) :
    Calls Try.prog 29 #[.agg #[.slice x0A x0d.length x0c], .int .i64 left] w fun e w' => e = .returned (.int .i64 (-1)) ∧ Below w.heap.size w w' := by
  have HK := Lib.hid hok
  clear hok
  have HH := Lib.hid h
  clear h
  obtain ⟨V, hV⟩ : ∃ V : Int, V = -1 := ⟨_, rfl⟩
  have HV := Lib.hid hV
  rw [← hV]
  clear hV
  go_enter Try.func29, Try.ntmps29
  go_wp2_with fail
  refine (szRowS_no x0d x0A x0c left _ h0 h1 hm HH.out ?_ HK.out).mono ?_
  · exact (r_x0.carry (w' := _) (by repeat' (first | with_reducible assumption | with_reducible exact Below.refl _ _ | (with_reducible refine Below.setCell ?_ ?_ _) | (with_reducible refine Below.alloc ?_ ?_ _) | (with_reducible refine Below.drew ?_) | (with_reducible refine below_dr ?_ _) | (with_reducible refine Below.trans ?_ (Below.mono (by with_reducible assumption) ?_)) | omega | (simp; done) | (simp; omega))) (Nat.le_refl _)).more (by (try simp only [World.size_setCell]); (try simp only [World.size_drew]); (try simp only [World.size_alloc]); omega)
  rw [← HV.out]
  rintro e wZ ⟨rfl, hbZ⟩
  have hv : V < 0 := by have := HV.out; have := HH.out; omega
  go_wp2_with fail
  go_ret
  exact ⟨ret_i (by have := HV.out; omega), by repeat' (first | with_reducible assumption | with_reducible exact Below.refl _ _ | (with_reducible refine Below.setCell ?_ ?_ _) | (with_reducible refine Below.alloc ?_ ?_ _) | (with_reducible refine Below.drew ?_) | (with_reducible refine below_dr ?_ _) | (with_reducible refine Below.trans ?_ (Below.mono (by with_reducible assumption) ?_)) | omega | (simp; done) | (simp; omega))⟩
def ToSystem (x0A : Option Addr) (x0c : Nat) (x0d : List DRow) (w : World) (e : Ending) (w' : World) : Prop := ∃ gx0 : Nat, e = .returned (.agg #[.slice (some ⟨gx0, 0, none⟩) x0d.length x0d.length]) ∧ RdRowIn w' w.heap.size w'.heap.size (some ⟨gx0, 0, none⟩) x0d ∧ Below w.heap.size w w'
set_option maxHeartbeats 1600000 in
theorem toSystem_any (x0A : Option Addr) (x0c : Nat) (x0d : List DRow) (w : World) (hl_x0 : x0d.length ≤ 1048576) (hin : ∀ (i : Nat) (d : DRow), x0d[i]? = some d → d.2.2.2.length ≤ 1048576) (r_x0 : RdRow w w.heap.size x0A x0d) :
    Calls Try.prog 31 #[.agg #[.slice x0A x0d.length x0c]] w (ToSystem x0A x0c x0d w) := by
  have HIN := Lib.hid hin
  clear hin
  go_enter Try.func31, Try.ntmps31
  go_wp2_with fail
  refine (toRowS_any x0d x0A x0c _ hl_x0 HIN.out ?_).mono ?_
  · exact (r_x0.carry (w' := _) (by repeat' (first | with_reducible assumption | with_reducible exact Below.refl _ _ | (with_reducible refine Below.setCell ?_ ?_ _) | (with_reducible refine Below.alloc ?_ ?_ _) | (with_reducible refine Below.drew ?_) | (with_reducible refine below_dr ?_ _) | (with_reducible refine Below.trans ?_ (Below.mono (by with_reducible assumption) ?_)) | omega | (simp; done) | (simp; omega))) (Nat.le_refl _)).more (by (try simp only [World.size_setCell]); (try simp only [World.size_drew]); (try simp only [World.size_alloc]); omega)
  intro e wZ0 hq
  obtain ⟨gx0, rfl, own_x0, hbwZ0⟩ := hq
  replace own_x0 := own_x0.down (lo' := w.heap.size + 1 + 1 + 1) (by (try simp only [World.size_setCell]); (try simp only [World.size_alloc]); omega)
  obtain ⟨hcwZ0, hfwZ0⟩ := bcell hbwZ0
  have hzwZ0 := hbwZ0.size
  (try simp only [World.size_setCell] at hcwZ0 hfwZ0 hzwZ0)
  (try simp only [World.size_drew] at hcwZ0 hfwZ0 hzwZ0)
  (try simp only [World.size_alloc] at hcwZ0 hfwZ0 hzwZ0)
  have qwZ00 : w.heap.size < wZ0.heap.size := by omega
  have qwZ01 : w.heap.size + 1 < wZ0.heap.size := by omega
  have qwZ02 : w.heap.size + 1 + 1 < wZ0.heap.size := by omega
  go_wp2_with fail
  refine bodyPost_ret (v := .agg #[.slice (some ⟨gx0, 0, none⟩) x0d.length x0d.length]) (by simp [results, Try.results31, go_sem, *]) rfl ⟨_, rfl, ?_, ?_⟩
  · simp only [World.size_setCell]
    with_reducible refine RdRowIn.down (lo := w.heap.size + 1 + 1 + 1) ?_ (by omega)
    repeat (with_reducible refine RdRowIn.far ?_ (by simp only; omega) _)
    with_reducible exact own_x0
  · repeat' (first | with_reducible assumption | with_reducible exact Below.refl _ _ | (with_reducible refine Below.setCell ?_ ?_ _) | (with_reducible refine Below.alloc ?_ ?_ _) | (with_reducible refine Below.drew ?_) | (with_reducible refine below_dr ?_ _) | (with_reducible refine Below.trans ?_ (Below.mono (by with_reducible assumption) ?_)) | omega | (simp; done) | (simp; omega))
set_option maxHeartbeats 1600000 in
theorem eqSystem_same (x0A : Option Addr) (x0c : Nat) (x0d : List DRow) (x0A' : Option Addr) (x0c' : Nat) (w : World) (hl_x0 : x0d.length ≤ 4611686018427387904) (hin : ∀ (i : Nat) (d : DRow), x0d[i]? = some d → d.2.2.2.length ≤ 4611686018427387904) (r_x0 : RdRow w w.heap.size x0A x0d) (r'_x0 : RdRow w w.heap.size x0A' x0d) :
    Calls Try.prog 33 #[.agg #[.slice x0A x0d.length x0c], .agg #[.slice x0A' x0d.length x0c']] w fun e w' => e = .returned (.bool true) ∧ Below w.heap.size w w' := by
  have HIN := Lib.hid hin
  clear hin
  go_enter Try.func33, Try.ntmps33
  go_wp2_with fail
  refine (eqRowS_same x0d x0A x0A' x0c x0c' _ hl_x0 HIN.out ?_ ?_).mono ?_
  · exact (r_x0.carry (w' := _) (by repeat' (first | with_reducible assumption | with_reducible exact Below.refl _ _ | (with_reducible refine Below.setCell ?_ ?_ _) | (with_reducible refine Below.alloc ?_ ?_ _) | (with_reducible refine Below.drew ?_) | (with_reducible refine below_dr ?_ _) | (with_reducible refine Below.trans ?_ (Below.mono (by with_reducible assumption) ?_)) | omega | (simp; done) | (simp; omega))) (Nat.le_refl _)).more (by (try simp only [World.size_setCell]); (try simp only [World.size_drew]); (try simp only [World.size_alloc]); omega)
  · exact (r'_x0.carry (w' := _) (by repeat' (first | with_reducible assumption | with_reducible exact Below.refl _ _ | (with_reducible refine Below.setCell ?_ ?_ _) | (with_reducible refine Below.alloc ?_ ?_ _) | (with_reducible refine Below.drew ?_) | (with_reducible refine below_dr ?_ _) | (with_reducible refine Below.trans ?_ (Below.mono (by with_reducible assumption) ?_)) | omega | (simp; done) | (simp; omega))) (Nat.le_refl _)).more (by (try simp only [World.size_setCell]); (try simp only [World.size_drew]); (try simp only [World.size_alloc]); omega)
  rintro e wZ0 ⟨rfl, hbwZ0⟩
  obtain ⟨hcwZ0, hfwZ0⟩ := bcell hbwZ0
  have hzwZ0 := hbwZ0.size
  (try simp only [World.size_setCell] at hcwZ0 hfwZ0 hzwZ0)
  (try simp only [World.size_drew] at hcwZ0 hfwZ0 hzwZ0)
  (try simp only [World.size_alloc] at hcwZ0 hfwZ0 hzwZ0)
  have qwZ00 : w.heap.size < wZ0.heap.size := by omega
  have qwZ01 : w.heap.size + 1 < wZ0.heap.size := by omega
  go_wp2_with fail
  go_ret
  exact ⟨rfl, by repeat' (first | with_reducible assumption | with_reducible exact Below.refl _ _ | (with_reducible refine Below.setCell ?_ ?_ _) | (with_reducible refine Below.alloc ?_ ?_ _) | (with_reducible refine Below.drew ?_) | (with_reducible refine below_dr ?_ _) | (with_reducible refine Below.trans ?_ (Below.mono (by with_reducible assumption) ?_)) | omega | (simp; done) | (simp; omega))⟩
end Go.Proofs.Ytmlhchiinlnfpaa
