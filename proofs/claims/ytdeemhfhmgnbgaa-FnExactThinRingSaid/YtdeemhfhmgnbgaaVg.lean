/- Walks: lists of rings and regions are copied and compared. -/
import Derived.Test.YtdeemhfhmgnbgaaVf
namespace Go.Proofs.Ytdeemhfhmgnbgaa
open Go.RowKit
set_option linter.unusedVariables false
/-- The cells of one block stand as they were. -/
theorem Rd.moved {α : Type} {f : α → List Value} {s : Nat} {w w' : World} {B B' q : Nat} {A : Option Addr} {l : List α} (h : Rd f s w B A l) (hA : A = some ⟨q, 0, none⟩) (hc : ∀ p : Addr, p.block = q → q < B → w'.cell? p = w.cell? p) (hB : B ≤ B') : Rd f s w' B' A l := by
  rcases h with rfl | ⟨g, o, hA2, hg, h⟩
  · exact .inl rfl
  · obtain rfl : g = q := by rw [hA] at hA2; injection hA2 with h1; injection h1 with h1; exact h1.symm
    exact .inr ⟨g, o, hA2, by omega, fun k a hka i u hu => (hc _ rfl hg).trans (h k a hka i u hu)⟩
theorem Filled.step1 {α : Type} {f : α → List Value} {l : List α} {k : Nat} {xs : List Value} (h : Filled f 1 l k xs) {a : α} {u0 : Value} (ha : l[k]? = some a) (hx : k * 1 + 1 ≤ xs.length) (hfa : f a = [u0]) : Filled f 1 l (k + 1) (xs.set k u0) := by
  intro j b hj hb i hi
  obtain rfl : i = 0 := by omega
  rcases Nat.lt_or_ge j k with hlt | hge
  · rw [List.getElem?_set_ne (by omega)]
    exact h j b hlt hb 0 hi
  · obtain rfl : j = k := by omega
    obtain rfl : a = b := Option.some.inj (ha.symm.trans hb)
    rw [hfa, show j * 1 + 0 = j by omega, List.getElem?_set_self (by omega)]
    rfl
theorem infoRing : (Try.prog.info? 55).map (fun i => (i.zero, i.size, i.bytes)) = some (some (.agg #[.slice none 0 0]), 1, 24) := by kernel_rfl
theorem Filled.app {α : Type} {f : α → List Value} {s : Nat} {l : List α} {xs : List Value} (h : Filled f s l l.length xs) (a : α) : Filled f s (l ++ [a]) l.length xs := fun j b hj hb i hi => h j b hj (by rw [List.getElem?_append_left hj] at hb; exact hb) i hi
/-- A slice of the call's own is handed back: its elements, each with its own slice, are ds. -/
def RetRing (ds : List DRing) (w : World) (e : Ending) (w' : World) : Prop := ∃ g, e = .returned (.slice (some ⟨g, 0, none⟩) ds.length ds.length) ∧ RdRingIn w' w.heap.size w'.heap.size (some ⟨g, 0, none⟩) ds ∧ Below w.heap.size w w'
set_option maxHeartbeats 3200000 in
theorem toRingS_any (ds : List DRing) (A : Option Addr) (c : Nat) (w : World) (hl : ds.length ≤ 1048576) (hin : ∀ (i : Nat) (d : DRing), ds[i]? = some d → d.length ≤ 1048576) (hr : RdRing w w.heap.size A ds) :
    Calls Try.prog 45 #[.slice A ds.length c] w (RetRing ds w) := by
  obtain ⟨i0, hi0, hz0, hz1, hz2⟩ := info_parts infoRing
  have HIN := Lib.hid hin
  clear hin
  obtain ⟨n, hn⟩ : ∃ n, n = ds.length := ⟨_, rfl⟩
  rw [← hn] at hl
  have hmk := fun W => run_make_rowN (P := Try.prog) 38 55 i0 _ Try.underlying38 hi0 hz0 .i64 .i64 n n (Nat.le_refl _) (by rw [hz2]; omega) (by omega) W
  rw [hz1] at hmk
  have hsz : ∀ W : World, (madeCells (Value.cells (.agg #[.slice none 0 0])) (n * 1)).size = n * 1 := fun _ => size_madeCells _ _
  generalize hZ : madeCells (Value.cells (.agg #[.slice none 0 0])) (n * 1) = Z at hmk hsz
  have HZ := Lib.hid hZ
  have hszZ := Lib.hid (hsz w)
  clear hZ hsz hi0 hz0 hz1 hz2
  unfold RetRing
  rw [← hn]
  have HN := Lib.hid hn
  clear hn
  go_enter Try.func45, Try.ntmps45
  go_wp2_with fail
  clear hmk
  have hown0 := own_made w w.heap.size 55 1 n Z (Nat.le_refl _) (by unfold maxLen; omega) hszZ.out
  have hb0 : Below w.heap.size w (w.alloc (.cells Z 55)) := by repeat' (first | with_reducible assumption | with_reducible exact Below.refl _ _ | (with_reducible refine Below.setCell ?_ ?_ _) | (with_reducible refine Below.alloc ?_ ?_ _) | (with_reducible refine Below.drew ?_) | (with_reducible refine below_dr ?_ _) | (with_reducible refine Below.trans ?_ (Below.mono (by with_reducible assumption) ?_)) | omega | (simp; done) | (simp; omega))
  have hz00 : w.heap.size < (w.alloc (.cells Z 55)).heap.size := by simp
  generalize w.alloc (.cells Z 55) = W0 at hown0 hb0 hz00 ⊢
  go_loopw [4] (fun i wr => ∃ (k : Nat) (ys : List Value) (rows : List ARing), k ≤ n ∧ i = .int .i64 k ∧ rows.length = k ∧ rows.map dRing = ds.take k ∧ wr.ownsRow w.heap.size 55 1 (.slice (some ⟨w.heap.size, 0, none⟩) n n) n ys ∧ Filled cRing 1 rows rows.length ys ∧ (∀ (i : Nat) (a : ARing), rows[i]? = some a → (∃ q, a.1 = some ⟨q, 0, none⟩ ∧ w.heap.size < q) ∧ Rd cPt 2 wr wr.heap.size a.1 a.2.2) ∧ Below w.heap.size w wr ∧ w.heap.size < wr.heap.size) (fun i _ => n - (intOf i).toNat)
  case atStart => exact ⟨0, _, [], Nat.zero_le _, rfl, rfl, rfl, hown0, fun j a h => by simp at h, fun i a h => by simp at h, hb0, hz00⟩
  case round =>
    obtain ⟨k, ys, rows, hk, rfl, hrk, hrm, hown, hfil, hrs, hbl, hzr⟩ := hrel
    have hxl : ys.length = n * 1 := hown.1
    have HX := Lib.hid hxl
    have HRK := Lib.hid hrk
    have HRM := Lib.hid hrm
    have HRS := Lib.hid hrs
    have HFIL := Lib.hid hfil
    clear hxl hrk hrm hrs hfil
    by_cases hlt : k < n
    · obtain ⟨x0l, ha⟩ : ∃ a, ds[k]? = some a := ⟨ds[k]'(by have := HN.out; omega), List.getElem?_eq_getElem (by have := HN.out; omega)⟩
      obtain ⟨g, o, x0A, x0c, rfl, hg, hc, hrd⟩ := (hr.carry hbl (Nat.le_refl _)).elem ha
      have hl_x0 : x0l.length ≤ 1048576 := HIN.out k _ ha
      have c0 : wr.cell? ⟨g, o + k, none⟩ = some (.slice x0A x0l.length x0c) := by have h := hc 0 _ rfl; rw [Nat.mul_one] at h; exact h
      have HA := Lib.hid ha
      clear hc ha
      have hki : (k : Int) < (n : Int) := by omega
      go_wp2_with fail
      refine (toRing_any x0A x0c x0l _ hl_x0 (hrd.more (by omega))).mono ?_
      intro e wA hq
      obtain ⟨gx0, rfl, own_x0, hbA⟩ := hq
      have hownA := own_stays hown hbA
      have hzA := hbA.size
      have hgx : wr.heap.size ≤ gx0 := by
        rcases Nat.eq_zero_or_pos x0l.length with h0 | h0
        · rcases own_x0.2 with ⟨hh, _⟩ | ⟨q, cap, cur, hv, hb, _⟩
          · simp at hh
          · injection hv with h1; injection h1 with h1; injection h1 with h1; omega
        · rcases own_x0.2 with ⟨hh, _⟩ | ⟨q, cap, cur, hv, hb, _⟩
          · simp at hh
          · injection hv with h1; injection h1 with h1; injection h1 with h1; omega
      obtain ⟨yo0, y0⟩ : ∃ v, wA.cell? ⟨w.heap.size, k, none⟩ = some v := ⟨_, (hownA.cellAt (k) (by have := HX.out; omega)).trans (List.getElem?_eq_getElem (by have := HX.out; omega))⟩
      have yf0 : wA.frozen? ⟨w.heap.size, k, none⟩ = false := hownA.frozenAt (k)
      clear hown
      go_wp2_with fail
      go_roundw
      case rel =>
        have hstep := Filled.step1 (Filled.app HFIL.out (some ⟨gx0, 0, none⟩, x0l.length, x0l)) (a := (some ⟨gx0, 0, none⟩, x0l.length, x0l)) (k := rows.length) (by simp) (by have := HX.out; have := HRK.out; omega) (rfl : cRing _ = _)
        rw [HRK.out] at hstep
        have hst0 := World.ownsRow.stored (hownA) (k) (.slice (some ⟨gx0, 0, none⟩) x0l.length x0l.length)
        refine ⟨k + 1, _, rows ++ [(some ⟨gx0, 0, none⟩, x0l.length, x0l)], by omega, by go_num, by rw [List.length_append, HRK.out]; rfl, ?_, hst0.1, ?_, ?_, by repeat' (first | with_reducible assumption | with_reducible exact Below.refl _ _ | (with_reducible refine Below.setCell ?_ ?_ _) | (with_reducible refine Below.alloc ?_ ?_ _) | (with_reducible refine Below.drew ?_) | (with_reducible refine below_dr ?_ _) | (with_reducible refine Below.trans ?_ (Below.mono (by with_reducible assumption) ?_)) | omega | (simp; done) | (simp; omega)), by first | omega | (simp; omega)⟩
        · rw [List.map_append, HRM.out, List.take_add_one, HA.out]; rfl
        · rw [List.length_append, HRK.out]; exact hstep
        · intro i b hb2
          rcases Nat.lt_or_ge i rows.length with hi | hi
          · rw [List.getElem?_append_left hi] at hb2
            obtain ⟨⟨q, hq, hqw⟩, hrd2⟩ := HRS.out i b hb2
            refine ⟨⟨q, hq, hqw⟩, ?_⟩
            have h4 := (hrd2.carry hbA (Nat.le_refl _)).more hzA
            refine Rd.moved (q := q) (B := wA.heap.size) h4 hq ?_ (by simp)
            intro p hp _
            rw [World.cell?_setCell_other _ _ _ _ (fun e => by subst e; simp only at hp; omega)]
          · rw [List.getElem?_append_right hi] at hb2
            have h0 : i - rows.length = 0 := by
              rcases Nat.eq_zero_or_pos (i - rows.length) with h0 | h0
              · exact h0
              · rw [List.getElem?_eq_none (by simp; omega)] at hb2; cases hb2
            rw [h0] at hb2
            simp only [List.getElem?_cons_zero, Option.some.injEq] at hb2
            subst hb2
            refine ⟨⟨gx0, rfl, by omega⟩, ?_⟩
            have h4 : Rd cPt 2 wA wA.heap.size (some ⟨gx0, 0, none⟩) x0l := Rd.of_own (fun a => cPt_len a) (by omega) own_x0 (Nat.le_refl _)
            refine Rd.moved (q := gx0) (B := wA.heap.size) h4 rfl ?_ (by simp)
            intro p hp _
            rw [World.cell?_setCell_other _ _ _ _ (fun e => by subst e; simp only at hp; omega)]
      case measure => simp [intOf]; omega
    · obtain rfl : k = n := by omega
      go_wp2_with fail
      go_ret
      have hx := Filled.done (fun a => cRing_len a) (by omega) HFIL.out (by rw [HRK.out]; exact HX.out)
      rw [hx] at hown
      refine ⟨w.heap.size, rfl, fun w2 hag => ⟨rows, ?_, ?_, fun i a ha => ?_⟩, hbl⟩
      · have := HRM.out; rw [List.take_of_length_le (by have := HN.out; omega)] at this; exact this
      · exact Rd.moved (Rd.of_own (fun a => cRing_len a) (by omega) hown (Nat.le_refl _)) rfl (fun p hp hq => hag p (by omega) (by omega)) (Nat.le_refl _)
      · obtain ⟨⟨q, hq, hqw⟩, hrd2⟩ := HRS.out i a ha
        exact Rd.moved hrd2 hq (fun p hp hq => hag p (by omega) (by omega)) (Nat.le_refl _)
set_option maxHeartbeats 3200000 in
theorem eqRingS_same (ds : List DRing) (A A' : Option Addr) (c c' : Nat) (w : World) (hl : ds.length ≤ 4611686018427387904) (hin : ∀ (i : Nat) (d : DRing), ds[i]? = some d → d.length ≤ 4611686018427387904) (hr : RdRing w w.heap.size A ds) (hr' : RdRing w w.heap.size A' ds) :
    Calls Try.prog 49 #[.slice A ds.length c, .slice A' ds.length c'] w fun e w' => e = .returned (.bool true) ∧ Below w.heap.size w w' := by
  have HIN := Lib.hid hin
  clear hin
  obtain ⟨n, hn⟩ : ∃ n, n = ds.length := ⟨_, rfl⟩
  rw [← hn] at hl ⊢
  have HN := Lib.hid hn
  clear hn
  have e0 : ((n : Int) != (n : Int)) = false := by simp
  go_enter Try.func49, Try.ntmps49
  go_wp2_with fail
  go_loopw [5] (fun i wr => ∃ k : Nat, k ≤ n ∧ i = .int .i64 k ∧ Below w.heap.size w wr) (fun i _ => n - (intOf i).toNat)
  case atStart => exact ⟨0, Nat.zero_le _, rfl, by repeat' (first | with_reducible assumption | with_reducible exact Below.refl _ _ | (with_reducible refine Below.setCell ?_ ?_ _) | (with_reducible refine Below.alloc ?_ ?_ _) | (with_reducible refine Below.drew ?_) | (with_reducible refine below_dr ?_ _) | (with_reducible refine Below.trans ?_ (Below.mono (by with_reducible assumption) ?_)) | omega | (simp; done) | (simp; omega))⟩
  case round =>
    obtain ⟨k, hk, rfl, hbl⟩ := hrel
    by_cases hlt : k < n
    · obtain ⟨x0l, ha⟩ : ∃ a, ds[k]? = some a := ⟨ds[k]'(by have := HN.out; omega), List.getElem?_eq_getElem (by have := HN.out; omega)⟩
      obtain ⟨g, o, x0A, x0c, rfl, hg, hc, hrd⟩ := (hr.carry hbl (Nat.le_refl _)).elem ha
      obtain ⟨g2, o2, x0A', x0c', rfl, hg2, hd, hrd'⟩ := (hr'.carry hbl (Nat.le_refl _)).elem ha
      have hl_x0 : x0l.length ≤ 4611686018427387904 := HIN.out k _ ha
      have c0 : wr.cell? ⟨g, o + k, none⟩ = some (.slice x0A x0l.length x0c) := by have h := hc 0 _ rfl; rw [Nat.mul_one] at h; exact h
      have d0 : wr.cell? ⟨g2, o2 + k, none⟩ = some (.slice x0A' x0l.length x0c') := by have h := hd 0 _ rfl; rw [Nat.mul_one] at h; exact h
      clear hc hd ha hr hr'
      have hzr := hbl.size
      have hki : (k : Int) < (n : Int) := by omega
      have hgw : g < wr.heap.size := by omega
      have hgw2 : g2 < wr.heap.size := by omega
      replace hrd := hrd.more hzr
      replace hrd' := hrd'.more hzr
      go_wp2_with fail
      go_region_held3 (fun w' => w'.cell? ⟨g, o + k, none⟩ = some (.slice x0A x0l.length x0c) ∧ w'.cell? ⟨g2, o2 + k, none⟩ = some (.slice x0A' x0l.length x0c') ∧ g < w'.heap.size ∧ g2 < w'.heap.size)
        (first | exact ⟨c0, d0, hgw, hgw2⟩ | assumption | fail)
        (first
          | (go_at_call 25; (with_reducible refine (eqRing_same x0A x0c x0l x0A' x0c' _ hl_x0 ?_ ?_).mono ?_); (focus (first | exact hrd | exact hrd.drew)); (focus (first | exact hrd' | exact hrd'.drew)); rintro e wA ⟨rfl, hbA⟩; have hzA := hbA.size; (try simp only [World.size_drew] at hzA); have hS :  wA.cell? ⟨g, o + k, none⟩ = some (.slice x0A x0l.length x0c) ∧ wA.cell? ⟨g2, o2 + k, none⟩ = some (.slice x0A' x0l.length x0c') ∧ g < wA.heap.size ∧ g2 < wA.heap.size := ⟨(hbA.cell (p := ⟨g, _, none⟩) (by simp only [World.size_drew]; omega)).trans c0, (hbA.cell (p := ⟨g2, _, none⟩) (by simp only [World.size_drew]; omega)).trans d0, by omega, by omega⟩))
      all_goals
        go_wp2_with fail
        go_roundw
        case rel => exact ⟨k + 1, by omega, by go_num, by repeat' (first | with_reducible assumption | with_reducible exact Below.refl _ _ | (with_reducible refine Below.setCell ?_ ?_ _) | (with_reducible refine Below.alloc ?_ ?_ _) | (with_reducible refine Below.drew ?_) | (with_reducible refine below_dr ?_ _) | (with_reducible refine Below.trans ?_ (Below.mono (by with_reducible assumption) ?_)) | omega | (simp; done) | (simp; omega))⟩
        case measure => simp [intOf]; omega
    · go_wp2_with fail
      go_ret
      exact ⟨rfl, hbl⟩
theorem okDRing_all {w : World} {B : Nat} (l : List ARing) (h : ∀ (i : Nat) (a : ARing), l[i]? = some a → okRing w B a) : ∀ (i : Nat) (d : DRing), (l.map dRing)[i]? = some d → okDRing d := by
  intro i d hd
  rw [List.getElem?_map] at hd
  cases hr : l[i]? with
  | none => rw [hr] at hd; cases hd
  | some a =>
    rw [hr] at hd
    obtain rfl := Option.some.inj hd
    obtain ⟨nc, cm, _, ok⟩ := h i a hr
    exact ⟨Nat.le_trans nc cm, fun _ _ i b hb => ok i b hb⟩
theorem inRing {ds : List DRing} (h : totRing ds ≤ 1048576) : ∀ (i : Nat) (d : DRing), ds[i]? = some d → d.length ≤ 1048576 := by
  intro i d hd
  have h1 := totRing_snoc ds i d hd
  have h2 := totRing_le ds (i + 1)
  have h3 : d.length ≤ oneRing d := by unfold oneRing; omega
  omega
set_option maxHeartbeats 800000 in
theorem szRegion_yes (x0A : Option Addr) (x0c : Nat) (x0d : List DRing) (left : Int) (w : World) (h0 : 0 ≤ left) (h1 : left ≤ 1048576) (hm : x0d.length ≤ 9223372036854775807) (h : ((x0d.length + totRing x0d : Nat) : Int) ≤ left) (r_x0 : RdRing w w.heap.size x0A x0d) (hok : ∀ (i : Nat) (d : DRing), x0d[i]? = some d → okDRing d) :
    Calls Try.prog 14 #[.agg #[.slice x0A x0d.length x0c], .int .i64 left] w fun e w' => e = .returned (.int .i64 (left - (x0d.length + totRing x0d : Nat))) ∧ Below w.heap.size w w' := by
  have HK := Lib.hid hok
  clear hok
  have HH := Lib.hid h
  clear h
  obtain ⟨V, hV⟩ : ∃ V : Int, V = left - (x0d.length + totRing x0d : Nat) := ⟨_, rfl⟩
  have HV := Lib.hid hV
  rw [← hV]
  clear hV
  go_enter Try.func14, Try.ntmps14
  go_wp2_with fail
  refine (szRingS_yes x0d x0A x0c left _ h1 HH.out ?_ HK.out).mono ?_
  · exact (r_x0.carry (w' := _) (by repeat' (first | with_reducible assumption | with_reducible exact Below.refl _ _ | (with_reducible refine Below.setCell ?_ ?_ _) | (with_reducible refine Below.alloc ?_ ?_ _) | (with_reducible refine Below.drew ?_) | (with_reducible refine below_dr ?_ _) | (with_reducible refine Below.trans ?_ (Below.mono (by with_reducible assumption) ?_)) | omega | (simp; done) | (simp; omega))) (Nat.le_refl _)).more (by (try simp only [World.size_setCell]); (try simp only [World.size_drew]); (try simp only [World.size_alloc]); omega)
  rw [← HV.out]
  rintro e wZ ⟨rfl, hbZ⟩
  have hv : 0 ≤ V := by have := HV.out; have := HH.out; omega
  go_wp2_with fail
  go_ret
  exact ⟨ret_i rfl, by repeat' (first | with_reducible assumption | with_reducible exact Below.refl _ _ | (with_reducible refine Below.setCell ?_ ?_ _) | (with_reducible refine Below.alloc ?_ ?_ _) | (with_reducible refine Below.drew ?_) | (with_reducible refine below_dr ?_ _) | (with_reducible refine Below.trans ?_ (Below.mono (by with_reducible assumption) ?_)) | omega | (simp; done) | (simp; omega))⟩
set_option maxHeartbeats 800000 in
theorem szRegion_no (x0A : Option Addr) (x0c : Nat) (x0d : List DRing) (left : Int) (w : World) (h0 : 0 ≤ left) (h1 : left ≤ 1048576) (hm : x0d.length ≤ 9223372036854775807) (h : left < ((x0d.length + totRing x0d : Nat) : Int)) (r_x0 : RdRing w w.heap.size x0A x0d) (hok : ∀ (i : Nat) (d : DRing), x0d[i]? = some d → okDRing d) :
    Calls Try.prog 14 #[.agg #[.slice x0A x0d.length x0c], .int .i64 left] w fun e w' => e = .returned (.int .i64 (-1)) ∧ Below w.heap.size w w' := by
  have HK := Lib.hid hok
  clear hok
  have HH := Lib.hid h
  clear h
  obtain ⟨V, hV⟩ : ∃ V : Int, V = -1 := ⟨_, rfl⟩
  have HV := Lib.hid hV
  rw [← hV]
  clear hV
  go_enter Try.func14, Try.ntmps14
  go_wp2_with fail
  refine (szRingS_no x0d x0A x0c left _ h0 h1 hm HH.out ?_ HK.out).mono ?_
  · exact (r_x0.carry (w' := _) (by repeat' (first | with_reducible assumption | with_reducible exact Below.refl _ _ | (with_reducible refine Below.setCell ?_ ?_ _) | (with_reducible refine Below.alloc ?_ ?_ _) | (with_reducible refine Below.drew ?_) | (with_reducible refine below_dr ?_ _) | (with_reducible refine Below.trans ?_ (Below.mono (by with_reducible assumption) ?_)) | omega | (simp; done) | (simp; omega))) (Nat.le_refl _)).more (by (try simp only [World.size_setCell]); (try simp only [World.size_drew]); (try simp only [World.size_alloc]); omega)
  rw [← HV.out]
  rintro e wZ ⟨rfl, hbZ⟩
  have hv : V < 0 := by have := HV.out; have := HH.out; omega
  go_wp2_with fail
  go_ret
  exact ⟨ret_i (by have := HV.out; omega), by repeat' (first | with_reducible assumption | with_reducible exact Below.refl _ _ | (with_reducible refine Below.setCell ?_ ?_ _) | (with_reducible refine Below.alloc ?_ ?_ _) | (with_reducible refine Below.drew ?_) | (with_reducible refine below_dr ?_ _) | (with_reducible refine Below.trans ?_ (Below.mono (by with_reducible assumption) ?_)) | omega | (simp; done) | (simp; omega))⟩
def ToRegion (x0A : Option Addr) (x0c : Nat) (x0d : List DRing) (w : World) (e : Ending) (w' : World) : Prop := ∃ gx0 : Nat, e = .returned (.agg #[.slice (some ⟨gx0, 0, none⟩) x0d.length x0d.length]) ∧ RdRingIn w' w.heap.size w'.heap.size (some ⟨gx0, 0, none⟩) x0d ∧ Below w.heap.size w w'
set_option maxHeartbeats 1600000 in
theorem toRegion_any (x0A : Option Addr) (x0c : Nat) (x0d : List DRing) (w : World) (hl_x0 : x0d.length ≤ 1048576) (hin : ∀ (i : Nat) (d : DRing), x0d[i]? = some d → d.length ≤ 1048576) (r_x0 : RdRing w w.heap.size x0A x0d) :
    Calls Try.prog 16 #[.agg #[.slice x0A x0d.length x0c]] w (ToRegion x0A x0c x0d w) := by
  have HIN := Lib.hid hin
  clear hin
  go_enter Try.func16, Try.ntmps16
  go_wp2_with fail
  refine (toRingS_any x0d x0A x0c _ hl_x0 HIN.out ?_).mono ?_
  · exact (r_x0.carry (w' := _) (by repeat' (first | with_reducible assumption | with_reducible exact Below.refl _ _ | (with_reducible refine Below.setCell ?_ ?_ _) | (with_reducible refine Below.alloc ?_ ?_ _) | (with_reducible refine Below.drew ?_) | (with_reducible refine below_dr ?_ _) | (with_reducible refine Below.trans ?_ (Below.mono (by with_reducible assumption) ?_)) | omega | (simp; done) | (simp; omega))) (Nat.le_refl _)).more (by (try simp only [World.size_setCell]); (try simp only [World.size_drew]); (try simp only [World.size_alloc]); omega)
  intro e wZ0 hq
  obtain ⟨gx0, rfl, own_x0, hbwZ0⟩ := hq
  replace own_x0 := own_x0.down (lo' := w.heap.size + 1 + 1 + 1) (by (try simp only [World.size_setCell]); (try simp only [World.size_alloc]); omega)
  obtain ⟨hcwZ0, hfwZ0⟩ := bcell hbwZ0
  have hzwZ0 := hbwZ0.size
  (try simp only [World.size_setCell] at hcwZ0 hfwZ0 hzwZ0)
  (try simp only [World.size_drew] at hcwZ0 hfwZ0 hzwZ0)
  (try simp only [World.size_alloc] at hcwZ0 hfwZ0 hzwZ0)
  have qwZ00 : w.heap.size < wZ0.heap.size := by omega
  have qwZ01 : w.heap.size + 1 < wZ0.heap.size := by omega
  have qwZ02 : w.heap.size + 1 + 1 < wZ0.heap.size := by omega
  go_wp2_with fail
  refine bodyPost_ret (v := .agg #[.slice (some ⟨gx0, 0, none⟩) x0d.length x0d.length]) (by simp [results, Try.results16, go_sem, *]) rfl ⟨_, rfl, ?_, ?_⟩
  · simp only [World.size_setCell]
    with_reducible refine RdRingIn.down (lo := w.heap.size + 1 + 1 + 1) ?_ (by omega)
    repeat (with_reducible refine RdRingIn.far ?_ (by simp only; omega) _)
    with_reducible exact own_x0
  · repeat' (first | with_reducible assumption | with_reducible exact Below.refl _ _ | (with_reducible refine Below.setCell ?_ ?_ _) | (with_reducible refine Below.alloc ?_ ?_ _) | (with_reducible refine Below.drew ?_) | (with_reducible refine below_dr ?_ _) | (with_reducible refine Below.trans ?_ (Below.mono (by with_reducible assumption) ?_)) | omega | (simp; done) | (simp; omega))
set_option maxHeartbeats 1600000 in
theorem eqRegion_same (x0A : Option Addr) (x0c : Nat) (x0d : List DRing) (x0A' : Option Addr) (x0c' : Nat) (w : World) (hl_x0 : x0d.length ≤ 4611686018427387904) (hin : ∀ (i : Nat) (d : DRing), x0d[i]? = some d → d.length ≤ 4611686018427387904) (r_x0 : RdRing w w.heap.size x0A x0d) (r'_x0 : RdRing w w.heap.size x0A' x0d) :
    Calls Try.prog 18 #[.agg #[.slice x0A x0d.length x0c], .agg #[.slice x0A' x0d.length x0c']] w fun e w' => e = .returned (.bool true) ∧ Below w.heap.size w w' := by
  have HIN := Lib.hid hin
  clear hin
  go_enter Try.func18, Try.ntmps18
  go_wp2_with fail
  refine (eqRingS_same x0d x0A x0A' x0c x0c' _ hl_x0 HIN.out ?_ ?_).mono ?_
  · exact (r_x0.carry (w' := _) (by repeat' (first | with_reducible assumption | with_reducible exact Below.refl _ _ | (with_reducible refine Below.setCell ?_ ?_ _) | (with_reducible refine Below.alloc ?_ ?_ _) | (with_reducible refine Below.drew ?_) | (with_reducible refine below_dr ?_ _) | (with_reducible refine Below.trans ?_ (Below.mono (by with_reducible assumption) ?_)) | omega | (simp; done) | (simp; omega))) (Nat.le_refl _)).more (by (try simp only [World.size_setCell]); (try simp only [World.size_drew]); (try simp only [World.size_alloc]); omega)
  · exact (r'_x0.carry (w' := _) (by repeat' (first | with_reducible assumption | with_reducible exact Below.refl _ _ | (with_reducible refine Below.setCell ?_ ?_ _) | (with_reducible refine Below.alloc ?_ ?_ _) | (with_reducible refine Below.drew ?_) | (with_reducible refine below_dr ?_ _) | (with_reducible refine Below.trans ?_ (Below.mono (by with_reducible assumption) ?_)) | omega | (simp; done) | (simp; omega))) (Nat.le_refl _)).more (by (try simp only [World.size_setCell]); (try simp only [World.size_drew]); (try simp only [World.size_alloc]); omega)
  rintro e wZ0 ⟨rfl, hbwZ0⟩
  obtain ⟨hcwZ0, hfwZ0⟩ := bcell hbwZ0
  have hzwZ0 := hbwZ0.size
  (try simp only [World.size_setCell] at hcwZ0 hfwZ0 hzwZ0)
  (try simp only [World.size_drew] at hcwZ0 hfwZ0 hzwZ0)
  (try simp only [World.size_alloc] at hcwZ0 hfwZ0 hzwZ0)
  have qwZ00 : w.heap.size < wZ0.heap.size := by omega
  have qwZ01 : w.heap.size + 1 < wZ0.heap.size := by omega
  go_wp2_with fail
  go_ret
  exact ⟨rfl, by repeat' (first | with_reducible assumption | with_reducible exact Below.refl _ _ | (with_reducible refine Below.setCell ?_ ?_ _) | (with_reducible refine Below.alloc ?_ ?_ _) | (with_reducible refine Below.drew ?_) | (with_reducible refine below_dr ?_ _) | (with_reducible refine Below.trans ?_ (Below.mono (by with_reducible assumption) ?_)) | omega | (simp; done) | (simp; omega))⟩
end Go.Proofs.Ytdeemhfhmgnbgaa
