/- Walks: they are copied. -/
import Derived.Test.YtdikenapnncmfaaHz3
import Derived.Laws.MakeOwn
import Derived.Laws.OwnMore
namespace Go.Proofs.Ytdikenapnncmfaa
open Go.RowKit
set_option linter.unusedVariables false
theorem run_make_rowN {P : Program} (t e : TypeId) (i : TypeInfo) (z : Value) (ht : P.underlying t = some (.slice e)) (hi : P.info? e = some i) (hz : i.zero = some z)
    (kl kc : IntKind) (n c : Nat) (hnc : n ≤ c) (hbytes : i.bytes * c ≤ 281474976710656) (h63 : c ≤ 9223372036854775807) (w : World) :
    (Instr.makeSlice t (.int kl (n : Int)) (.int kc (c : Int))).run P w = .ok (.slice (some ⟨w.heap.size, 0, none⟩) n c) (w.alloc (.cells (madeCells z.cells (c * i.size)) e)) := by
  have hb : (i.bytes : Int) * (c : Int) ≤ 281474976710656 := by
    have h : ((i.bytes * c : Nat) : Int) ≤ 281474976710656 := by omega
    rwa [Int.natCast_mul] at h
  have hr := run_make (P := P) w t e i z ht hi hz kl kc n c (by omega) (by omega) hb (by omega)
  simp only [Int.toNat_natCast] at hr
  exact hr
theorem own_made (w : World) (base : Nat) (e : TypeId) (s n : Nat) (cs : Array Value) (hb : base ≤ w.heap.size) (hn : n ≤ maxLen) (hc : cs.size = n * s) :
    (w.alloc (.cells cs e)).ownsRow base e s (.slice (some ⟨w.heap.size, 0, none⟩) n n) n cs.toList :=
  ⟨by rw [Array.length_toList]; exact hc, .inr ⟨w.heap.size, n, cs, rfl, hb, heap_alloc_new w _, Nat.le_refl _, hn, hc, by rw [List.take_of_length_le (by rw [Array.length_toList]; omega)]⟩⟩
theorem own_stays {W W' : World} {B e size n : Nat} {v : Value} {xs : List Value} (h : W.ownsRow B e size v n xs) (hb : Below W.heap.size W W') : W'.ownsRow B e size v n xs :=
  h.kept (row := none) ⟨hb.os, hb.tape, hb.output, hb.size, fun k hk _ => hb.block k hk⟩ (Classical.em _)
theorem own_drewN {W : World} {B e size n : Nat} {v : Value} {xs : List Value} (h : W.ownsRow B e size v n xs) (k : Nat) : (W.drewN k).ownsRow B e size v n xs := h
theorem own_drew {W : World} {B e size n : Nat} {v : Value} {xs : List Value} (h : W.ownsRow B e size v n xs) : W.drew.ownsRow B e size v n xs := h
theorem own_base {w : World} {base base' e s n : Nat} {v : Value} {xs : List Value} (h : w.ownsRow base' e s v n xs) (hb : base ≤ base') : w.ownsRow base e s v n xs := by
  obtain ⟨hl, h⟩ := h
  refine ⟨hl, ?_⟩
  rcases h with h | ⟨g, cap, cur, hv, hg, r⟩
  · exact .inl h
  · exact .inr ⟨g, cap, cur, hv, Nat.le_trans hb hg, r⟩
/-- A store below what is owned. -/
theorem own_far {w : World} {base b2 e s n : Nat} {v : Value} {xs : List Value} (h : w.ownsRow b2 e s v n xs) {p : Addr} (hp : p.block < b2) (hb : base ≤ b2) (u : Value) : (w.setCell p u).ownsRow base e s v n xs := by
  obtain ⟨hl, h⟩ := h
  refine ⟨hl, ?_⟩
  rcases h with h | ⟨g, cap, cur, hv, hg, hh, r⟩
  · exact .inl h
  · exact .inr ⟨g, cap, cur, hv, Nat.le_trans hb hg, (Below.heap_setCell w p u g (by omega)).trans hh, r⟩
theorem grownBy_of_below {w w' : World} (h : Below w.heap.size w w') (row : Option Nat) : w.grownBy w' row := ⟨h.os, h.tape, h.output, h.size, fun k hk _ => h.block k hk⟩
theorem grownBy_trans {w w1 w2 : World} {row : Option Nat} (h : w.grownBy w1 row) (k : w1.grownBy w2 row) : w.grownBy w2 row :=
  ⟨k.os.trans h.os, k.tape.trans h.tape, k.output.trans h.output, Nat.le_trans h.size k.size, fun i hi hr => (k.block i (Nat.lt_of_lt_of_le hi h.size) hr).trans (h.block i hi hr)⟩
theorem hinfoInt64 : (Try.prog.info? 2).map (fun i => (i.zero, i.size, i.bytes)) = some (some (.int .i64 0), 1, 8) := by kernel_rfl
def ToSInt64 (l : List DInt64) (w : World) (e : Ending) (w' : World) : Prop := ∃ (A' : Option Addr) (c' : Nat), e = .returned (.slice A' l.length c') ∧ RowIn RvInt64 1 w' w.heap.size w'.heap.size A' l ∧ Below w.heap.size w w'
set_option maxHeartbeats 3200000 in
theorem xtoInt64S_any (l : List DInt64) (A : Option Addr) (c : Nat) (w : World) (ht : totRow totInt64 l ≤ 1048576) (r : Row RvInt64 1 w w.heap.size A l) :
    Calls Try.prog 39 #[.slice A l.length c] w (ToSInt64 l w) := by
  obtain ⟨i0, hi0, hz0, hz1, hz2⟩ := info_parts hinfoInt64
  have HTE := Lib.hid (fun (k : Nat) (d : DInt64) (h : l[k]? = some d) => Nat.le_trans (totRow_at (f := totInt64) h) ht)
  have hl : l.length ≤ 1048576 := Nat.le_trans (totRow_len totInt64 l) ht
  clear ht
  obtain ⟨n, hn⟩ : ∃ n, n = l.length := ⟨_, rfl⟩
  rw [← hn] at hl
  have hmk := fun W => run_make_rowN (P := Try.prog) 26 2 i0 _ Try.underlying26 hi0 hz0 .i64 .i64 n n (Nat.le_refl _) (by rw [hz2]; omega) (by omega) W
  rw [hz1] at hmk
  have hsz : ∀ W : World, (madeCells (Value.cells (.int .i64 0)) (n * 1)).size = n * 1 := fun _ => size_madeCells _ _
  generalize hZ : madeCells (Value.cells (.int .i64 0)) (n * 1) = Z at hmk hsz
  have hszZ := Lib.hid (hsz w)
  clear hZ hsz hi0 hz0 hz1 hz2
  unfold ToSInt64
  rw [← hn]
  have HN := Lib.hid hn
  clear hn
  go_enter Try.func39, Try.ntmps39
  go_wp2_with fail
  clear hmk
  have hown0 := own_made w w.heap.size 2 1 n Z (Nat.le_refl _) (by unfold maxLen; omega) hszZ.out
  have hb0 : Below w.heap.size w (w.alloc (.cells Z 2)) := by repeat' (first | with_reducible assumption | with_reducible exact Below.refl _ _ | (with_reducible refine Below.setCell ?_ ?_ _) | (with_reducible refine Below.alloc ?_ ?_ _) | (with_reducible refine Below.drew ?_) | (with_reducible refine below_dr ?_ _) | (with_reducible refine Below.trans ?_ (Below.mono (by with_reducible assumption) ?_)) | omega | (simp; done) | (simp; omega))
  have hz00 : w.heap.size < (w.alloc (.cells Z 2)).heap.size := by simp
  generalize w.alloc (.cells Z 2) = W0 at hown0 hb0 hz00 ⊢
  go_loopw [4] (fun i wr => ∃ (k : Nat) (xs : List Value), k ≤ n ∧ i = .int .i64 (k : Int) ∧ wr.ownsRow w.heap.size 2 1 (.slice (some ⟨w.heap.size, 0, none⟩) n n) n xs ∧ Fill RvInt64 1 wr (w.heap.size + 1) wr.heap.size l k xs ∧ Below w.heap.size w wr ∧ w.heap.size < wr.heap.size) (fun i _ => n - (intOf i).toNat)
  case atStart => exact ⟨0, _, Nat.zero_le _, rfl, hown0, Fill.zero, hb0, hz00⟩
  case round =>
    obtain ⟨k, xs, hk, rfl, hown, hfil, hbl, hzr⟩ := hrel
    have hxl : xs.length = n * 1 := hown.1
    have HX := Lib.hid hxl
    have HFIL := Lib.hid hfil
    clear hxl hfil
    by_cases hlt : k < n
    case pos =>
      obtain ⟨x0, ha⟩ : ∃ a, l[k]? = some a := ⟨l[k]'(by have := HN.out; omega), List.getElem?_eq_getElem (by have := HN.out; omega)⟩
      obtain ⟨g, o, row, rfl, hg, hR, hcc⟩ := (Row.carry (w' := wr) r hbl (Nat.le_refl _)).elem ha
      obtain rfl := hR
      have c0 : wr.cell? ⟨g, o + k, none⟩ = some (.int .i64 x0) := by have h := hcc 0 _ rfl; rw [Nat.mul_one] at h; exact h
      clear hcc
      have HA := Lib.hid ha
      clear ha
      have hki : (k : Int) < (n : Int) := by omega
      obtain ⟨yo0, y0⟩ : ∃ v, wr.cell? ⟨w.heap.size, k, none⟩ = some v := ⟨_, (hown.cellAt (k) (by have := HX.out; omega)).trans (List.getElem?_eq_getElem (by have := HX.out; omega))⟩
      have yf0 : wr.frozen? ⟨w.heap.size, k, none⟩ = false := hown.frozenAt (k)
      go_wp2_with fail
      go_roundw
      case rel =>
        have hst0 := World.ownsRow.stored (hown) (k) (.int .i64 x0)
        have hstep : Fill RvInt64 1 (wr.setCell ⟨w.heap.size, k, none⟩ (.int .i64 x0)) (w.heap.size + 1) (wr.setCell ⟨w.heap.size, k, none⟩ (.int .i64 x0)).heap.size l (k + 1) (setRun xs (k * 1) [.int .i64 x0]) := HFIL.out.step (fun p h1 h2 => by rw [World.cell?_setCell_other _ _ _ _ (fun e => by subst e; simp only at h1; omega)]) (by simp only [World.size_setCell]; omega) HA.out (fun _ _ => rfl) (by have := HX.out; omega) rfl
        rw [Nat.mul_one] at hstep
        exact ⟨k + 1, _, by omega, by go_num, hst0.1, hstep, by repeat' (first | with_reducible assumption | with_reducible exact Below.refl _ _ | (with_reducible refine Below.setCell ?_ ?_ _) | (with_reducible refine Below.alloc ?_ ?_ _) | (with_reducible refine Below.drew ?_) | (with_reducible refine below_dr ?_ _) | (with_reducible refine Below.trans ?_ (Below.mono (by with_reducible assumption) ?_)) | omega | (simp; done) | (simp; omega)), by (simp only [World.size_setCell]; omega)⟩
      case measure => simp [intOf]; omega
    case neg =>
      obtain rfl : k = n := by omega
      go_wp2_with fail
      go_ret
      exact ⟨_, _, rfl, HFIL.out.done hown HN.out hzr, hbl⟩
def ToPt (x0 : Int) (x1 : Int) (w : World) (e : Ending) (w' : World) : Prop := e = .returned (.agg #[.int .i64 x0, .int .i64 x1]) ∧ Below w.heap.size w w'
set_option maxHeartbeats 3200000 in
theorem xtoPt_any (x0 : Int) (x1 : Int) (w : World) (ht : totPt (x0, x1) ≤ 1048576)  :
    Calls Try.prog 36 #[.agg #[.int .i64 x0, .int .i64 x1]] w (ToPt x0 x1 w) := by
  unfold ToPt
  go_enter Try.func36, Try.ntmps36
  go_wp2_with fail
  refine bodyPost_ret (v := .agg #[.int .i64 x0, .int .i64 x1]) (by simp [results, Try.results36, go_sem, *]) rfl ⟨rfl, ?_⟩
  · repeat' (first | with_reducible assumption | with_reducible exact Below.refl _ _ | (with_reducible refine Below.setCell ?_ ?_ _) | (with_reducible refine Below.alloc ?_ ?_ _) | (with_reducible refine Below.drew ?_) | (with_reducible refine below_dr ?_ _) | (with_reducible refine Below.trans ?_ (Below.mono (by with_reducible assumption) ?_)) | omega | (simp; done) | (simp; omega))
theorem hinfoPt : (Try.prog.info? 39).map (fun i => (i.zero, i.size, i.bytes)) = some (some (.agg #[.int .i64 0, .int .i64 0]), 2, 16) := by kernel_rfl
def ToSPt (l : List DPt) (w : World) (e : Ending) (w' : World) : Prop := ∃ (A' : Option Addr) (c' : Nat), e = .returned (.slice A' l.length c') ∧ RowIn RvPt 2 w' w.heap.size w'.heap.size A' l ∧ Below w.heap.size w w'
set_option maxHeartbeats 3200000 in
theorem xtoPtS_any (l : List DPt) (A : Option Addr) (c : Nat) (w : World) (ht : totRow totPt l ≤ 1048576) (r : Row RvPt 2 w w.heap.size A l) :
    Calls Try.prog 101 #[.slice A l.length c] w (ToSPt l w) := by
  obtain ⟨i0, hi0, hz0, hz1, hz2⟩ := info_parts hinfoPt
  have HTE := Lib.hid (fun (k : Nat) (d : DPt) (h : l[k]? = some d) => Nat.le_trans (totRow_at (f := totPt) h) ht)
  have hl : l.length ≤ 1048576 := Nat.le_trans (totRow_len totPt l) ht
  clear ht
  obtain ⟨n, hn⟩ : ∃ n, n = l.length := ⟨_, rfl⟩
  rw [← hn] at hl
  have hmk := fun W => run_make_rowN (P := Try.prog) 64 39 i0 _ Try.underlying64 hi0 hz0 .i64 .i64 n n (Nat.le_refl _) (by rw [hz2]; omega) (by omega) W
  rw [hz1] at hmk
  have hsz : ∀ W : World, (madeCells (Value.cells (.agg #[.int .i64 0, .int .i64 0])) (n * 2)).size = n * 2 := fun _ => size_madeCells _ _
  generalize hZ : madeCells (Value.cells (.agg #[.int .i64 0, .int .i64 0])) (n * 2) = Z at hmk hsz
  have hszZ := Lib.hid (hsz w)
  clear hZ hsz hi0 hz0 hz1 hz2
  unfold ToSPt
  rw [← hn]
  have HN := Lib.hid hn
  clear hn
  go_enter Try.func101, Try.ntmps101
  go_wp2_with fail
  clear hmk
  have hown0 := own_made w w.heap.size 39 2 n Z (Nat.le_refl _) (by unfold maxLen; omega) hszZ.out
  have hb0 : Below w.heap.size w (w.alloc (.cells Z 39)) := by repeat' (first | with_reducible assumption | with_reducible exact Below.refl _ _ | (with_reducible refine Below.setCell ?_ ?_ _) | (with_reducible refine Below.alloc ?_ ?_ _) | (with_reducible refine Below.drew ?_) | (with_reducible refine below_dr ?_ _) | (with_reducible refine Below.trans ?_ (Below.mono (by with_reducible assumption) ?_)) | omega | (simp; done) | (simp; omega))
  have hz00 : w.heap.size < (w.alloc (.cells Z 39)).heap.size := by simp
  generalize w.alloc (.cells Z 39) = W0 at hown0 hb0 hz00 ⊢
  go_loopw [4] (fun i wr => ∃ (k : Nat) (xs : List Value), k ≤ n ∧ i = .int .i64 (k : Int) ∧ wr.ownsRow w.heap.size 39 2 (.slice (some ⟨w.heap.size, 0, none⟩) n n) n xs ∧ Fill RvPt 2 wr (w.heap.size + 1) wr.heap.size l k xs ∧ Below w.heap.size w wr ∧ w.heap.size < wr.heap.size) (fun i _ => n - (intOf i).toNat)
  case atStart => exact ⟨0, _, Nat.zero_le _, rfl, hown0, Fill.zero, hb0, hz00⟩
  case round =>
    obtain ⟨k, xs, hk, rfl, hown, hfil, hbl, hzr⟩ := hrel
    have hxl : xs.length = n * 2 := hown.1
    have HX := Lib.hid hxl
    have HFIL := Lib.hid hfil
    clear hxl hfil
    by_cases hlt : k < n
    case pos =>
      obtain ⟨⟨x0, x1⟩, ha⟩ : ∃ a, l[k]? = some a := ⟨l[k]'(by have := HN.out; omega), List.getElem?_eq_getElem (by have := HN.out; omega)⟩
      obtain ⟨g, o, row, rfl, hg, hR, hcc⟩ := (Row.carry (w' := wr) r hbl (Nat.le_refl _)).elem ha
      obtain rfl := hR
      have c0 : wr.cell? ⟨g, o + k * 2, none⟩ = some (.int .i64 x0) := hcc 0 _ rfl
      have c1 : wr.cell? ⟨g, o + k * 2 + 1, none⟩ = some (.int .i64 x1) := hcc 1 _ rfl
      clear hcc
      have HA := Lib.hid ha
      have hte := HTE.out k _ ha
      clear ha
      have hki : (k : Int) < (n : Int) := by omega
      go_wp2_with fail
      refine (xtoPt_any x0 x1 _ hte ).mono ?_
      intro e wA hq
      obtain ⟨rfl, hbA⟩ := hq
      have hownA := own_stays hown hbA
      have hzA := hbA.size
      obtain ⟨yo0, y0⟩ : ∃ v, wA.cell? ⟨w.heap.size, k * 2, none⟩ = some v := ⟨_, (hownA.cellAt (k * 2) (by have := HX.out; omega)).trans (List.getElem?_eq_getElem (by have := HX.out; omega))⟩
      have yf0 : wA.frozen? ⟨w.heap.size, k * 2, none⟩ = false := hownA.frozenAt (k * 2)
      obtain ⟨yo1, y1⟩ : ∃ v, wA.cell? ⟨w.heap.size, k * 2 + 1, none⟩ = some v := ⟨_, (hownA.cellAt (k * 2 + 1) (by have := HX.out; omega)).trans (List.getElem?_eq_getElem (by have := HX.out; omega))⟩
      have yf1 : wA.frozen? ⟨w.heap.size, k * 2 + 1, none⟩ = false := hownA.frozenAt (k * 2 + 1)
      clear hown
      go_wp2_with fail
      go_roundw
      case rel =>
        have hst0 := World.ownsRow.stored (hownA) (k * 2) (.int .i64 x0)
        have hst1 := World.ownsRow.stored (hst0.1) (k * 2 + 1) (.int .i64 x1)
        have hstep : Fill RvPt 2 ((wA.setCell ⟨w.heap.size, k * 2, none⟩ (.int .i64 x0)).setCell ⟨w.heap.size, k * 2 + 1, none⟩ (.int .i64 x1)) (w.heap.size + 1) ((wA.setCell ⟨w.heap.size, k * 2, none⟩ (.int .i64 x0)).setCell ⟨w.heap.size, k * 2 + 1, none⟩ (.int .i64 x1)).heap.size l (k + 1) (setRun xs (k * 2) [.int .i64 x0, .int .i64 x1]) := HFIL.out.step (fun p h1 h2 => by rw [World.cell?_setCell_other _ _ _ _ (fun e => by subst e; simp only at h1; omega), World.cell?_setCell_other _ _ _ _ (fun e => by subst e; simp only at h1; omega)]; exact hbA.cell h2) (by simp only [World.size_setCell]; omega) HA.out (fun _ _ => rfl) (by have := HX.out; omega) rfl
        exact ⟨k + 1, _, by omega, by go_num, hst1.1, hstep, by repeat' (first | with_reducible assumption | with_reducible exact Below.refl _ _ | (with_reducible refine Below.setCell ?_ ?_ _) | (with_reducible refine Below.alloc ?_ ?_ _) | (with_reducible refine Below.drew ?_) | (with_reducible refine below_dr ?_ _) | (with_reducible refine Below.trans ?_ (Below.mono (by with_reducible assumption) ?_)) | omega | (simp; done) | (simp; omega)), by (simp only [World.size_setCell]; omega)⟩
      case measure => simp [intOf]; omega
    case neg =>
      obtain rfl : k = n := by omega
      go_wp2_with fail
      go_ret
      exact ⟨_, _, rfl, HFIL.out.done hown HN.out hzr, hbl⟩
theorem hinfoBool : (Try.prog.info? 4).map (fun i => (i.zero, i.size, i.bytes)) = some (some (.bool false), 1, 1) := by kernel_rfl
def ToSBool (l : List DBool) (w : World) (e : Ending) (w' : World) : Prop := ∃ (A' : Option Addr) (c' : Nat), e = .returned (.slice A' l.length c') ∧ RowIn RvBool 1 w' w.heap.size w'.heap.size A' l ∧ Below w.heap.size w w'
set_option maxHeartbeats 3200000 in
theorem xtoBoolS_any (l : List DBool) (A : Option Addr) (c : Nat) (w : World) (ht : totRow totBool l ≤ 1048576) (r : Row RvBool 1 w w.heap.size A l) :
    Calls Try.prog 102 #[.slice A l.length c] w (ToSBool l w) := by
  obtain ⟨i0, hi0, hz0, hz1, hz2⟩ := info_parts hinfoBool
  have HTE := Lib.hid (fun (k : Nat) (d : DBool) (h : l[k]? = some d) => Nat.le_trans (totRow_at (f := totBool) h) ht)
  have hl : l.length ≤ 1048576 := Nat.le_trans (totRow_len totBool l) ht
  clear ht
  obtain ⟨n, hn⟩ : ∃ n, n = l.length := ⟨_, rfl⟩
  rw [← hn] at hl
  have hmk := fun W => run_make_rowN (P := Try.prog) 65 4 i0 _ Try.underlying65 hi0 hz0 .i64 .i64 n n (Nat.le_refl _) (by rw [hz2]; omega) (by omega) W
  rw [hz1] at hmk
  have hsz : ∀ W : World, (madeCells (Value.cells (.bool false)) (n * 1)).size = n * 1 := fun _ => size_madeCells _ _
  generalize hZ : madeCells (Value.cells (.bool false)) (n * 1) = Z at hmk hsz
  have hszZ := Lib.hid (hsz w)
  clear hZ hsz hi0 hz0 hz1 hz2
  unfold ToSBool
  rw [← hn]
  have HN := Lib.hid hn
  clear hn
  go_enter Try.func102, Try.ntmps102
  go_wp2_with fail
  clear hmk
  have hown0 := own_made w w.heap.size 4 1 n Z (Nat.le_refl _) (by unfold maxLen; omega) hszZ.out
  have hb0 : Below w.heap.size w (w.alloc (.cells Z 4)) := by repeat' (first | with_reducible assumption | with_reducible exact Below.refl _ _ | (with_reducible refine Below.setCell ?_ ?_ _) | (with_reducible refine Below.alloc ?_ ?_ _) | (with_reducible refine Below.drew ?_) | (with_reducible refine below_dr ?_ _) | (with_reducible refine Below.trans ?_ (Below.mono (by with_reducible assumption) ?_)) | omega | (simp; done) | (simp; omega))
  have hz00 : w.heap.size < (w.alloc (.cells Z 4)).heap.size := by simp
  generalize w.alloc (.cells Z 4) = W0 at hown0 hb0 hz00 ⊢
  go_loopw [4] (fun i wr => ∃ (k : Nat) (xs : List Value), k ≤ n ∧ i = .int .i64 (k : Int) ∧ wr.ownsRow w.heap.size 4 1 (.slice (some ⟨w.heap.size, 0, none⟩) n n) n xs ∧ Fill RvBool 1 wr (w.heap.size + 1) wr.heap.size l k xs ∧ Below w.heap.size w wr ∧ w.heap.size < wr.heap.size) (fun i _ => n - (intOf i).toNat)
  case atStart => exact ⟨0, _, Nat.zero_le _, rfl, hown0, Fill.zero, hb0, hz00⟩
  case round =>
    obtain ⟨k, xs, hk, rfl, hown, hfil, hbl, hzr⟩ := hrel
    have hxl : xs.length = n * 1 := hown.1
    have HX := Lib.hid hxl
    have HFIL := Lib.hid hfil
    clear hxl hfil
    by_cases hlt : k < n
    case pos =>
      obtain ⟨x0, ha⟩ : ∃ a, l[k]? = some a := ⟨l[k]'(by have := HN.out; omega), List.getElem?_eq_getElem (by have := HN.out; omega)⟩
      obtain ⟨g, o, row, rfl, hg, hR, hcc⟩ := (Row.carry (w' := wr) r hbl (Nat.le_refl _)).elem ha
      obtain rfl := hR
      have c0 : wr.cell? ⟨g, o + k, none⟩ = some (.bool x0) := by have h := hcc 0 _ rfl; rw [Nat.mul_one] at h; exact h
      clear hcc
      have HA := Lib.hid ha
      clear ha
      have hki : (k : Int) < (n : Int) := by omega
      obtain ⟨yo0, y0⟩ : ∃ v, wr.cell? ⟨w.heap.size, k, none⟩ = some v := ⟨_, (hown.cellAt (k) (by have := HX.out; omega)).trans (List.getElem?_eq_getElem (by have := HX.out; omega))⟩
      have yf0 : wr.frozen? ⟨w.heap.size, k, none⟩ = false := hown.frozenAt (k)
      go_wp2_with fail
      go_roundw
      case rel =>
        have hst0 := World.ownsRow.stored (hown) (k) (.bool x0)
        have hstep : Fill RvBool 1 (wr.setCell ⟨w.heap.size, k, none⟩ (.bool x0)) (w.heap.size + 1) (wr.setCell ⟨w.heap.size, k, none⟩ (.bool x0)).heap.size l (k + 1) (setRun xs (k * 1) [.bool x0]) := HFIL.out.step (fun p h1 h2 => by rw [World.cell?_setCell_other _ _ _ _ (fun e => by subst e; simp only at h1; omega)]) (by simp only [World.size_setCell]; omega) HA.out (fun _ _ => rfl) (by have := HX.out; omega) rfl
        rw [Nat.mul_one] at hstep
        exact ⟨k + 1, _, by omega, by go_num, hst0.1, hstep, by repeat' (first | with_reducible assumption | with_reducible exact Below.refl _ _ | (with_reducible refine Below.setCell ?_ ?_ _) | (with_reducible refine Below.alloc ?_ ?_ _) | (with_reducible refine Below.drew ?_) | (with_reducible refine below_dr ?_ _) | (with_reducible refine Below.trans ?_ (Below.mono (by with_reducible assumption) ?_)) | omega | (simp; done) | (simp; omega)), by (simp only [World.size_setCell]; omega)⟩
      case measure => simp [intOf]; omega
    case neg =>
      obtain rfl : k = n := by omega
      go_wp2_with fail
      go_ret
      exact ⟨_, _, rfl, HFIL.out.done hown HN.out hzr, hbl⟩
def ToHinter (x0 : Int) (x1l : List DPt) (x2l : List DPt) (x3l : List DBool) (x4l : List DBool) (x5l : List DInt64) (x6l : List DInt64) (x7l : List DInt64) (x8 : Bool) (x9 : Int) (x10 : Int) (x11 : Int) (x12 : Int) (w : World) (e : Ending) (w' : World) : Prop := ∃ (x1A' : Option Addr) (x1c' : Nat) (x2A' : Option Addr) (x2c' : Nat) (x3A' : Option Addr) (x3c' : Nat) (x4A' : Option Addr) (x4c' : Nat) (x5A' : Option Addr) (x5c' : Nat) (x6A' : Option Addr) (x6c' : Nat) (x7A' : Option Addr) (x7c' : Nat), e = .returned (.agg #[.int .i64 x0, .slice x1A' x1l.length x1c', .slice x2A' x2l.length x2c', .slice x3A' x3l.length x3c', .slice x4A' x4l.length x4c', .slice x5A' x5l.length x5c', .slice x6A' x6l.length x6c', .slice x7A' x7l.length x7c', .bool x8, .int .i64 x9, .int .i64 x10, .int .i64 x11, .int .i64 x12]) ∧ RowIn RvPt 2 w' w.heap.size w'.heap.size x1A' x1l ∧ RowIn RvPt 2 w' w.heap.size w'.heap.size x2A' x2l ∧ RowIn RvBool 1 w' w.heap.size w'.heap.size x3A' x3l ∧ RowIn RvBool 1 w' w.heap.size w'.heap.size x4A' x4l ∧ RowIn RvInt64 1 w' w.heap.size w'.heap.size x5A' x5l ∧ RowIn RvInt64 1 w' w.heap.size w'.heap.size x6A' x6l ∧ RowIn RvInt64 1 w' w.heap.size w'.heap.size x7A' x7l ∧ Below w.heap.size w w'
set_option maxHeartbeats 3200000 in
theorem xtoHinter_any (x0 : Int) (x1A : Option Addr) (x1c : Nat) (x1l : List DPt) (x2A : Option Addr) (x2c : Nat) (x2l : List DPt) (x3A : Option Addr) (x3c : Nat) (x3l : List DBool) (x4A : Option Addr) (x4c : Nat) (x4l : List DBool) (x5A : Option Addr) (x5c : Nat) (x5l : List DInt64) (x6A : Option Addr) (x6c : Nat) (x6l : List DInt64) (x7A : Option Addr) (x7c : Nat) (x7l : List DInt64) (x8 : Bool) (x9 : Int) (x10 : Int) (x11 : Int) (x12 : Int) (w : World) (ht : totHinter (x0, x1l, x2l, x3l, x4l, x5l, x6l, x7l, x8, x9, x10, x11, x12) ≤ 1048576) (r_x1 : Row RvPt 2 w w.heap.size x1A x1l) (r_x2 : Row RvPt 2 w w.heap.size x2A x2l) (r_x3 : Row RvBool 1 w w.heap.size x3A x3l) (r_x4 : Row RvBool 1 w w.heap.size x4A x4l) (r_x5 : Row RvInt64 1 w w.heap.size x5A x5l) (r_x6 : Row RvInt64 1 w w.heap.size x6A x6l) (r_x7 : Row RvInt64 1 w w.heap.size x7A x7l) :
    Calls Try.prog 46 #[.agg #[.int .i64 x0, .slice x1A x1l.length x1c, .slice x2A x2l.length x2c, .slice x3A x3l.length x3c, .slice x4A x4l.length x4c, .slice x5A x5l.length x5c, .slice x6A x6l.length x6c, .slice x7A x7l.length x7c, .bool x8, .int .i64 x9, .int .i64 x10, .int .i64 x11, .int .i64 x12]] w (ToHinter x0 x1l x2l x3l x4l x5l x6l x7l x8 x9 x10 x11 x12 w) := by
  unfold ToHinter
  replace ht : totRow totPt x1l + totRow totPt x2l + totRow totBool x3l + totRow totBool x4l + totRow totInt64 x5l + totRow totInt64 x6l + totRow totInt64 x7l ≤ 1048576 := ht
  go_enter Try.func46, Try.ntmps46
  go_wp2_with fail
  refine (xtoPtS_any x1l x1A x1c _ (by omega) ?_).mono ?_
  · exact (Row.carry (w' := _) r_x1 (by repeat' (first | with_reducible assumption | with_reducible exact Below.refl _ _ | (with_reducible refine Below.setCell ?_ ?_ _) | (with_reducible refine Below.alloc ?_ ?_ _) | (with_reducible refine Below.drew ?_) | (with_reducible refine below_dr ?_ _) | (with_reducible refine Below.trans ?_ (Below.mono (by with_reducible assumption) ?_)) | omega | (simp; done) | (simp; omega))) (Nat.le_refl _)).more (by (try simp only [World.size_setCell]); (try simp only [World.size_drew]); (try simp only [World.size_alloc]); omega)
  intro e wZ0 hq
  obtain ⟨x1A', x1c', rfl, own_x1, hbwZ0⟩ := hq
  replace own_x1 := own_x1.down (lo' := w.heap.size + 1 + 1 + 1) (by (try simp only [World.size_setCell]); (try simp only [World.size_alloc]); omega)
  obtain ⟨hcwZ0, hfwZ0⟩ := bcell hbwZ0
  have hzwZ0 := hbwZ0.size
  (try simp only [World.size_setCell] at hcwZ0 hfwZ0 hzwZ0)
  (try simp only [World.size_drew] at hcwZ0 hfwZ0 hzwZ0)
  (try simp only [World.size_alloc] at hcwZ0 hfwZ0 hzwZ0)
  have qwZ00 : w.heap.size < wZ0.heap.size := by omega
  have qwZ01 : w.heap.size + 1 < wZ0.heap.size := by omega
  have qwZ02 : w.heap.size + 1 + 1 < wZ0.heap.size := by omega
  go_wp2_with fail
  refine (xtoPtS_any x2l x2A x2c _ (by omega) ?_).mono ?_
  · exact (Row.carry (w' := _) r_x2 (by repeat' (first | with_reducible assumption | with_reducible exact Below.refl _ _ | (with_reducible refine Below.setCell ?_ ?_ _) | (with_reducible refine Below.alloc ?_ ?_ _) | (with_reducible refine Below.drew ?_) | (with_reducible refine below_dr ?_ _) | (with_reducible refine Below.trans ?_ (Below.mono (by with_reducible assumption) ?_)) | omega | (simp; done) | (simp; omega))) (Nat.le_refl _)).more (by (try simp only [World.size_setCell]); (try simp only [World.size_drew]); (try simp only [World.size_alloc]); omega)
  intro e wZ1 hq
  obtain ⟨x2A', x2c', rfl, own_x2, hbwZ1⟩ := hq
  replace own_x2 := own_x2.down (lo' := w.heap.size + 1 + 1 + 1) (by (try simp only [World.size_setCell]); (try simp only [World.size_alloc]); omega)
  obtain ⟨hcwZ1, hfwZ1⟩ := bcell hbwZ1
  have hzwZ1 := hbwZ1.size
  (try simp only [World.size_setCell] at hcwZ1 hfwZ1 hzwZ1)
  (try simp only [World.size_drew] at hcwZ1 hfwZ1 hzwZ1)
  (try simp only [World.size_alloc] at hcwZ1 hfwZ1 hzwZ1)
  have qwZ10 : w.heap.size < wZ1.heap.size := by omega
  have qwZ11 : w.heap.size + 1 < wZ1.heap.size := by omega
  have qwZ12 : w.heap.size + 1 + 1 < wZ1.heap.size := by omega
  go_wp2_with fail
  refine (xtoBoolS_any x3l x3A x3c _ (by omega) ?_).mono ?_
  · exact (Row.carry (w' := _) r_x3 (by repeat' (first | with_reducible assumption | with_reducible exact Below.refl _ _ | (with_reducible refine Below.setCell ?_ ?_ _) | (with_reducible refine Below.alloc ?_ ?_ _) | (with_reducible refine Below.drew ?_) | (with_reducible refine below_dr ?_ _) | (with_reducible refine Below.trans ?_ (Below.mono (by with_reducible assumption) ?_)) | omega | (simp; done) | (simp; omega))) (Nat.le_refl _)).more (by (try simp only [World.size_setCell]); (try simp only [World.size_drew]); (try simp only [World.size_alloc]); omega)
  intro e wZ2 hq
  obtain ⟨x3A', x3c', rfl, own_x3, hbwZ2⟩ := hq
  replace own_x3 := own_x3.down (lo' := w.heap.size + 1 + 1 + 1) (by (try simp only [World.size_setCell]); (try simp only [World.size_alloc]); omega)
  obtain ⟨hcwZ2, hfwZ2⟩ := bcell hbwZ2
  have hzwZ2 := hbwZ2.size
  (try simp only [World.size_setCell] at hcwZ2 hfwZ2 hzwZ2)
  (try simp only [World.size_drew] at hcwZ2 hfwZ2 hzwZ2)
  (try simp only [World.size_alloc] at hcwZ2 hfwZ2 hzwZ2)
  have qwZ20 : w.heap.size < wZ2.heap.size := by omega
  have qwZ21 : w.heap.size + 1 < wZ2.heap.size := by omega
  have qwZ22 : w.heap.size + 1 + 1 < wZ2.heap.size := by omega
  go_wp2_with fail
  refine (xtoBoolS_any x4l x4A x4c _ (by omega) ?_).mono ?_
  · exact (Row.carry (w' := _) r_x4 (by repeat' (first | with_reducible assumption | with_reducible exact Below.refl _ _ | (with_reducible refine Below.setCell ?_ ?_ _) | (with_reducible refine Below.alloc ?_ ?_ _) | (with_reducible refine Below.drew ?_) | (with_reducible refine below_dr ?_ _) | (with_reducible refine Below.trans ?_ (Below.mono (by with_reducible assumption) ?_)) | omega | (simp; done) | (simp; omega))) (Nat.le_refl _)).more (by (try simp only [World.size_setCell]); (try simp only [World.size_drew]); (try simp only [World.size_alloc]); omega)
  intro e wZ3 hq
  obtain ⟨x4A', x4c', rfl, own_x4, hbwZ3⟩ := hq
  replace own_x4 := own_x4.down (lo' := w.heap.size + 1 + 1 + 1) (by (try simp only [World.size_setCell]); (try simp only [World.size_alloc]); omega)
  obtain ⟨hcwZ3, hfwZ3⟩ := bcell hbwZ3
  have hzwZ3 := hbwZ3.size
  (try simp only [World.size_setCell] at hcwZ3 hfwZ3 hzwZ3)
  (try simp only [World.size_drew] at hcwZ3 hfwZ3 hzwZ3)
  (try simp only [World.size_alloc] at hcwZ3 hfwZ3 hzwZ3)
  have qwZ30 : w.heap.size < wZ3.heap.size := by omega
  have qwZ31 : w.heap.size + 1 < wZ3.heap.size := by omega
  have qwZ32 : w.heap.size + 1 + 1 < wZ3.heap.size := by omega
  go_wp2_with fail
  refine (xtoInt64S_any x5l x5A x5c _ (by omega) ?_).mono ?_
  · exact (Row.carry (w' := _) r_x5 (by repeat' (first | with_reducible assumption | with_reducible exact Below.refl _ _ | (with_reducible refine Below.setCell ?_ ?_ _) | (with_reducible refine Below.alloc ?_ ?_ _) | (with_reducible refine Below.drew ?_) | (with_reducible refine below_dr ?_ _) | (with_reducible refine Below.trans ?_ (Below.mono (by with_reducible assumption) ?_)) | omega | (simp; done) | (simp; omega))) (Nat.le_refl _)).more (by (try simp only [World.size_setCell]); (try simp only [World.size_drew]); (try simp only [World.size_alloc]); omega)
  intro e wZ4 hq
  obtain ⟨x5A', x5c', rfl, own_x5, hbwZ4⟩ := hq
  replace own_x5 := own_x5.down (lo' := w.heap.size + 1 + 1 + 1) (by (try simp only [World.size_setCell]); (try simp only [World.size_alloc]); omega)
  obtain ⟨hcwZ4, hfwZ4⟩ := bcell hbwZ4
  have hzwZ4 := hbwZ4.size
  (try simp only [World.size_setCell] at hcwZ4 hfwZ4 hzwZ4)
  (try simp only [World.size_drew] at hcwZ4 hfwZ4 hzwZ4)
  (try simp only [World.size_alloc] at hcwZ4 hfwZ4 hzwZ4)
  have qwZ40 : w.heap.size < wZ4.heap.size := by omega
  have qwZ41 : w.heap.size + 1 < wZ4.heap.size := by omega
  have qwZ42 : w.heap.size + 1 + 1 < wZ4.heap.size := by omega
  go_wp2_with fail
  refine (xtoInt64S_any x6l x6A x6c _ (by omega) ?_).mono ?_
  · exact (Row.carry (w' := _) r_x6 (by repeat' (first | with_reducible assumption | with_reducible exact Below.refl _ _ | (with_reducible refine Below.setCell ?_ ?_ _) | (with_reducible refine Below.alloc ?_ ?_ _) | (with_reducible refine Below.drew ?_) | (with_reducible refine below_dr ?_ _) | (with_reducible refine Below.trans ?_ (Below.mono (by with_reducible assumption) ?_)) | omega | (simp; done) | (simp; omega))) (Nat.le_refl _)).more (by (try simp only [World.size_setCell]); (try simp only [World.size_drew]); (try simp only [World.size_alloc]); omega)
  intro e wZ5 hq
  obtain ⟨x6A', x6c', rfl, own_x6, hbwZ5⟩ := hq
  replace own_x6 := own_x6.down (lo' := w.heap.size + 1 + 1 + 1) (by (try simp only [World.size_setCell]); (try simp only [World.size_alloc]); omega)
  obtain ⟨hcwZ5, hfwZ5⟩ := bcell hbwZ5
  have hzwZ5 := hbwZ5.size
  (try simp only [World.size_setCell] at hcwZ5 hfwZ5 hzwZ5)
  (try simp only [World.size_drew] at hcwZ5 hfwZ5 hzwZ5)
  (try simp only [World.size_alloc] at hcwZ5 hfwZ5 hzwZ5)
  have qwZ50 : w.heap.size < wZ5.heap.size := by omega
  have qwZ51 : w.heap.size + 1 < wZ5.heap.size := by omega
  have qwZ52 : w.heap.size + 1 + 1 < wZ5.heap.size := by omega
  go_wp2_with fail
  refine (xtoInt64S_any x7l x7A x7c _ (by omega) ?_).mono ?_
  · exact (Row.carry (w' := _) r_x7 (by repeat' (first | with_reducible assumption | with_reducible exact Below.refl _ _ | (with_reducible refine Below.setCell ?_ ?_ _) | (with_reducible refine Below.alloc ?_ ?_ _) | (with_reducible refine Below.drew ?_) | (with_reducible refine below_dr ?_ _) | (with_reducible refine Below.trans ?_ (Below.mono (by with_reducible assumption) ?_)) | omega | (simp; done) | (simp; omega))) (Nat.le_refl _)).more (by (try simp only [World.size_setCell]); (try simp only [World.size_drew]); (try simp only [World.size_alloc]); omega)
  intro e wZ6 hq
  obtain ⟨x7A', x7c', rfl, own_x7, hbwZ6⟩ := hq
  replace own_x7 := own_x7.down (lo' := w.heap.size + 1 + 1 + 1) (by (try simp only [World.size_setCell]); (try simp only [World.size_alloc]); omega)
  obtain ⟨hcwZ6, hfwZ6⟩ := bcell hbwZ6
  have hzwZ6 := hbwZ6.size
  (try simp only [World.size_setCell] at hcwZ6 hfwZ6 hzwZ6)
  (try simp only [World.size_drew] at hcwZ6 hfwZ6 hzwZ6)
  (try simp only [World.size_alloc] at hcwZ6 hfwZ6 hzwZ6)
  have qwZ60 : w.heap.size < wZ6.heap.size := by omega
  have qwZ61 : w.heap.size + 1 < wZ6.heap.size := by omega
  have qwZ62 : w.heap.size + 1 + 1 < wZ6.heap.size := by omega
  go_wp2_with fail
  refine bodyPost_ret (v := .agg #[.int .i64 x0, .slice x1A' x1l.length x1c', .slice x2A' x2l.length x2c', .slice x3A' x3l.length x3c', .slice x4A' x4l.length x4c', .slice x5A' x5l.length x5c', .slice x6A' x6l.length x6c', .slice x7A' x7l.length x7c', .bool x8, .int .i64 x9, .int .i64 x10, .int .i64 x11, .int .i64 x12]) (by simp [results, Try.results46, go_sem, *]) rfl ⟨_, _, _, _, _, _, _, _, _, _, _, _, _, _, rfl, ?_, ?_, ?_, ?_, ?_, ?_, ?_, ?_⟩
  · refine RowIn.wide (B := wZ0.heap.size) ?_ (by (try simp only [World.size_setCell]); (try simp only [World.size_drew]); (try simp only [World.size_alloc]); omega)
    refine RowIn.down (lo := w.heap.size + 1 + 1 + 1) ?_ (by omega)
    repeat (first | with_reducible exact own_x1 | (with_reducible refine RowIn.far ?_ (by simp only; omega) _) | (with_reducible refine RowIn.drew ?_) | (with_reducible refine RowIn.stays ?_ (by with_reducible assumption) (by (try simp only [World.size_setCell]); (try simp only [World.size_drew]); (try simp only [World.size_alloc]); omega)))
  · refine RowIn.wide (B := wZ1.heap.size) ?_ (by (try simp only [World.size_setCell]); (try simp only [World.size_drew]); (try simp only [World.size_alloc]); omega)
    refine RowIn.down (lo := w.heap.size + 1 + 1 + 1) ?_ (by omega)
    repeat (first | with_reducible exact own_x2 | (with_reducible refine RowIn.far ?_ (by simp only; omega) _) | (with_reducible refine RowIn.drew ?_) | (with_reducible refine RowIn.stays ?_ (by with_reducible assumption) (by (try simp only [World.size_setCell]); (try simp only [World.size_drew]); (try simp only [World.size_alloc]); omega)))
  · refine RowIn.wide (B := wZ2.heap.size) ?_ (by (try simp only [World.size_setCell]); (try simp only [World.size_drew]); (try simp only [World.size_alloc]); omega)
    refine RowIn.down (lo := w.heap.size + 1 + 1 + 1) ?_ (by omega)
    repeat (first | with_reducible exact own_x3 | (with_reducible refine RowIn.far ?_ (by simp only; omega) _) | (with_reducible refine RowIn.drew ?_) | (with_reducible refine RowIn.stays ?_ (by with_reducible assumption) (by (try simp only [World.size_setCell]); (try simp only [World.size_drew]); (try simp only [World.size_alloc]); omega)))
  · refine RowIn.wide (B := wZ3.heap.size) ?_ (by (try simp only [World.size_setCell]); (try simp only [World.size_drew]); (try simp only [World.size_alloc]); omega)
    refine RowIn.down (lo := w.heap.size + 1 + 1 + 1) ?_ (by omega)
    repeat (first | with_reducible exact own_x4 | (with_reducible refine RowIn.far ?_ (by simp only; omega) _) | (with_reducible refine RowIn.drew ?_) | (with_reducible refine RowIn.stays ?_ (by with_reducible assumption) (by (try simp only [World.size_setCell]); (try simp only [World.size_drew]); (try simp only [World.size_alloc]); omega)))
  · refine RowIn.wide (B := wZ4.heap.size) ?_ (by (try simp only [World.size_setCell]); (try simp only [World.size_drew]); (try simp only [World.size_alloc]); omega)
    refine RowIn.down (lo := w.heap.size + 1 + 1 + 1) ?_ (by omega)
    repeat (first | with_reducible exact own_x5 | (with_reducible refine RowIn.far ?_ (by simp only; omega) _) | (with_reducible refine RowIn.drew ?_) | (with_reducible refine RowIn.stays ?_ (by with_reducible assumption) (by (try simp only [World.size_setCell]); (try simp only [World.size_drew]); (try simp only [World.size_alloc]); omega)))
  · refine RowIn.wide (B := wZ5.heap.size) ?_ (by (try simp only [World.size_setCell]); (try simp only [World.size_drew]); (try simp only [World.size_alloc]); omega)
    refine RowIn.down (lo := w.heap.size + 1 + 1 + 1) ?_ (by omega)
    repeat (first | with_reducible exact own_x6 | (with_reducible refine RowIn.far ?_ (by simp only; omega) _) | (with_reducible refine RowIn.drew ?_) | (with_reducible refine RowIn.stays ?_ (by with_reducible assumption) (by (try simp only [World.size_setCell]); (try simp only [World.size_drew]); (try simp only [World.size_alloc]); omega)))
  · refine RowIn.wide (B := wZ6.heap.size) ?_ (by (try simp only [World.size_setCell]); (try simp only [World.size_drew]); (try simp only [World.size_alloc]); omega)
    refine RowIn.down (lo := w.heap.size + 1 + 1 + 1) ?_ (by omega)
    repeat (first | with_reducible exact own_x7 | (with_reducible refine RowIn.far ?_ (by simp only; omega) _) | (with_reducible refine RowIn.drew ?_) | (with_reducible refine RowIn.stays ?_ (by with_reducible assumption) (by (try simp only [World.size_setCell]); (try simp only [World.size_drew]); (try simp only [World.size_alloc]); omega)))
  · repeat' (first | with_reducible assumption | with_reducible exact Below.refl _ _ | (with_reducible refine Below.setCell ?_ ?_ _) | (with_reducible refine Below.alloc ?_ ?_ _) | (with_reducible refine Below.drew ?_) | (with_reducible refine below_dr ?_ _) | (with_reducible refine Below.trans ?_ (Below.mono (by with_reducible assumption) ?_)) | omega | (simp; done) | (simp; omega))
end Go.Proofs.Ytdikenapnncmfaa
