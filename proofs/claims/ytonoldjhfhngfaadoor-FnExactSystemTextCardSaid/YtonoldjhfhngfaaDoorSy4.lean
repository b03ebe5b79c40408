/- Walks: they are copied. -/
import Derived.Test.YtonoldjhfhngfaaDoorSy3
import Derived.Laws.MakeOwn
import Derived.Laws.OwnMore
namespace Go.Proofs.YtonoldjhfhngfaaDoor
open Go.RowKit
set_option linter.unusedVariables false
theorem run_make_rowN {P : Program} (t e : TypeId) (i : TypeInfo) (z : Value) (ht : P.underlying t = some (.slice e)) (hi : P.info? e = some i) (hz : i.zero = some z)
    (kl kc : IntKind) (n c : Nat) (hnc : n ≤ c) (hbytes : i.bytes * c ≤ 281474976710656) (h63 : c ≤ 9223372036854775807) (w : World) :
    (Instr.makeSlice t (.int kl (n : Int)) (.int kc (c : Int))).run P w = .ok (.slice (some ⟨w.heap.size, 0, none⟩) n c) (w.alloc (.cells (madeCells z.cells (c * i.size)) e)) := by
  have hb : (i.bytes : Int) * (c : Int) ≤ 281474976710656 := by
    have h : ((i.bytes * c : Nat) : Int) ≤ 281474976710656 := by omega
    rwa [Int.natCast_mul] at h
  have hr := run_make (P := P) w t e i z ht hi hz kl kc n c (by omega) (by omega) hb (by omega)
  simp only [Int.toNat_natCast] at hr
  exact hr
theorem own_made (w : World) (base : Nat) (e : TypeId) (s n : Nat) (cs : Array Value) (hb : base ≤ w.heap.size) (hn : n ≤ maxLen) (hc : cs.size = n * s) :
    (w.alloc (.cells cs e)).ownsRow base e s (.slice (some ⟨w.heap.size, 0, none⟩) n n) n cs.toList :=
  ⟨by rw [Array.length_toList]; exact hc, .inr ⟨w.heap.size, n, cs, rfl, hb, heap_alloc_new w _, Nat.le_refl _, hn, hc, by rw [List.take_of_length_le (by rw [Array.length_toList]; omega)]⟩⟩
theorem own_stays {W W' : World} {B e size n : Nat} {v : Value} {xs : List Value} (h : W.ownsRow B e size v n xs) (hb : Below W.heap.size W W') : W'.ownsRow B e size v n xs :=
  h.kept (row := none) ⟨hb.os, hb.tape, hb.output, hb.size, fun k hk _ => hb.block k hk⟩ (Classical.em _)
theorem own_drewN {W : World} {B e size n : Nat} {v : Value} {xs : List Value} (h : W.ownsRow B e size v n xs) (k : Nat) : (W.drewN k).ownsRow B e size v n xs := h
theorem own_drew {W : World} {B e size n : Nat} {v : Value} {xs : List Value} (h : W.ownsRow B e size v n xs) : W.drew.ownsRow B e size v n xs := h
theorem own_base {w : World} {base base' e s n : Nat} {v : Value} {xs : List Value} (h : w.ownsRow base' e s v n xs) (hb : base ≤ base') : w.ownsRow base e s v n xs := by
  obtain ⟨hl, h⟩ := h
  refine ⟨hl, ?_⟩
  rcases h with h | ⟨g, cap, cur, hv, hg, r⟩
  · exact .inl h
  · exact .inr ⟨g, cap, cur, hv, Nat.le_trans hb hg, r⟩
/-- A store below what is owned. -/
theorem own_far {w : World} {base b2 e s n : Nat} {v : Value} {xs : List Value} (h : w.ownsRow b2 e s v n xs) {p : Addr} (hp : p.block < b2) (hb : base ≤ b2) (u : Value) : (w.setCell p u).ownsRow base e s v n xs := by
  obtain ⟨hl, h⟩ := h
  refine ⟨hl, ?_⟩
  rcases h with h | ⟨g, cap, cur, hv, hg, hh, r⟩
  · exact .inl h
  · exact .inr ⟨g, cap, cur, hv, Nat.le_trans hb hg, (Below.heap_setCell w p u g (by omega)).trans hh, r⟩
theorem grownBy_of_below {w w' : World} (h : Below w.heap.size w w') (row : Option Nat) : w.grownBy w' row := ⟨h.os, h.tape, h.output, h.size, fun k hk _ => h.block k hk⟩
theorem grownBy_trans {w w1 w2 : World} {row : Option Nat} (h : w.grownBy w1 row) (k : w1.grownBy w2 row) : w.grownBy w2 row :=
  ⟨k.os.trans h.os, k.tape.trans h.tape, k.output.trans h.output, Nat.le_trans h.size k.size, fun i hi hr => (k.block i (Nat.lt_of_lt_of_le hi h.size) hr).trans (h.block i hi hr)⟩
def ToFrac (x0 : Int) (x1 : Int) (w : World) (e : Ending) (w' : World) : Prop := e = .returned (.agg #[.int .i64 x0, .int .i64 x1]) ∧ Below w.heap.size w w'
set_option maxHeartbeats 3200000 in
theorem xtoFrac_any (x0 : Int) (x1 : Int) (w : World) (ht : totFrac (x0, x1) ≤ 1048576)  :
    Calls Tryd.prog 80 #[.agg #[.int .i64 x0, .int .i64 x1]] w (ToFrac x0 x1 w) := by
  unfold ToFrac
  go_enter Tryd.func80, Tryd.ntmps80
  go_wp2_with fail
  refine bodyPost_ret (v := .agg #[.int .i64 x0, .int .i64 x1]) (by simp [results, Tryd.results80, go_sem, *]) rfl ⟨rfl, ?_⟩
  · repeat' (first | with_reducible assumption | with_reducible exact Below.refl _ _ | (with_reducible refine Below.setCell ?_ ?_ _) | (with_reducible refine Below.alloc ?_ ?_ _) | (with_reducible refine Below.drew ?_) | (with_reducible refine below_dr ?_ _) | (with_reducible refine Below.trans ?_ (Below.mono (by with_reducible assumption) ?_)) | omega | (simp; done) | (simp; omega))
def ToTerm (x0 : ByteArray) (x1 : Int) (x2 : Int) (w : World) (e : Ending) (w' : World) : Prop := e = .returned (.agg #[.string x0, .int .i64 x1, .int .i64 x2]) ∧ Below w.heap.size w w'
set_option maxHeartbeats 3200000 in
theorem xtoTerm_any (x0 : ByteArray) (x1 : Int) (x2 : Int) (w : World) (ht : totTerm (x0, x1, x2) ≤ 1048576)  :
    Calls Tryd.prog 99 #[.agg #[.string x0, .int .i64 x1, .int .i64 x2]] w (ToTerm x0 x1 x2 w) := by
  unfold ToTerm
  go_enter Tryd.func99, Tryd.ntmps99
  go_wp2_with fail
  refine (xtoFrac_any x1 x2 _ (show totFrac (x1, x2) ≤ 1048576 from by first | exact Nat.zero_le _ | (simp only [totFrac]; omega)) ).mono ?_
  intro e wZ0 hq
  obtain ⟨rfl, hbwZ0⟩ := hq
  obtain ⟨hcwZ0, hfwZ0⟩ := bcell hbwZ0
  have hzwZ0 := hbwZ0.size
  (try simp only [World.size_setCell] at hcwZ0 hfwZ0 hzwZ0)
  (try simp only [World.size_drew] at hcwZ0 hfwZ0 hzwZ0)
  (try simp only [World.size_alloc] at hcwZ0 hfwZ0 hzwZ0)
  have qwZ00 : w.heap.size < wZ0.heap.size := by omega
  have qwZ01 : w.heap.size + 1 < wZ0.heap.size := by omega
  have qwZ02 : w.heap.size + 1 + 1 < wZ0.heap.size := by omega
  go_wp2_with fail
  refine bodyPost_ret (v := .agg #[.string x0, .int .i64 x1, .int .i64 x2]) (by simp [results, Tryd.results99, go_sem, *]) rfl ⟨rfl, ?_⟩
  · repeat' (first | with_reducible assumption | with_reducible exact Below.refl _ _ | (with_reducible refine Below.setCell ?_ ?_ _) | (with_reducible refine Below.alloc ?_ ?_ _) | (with_reducible refine Below.drew ?_) | (with_reducible refine below_dr ?_ _) | (with_reducible refine Below.trans ?_ (Below.mono (by with_reducible assumption) ?_)) | omega | (simp; done) | (simp; omega))
theorem hinfoTerm : (Tryd.prog.info? 82).map (fun i => (i.zero, i.size, i.bytes)) = some (some (.agg #[.string ByteArray.empty, .int .i64 0, .int .i64 0]), 3, 32) := by kernel_rfl
def ToSTerm (l : List DTerm) (w : World) (e : Ending) (w' : World) : Prop := ∃ (A' : Option Addr) (c' : Nat), e = .returned (.slice A' l.length c') ∧ RowIn RvTerm 3 w' w.heap.size w'.heap.size A' l ∧ Below w.heap.size w w'
set_option maxHeartbeats 3200000 in
theorem xtoTermS_any (l : List DTerm) (A : Option Addr) (c : Nat) (w : World) (ht : totRow totTerm l ≤ 1048576) (r : Row RvTerm 3 w w.heap.size A l) :
    Calls Tryd.prog 81 #[.slice A l.length c] w (ToSTerm l w) := by
  obtain ⟨i0, hi0, hz0, hz1, hz2⟩ := info_parts hinfoTerm
  have HTE := Lib.hid (fun (k : Nat) (d : DTerm) (h : l[k]? = some d) => Nat.le_trans (totRow_at (f := totTerm) h) ht)
  have hl : l.length ≤ 1048576 := Nat.le_trans (totRow_len totTerm l) ht
  clear ht
  obtain ⟨n, hn⟩ : ∃ n, n = l.length := ⟨_, rfl⟩
  rw [← hn] at hl
  have hmk := fun W => run_make_rowN (P := Tryd.prog) 48 82 i0 _ Tryd.underlying48 hi0 hz0 .i64 .i64 n n (Nat.le_refl _) (by rw [hz2]; omega) (by omega) W
  rw [hz1] at hmk
  have hsz : ∀ W : World, (madeCells (Value.cells (.agg #[.string ByteArray.empty, .int .i64 0, .int .i64 0])) (n * 3)).size = n * 3 := fun _ => size_madeCells _ _
  generalize hZ : madeCells (Value.cells (.agg #[.string ByteArray.empty, .int .i64 0, .int .i64 0])) (n * 3) = Z at hmk hsz
  have hszZ := Lib.hid (hsz w)
  clear hZ hsz hi0 hz0 hz1 hz2
  unfold ToSTerm
  rw [← hn]
  have HN := Lib.hid hn
  clear hn
  go_enter Tryd.func81, Tryd.ntmps81
  go_wp2_with fail
  clear hmk
  have hown0 := own_made w w.heap.size 82 3 n Z (Nat.le_refl _) (by unfold maxLen; omega) hszZ.out
  have hb0 : Below w.heap.size w (w.alloc (.cells Z 82)) := by repeat' (first | with_reducible assumption | with_reducible exact Below.refl _ _ | (with_reducible refine Below.setCell ?_ ?_ _) | (with_reducible refine Below.alloc ?_ ?_ _) | (with_reducible refine Below.drew ?_) | (with_reducible refine below_dr ?_ _) | (with_reducible refine Below.trans ?_ (Below.mono (by with_reducible assumption) ?_)) | omega | (simp; done) | (simp; omega))
  have hz00 : w.heap.size < (w.alloc (.cells Z 82)).heap.size := by simp
  generalize w.alloc (.cells Z 82) = W0 at hown0 hb0 hz00 ⊢
  go_loopw [4] (fun i wr => ∃ (k : Nat) (xs : List Value), k ≤ n ∧ i = .int .i64 (k : Int) ∧ wr.ownsRow w.heap.size 82 3 (.slice (some ⟨w.heap.size, 0, none⟩) n n) n xs ∧ Fill RvTerm 3 wr (w.heap.size + 1) wr.heap.size l k xs ∧ Below w.heap.size w wr ∧ w.heap.size < wr.heap.size) (fun i _ => n - (intOf i).toNat)
  case atStart => exact ⟨0, _, Nat.zero_le _, rfl, hown0, Fill.zero, hb0, hz00⟩
  case round =>
    obtain ⟨k, xs, hk, rfl, hown, hfil, hbl, hzr⟩ := hrel
    have hxl : xs.length = n * 3 := hown.1
    have HX := Lib.hid hxl
    have HFIL := Lib.hid hfil
    clear hxl hfil
    by_cases hlt : k < n
    case pos =>
      obtain ⟨⟨x0, x1, x2⟩, ha⟩ : ∃ a, l[k]? = some a := ⟨l[k]'(by have := HN.out; omega), List.getElem?_eq_getElem (by have := HN.out; omega)⟩
      obtain ⟨g, o, row, rfl, hg, hR, hcc⟩ := (Row.carry (w' := wr) r hbl (Nat.le_refl _)).elem ha
      obtain rfl := hR
      have c0 : wr.cell? ⟨g, o + k * 3, none⟩ = some (.string x0) := hcc 0 _ rfl
      have c1 : wr.cell? ⟨g, o + k * 3 + 1, none⟩ = some (.int .i64 x1) := hcc 1 _ rfl
      have c2 : wr.cell? ⟨g, o + k * 3 + 2, none⟩ = some (.int .i64 x2) := hcc 2 _ rfl
      clear hcc
      have HA := Lib.hid ha
      have hte := HTE.out k _ ha
      clear ha
      have hki : (k : Int) < (n : Int) := by omega
      go_wp2_with fail
      refine (xtoTerm_any x0 x1 x2 _ hte ).mono ?_
      intro e wA hq
      obtain ⟨rfl, hbA⟩ := hq
      have hownA := own_stays hown hbA
      have hzA := hbA.size
      obtain ⟨yo0, y0⟩ : ∃ v, wA.cell? ⟨w.heap.size, k * 3, none⟩ = some v := ⟨_, (hownA.cellAt (k * 3) (by have := HX.out; omega)).trans (List.getElem?_eq_getElem (by have := HX.out; omega))⟩
      have yf0 : wA.frozen? ⟨w.heap.size, k * 3, none⟩ = false := hownA.frozenAt (k * 3)
      obtain ⟨yo1, y1⟩ : ∃ v, wA.cell? ⟨w.heap.size, k * 3 + 1, none⟩ = some v := ⟨_, (hownA.cellAt (k * 3 + 1) (by have := HX.out; omega)).trans (List.getElem?_eq_getElem (by have := HX.out; omega))⟩
      have yf1 : wA.frozen? ⟨w.heap.size, k * 3 + 1, none⟩ = false := hownA.frozenAt (k * 3 + 1)
      obtain ⟨yo2, y2⟩ : ∃ v, wA.cell? ⟨w.heap.size, k * 3 + 2, none⟩ = some v := ⟨_, (hownA.cellAt (k * 3 + 2) (by have := HX.out; omega)).trans (List.getElem?_eq_getElem (by have := HX.out; omega))⟩
      have yf2 : wA.frozen? ⟨w.heap.size, k * 3 + 2, none⟩ = false := hownA.frozenAt (k * 3 + 2)
      clear hown
      go_wp2_with fail
      go_roundw
      case rel =>
        have hst0 := World.ownsRow.stored (hownA) (k * 3) (.string x0)
        have hst1 := World.ownsRow.stored (hst0.1) (k * 3 + 1) (.int .i64 x1)
        have hst2 := World.ownsRow.stored (hst1.1) (k * 3 + 2) (.int .i64 x2)
        have hstep : Fill RvTerm 3 (((wA.setCell ⟨w.heap.size, k * 3, none⟩ (.string x0)).setCell ⟨w.heap.size, k * 3 + 1, none⟩ (.int .i64 x1)).setCell ⟨w.heap.size, k * 3 + 2, none⟩ (.int .i64 x2)) (w.heap.size + 1) (((wA.setCell ⟨w.heap.size, k * 3, none⟩ (.string x0)).setCell ⟨w.heap.size, k * 3 + 1, none⟩ (.int .i64 x1)).setCell ⟨w.heap.size, k * 3 + 2, none⟩ (.int .i64 x2)).heap.size l (k + 1) (setRun xs (k * 3) [.string x0, .int .i64 x1, .int .i64 x2]) := HFIL.out.step (fun p h1 h2 => by rw [World.cell?_setCell_other _ _ _ _ (fun e => by subst e; simp only at h1; omega), World.cell?_setCell_other _ _ _ _ (fun e => by subst e; simp only at h1; omega), World.cell?_setCell_other _ _ _ _ (fun e => by subst e; simp only at h1; omega)]; exact hbA.cell h2) (by simp only [World.size_setCell]; omega) HA.out (fun _ _ => rfl) (by have := HX.out; omega) rfl
        exact ⟨k + 1, _, by omega, by go_num, hst2.1, hstep, by repeat' (first | with_reducible assumption | with_reducible exact Below.refl _ _ | (with_reducible refine Below.setCell ?_ ?_ _) | (with_reducible refine Below.alloc ?_ ?_ _) | (with_reducible refine Below.drew ?_) | (with_reducible refine below_dr ?_ _) | (with_reducible refine Below.trans ?_ (Below.mono (by with_reducible assumption) ?_)) | omega | (simp; done) | (simp; omega)), by (simp only [World.size_setCell]; omega)⟩
      case measure => simp [intOf]; omega
    case neg =>
      obtain rfl : k = n := by omega
      go_wp2_with fail
      go_ret
      exact ⟨_, _, rfl, HFIL.out.done hown HN.out hzr, hbl⟩
def ToLinear (x0 : Int) (x1 : Int) (x2l : List DTerm) (w : World) (e : Ending) (w' : World) : Prop := ∃ (x2A' : Option Addr) (x2c' : Nat), e = .returned (.agg #[.int .i64 x0, .int .i64 x1, .slice x2A' x2l.length x2c']) ∧ RowIn RvTerm 3 w' w.heap.size w'.heap.size x2A' x2l ∧ Below w.heap.size w w'
set_option maxHeartbeats 3200000 in
theorem xtoLinear_any (x0 : Int) (x1 : Int) (x2A : Option Addr) (x2c : Nat) (x2l : List DTerm) (w : World) (ht : totLinear (x0, x1, x2l) ≤ 1048576) (r_x2 : Row RvTerm 3 w w.heap.size x2A x2l) :
    Calls Tryd.prog 59 #[.agg #[.int .i64 x0, .int .i64 x1, .slice x2A x2l.length x2c]] w (ToLinear x0 x1 x2l w) := by
  unfold ToLinear
  replace ht : totRow totTerm x2l ≤ 1048576 := ht
  go_enter Tryd.func59, Tryd.ntmps59
  go_wp2_with fail
  refine (xtoFrac_any x0 x1 _ (show totFrac (x0, x1) ≤ 1048576 from by first | exact Nat.zero_le _ | (simp only [totFrac]; omega)) ).mono ?_
  intro e wZ0 hq
  obtain ⟨rfl, hbwZ0⟩ := hq
  obtain ⟨hcwZ0, hfwZ0⟩ := bcell hbwZ0
  have hzwZ0 := hbwZ0.size
  (try simp only [World.size_setCell] at hcwZ0 hfwZ0 hzwZ0)
  (try simp only [World.size_drew] at hcwZ0 hfwZ0 hzwZ0)
  (try simp only [World.size_alloc] at hcwZ0 hfwZ0 hzwZ0)
  have qwZ00 : w.heap.size < wZ0.heap.size := by omega
  have qwZ01 : w.heap.size + 1 < wZ0.heap.size := by omega
  have qwZ02 : w.heap.size + 1 + 1 < wZ0.heap.size := by omega
  go_wp2_with fail
  refine (xtoTermS_any x2l x2A x2c _ (by omega) ?_).mono ?_
  · exact (Row.carry (w' := _) r_x2 (by repeat' (first | with_reducible assumption | with_reducible exact Below.refl _ _ | (with_reducible refine Below.setCell ?_ ?_ _) | (with_reducible refine Below.alloc ?_ ?_ _) | (with_reducible refine Below.drew ?_) | (with_reducible refine below_dr ?_ _) | (with_reducible refine Below.trans ?_ (Below.mono (by with_reducible assumption) ?_)) | omega | (simp; done) | (simp; omega))) (Nat.le_refl _)).more (by (try simp only [World.size_setCell]); (try simp only [World.size_drew]); (try simp only [World.size_alloc]); omega)
  intro e wZ1 hq
  obtain ⟨x2A', x2c', rfl, own_x2, hbwZ1⟩ := hq
  replace own_x2 := own_x2.down (lo' := w.heap.size + 1 + 1 + 1) (by (try simp only [World.size_setCell]); (try simp only [World.size_alloc]); omega)
  obtain ⟨hcwZ1, hfwZ1⟩ := bcell hbwZ1
  have hzwZ1 := hbwZ1.size
  (try simp only [World.size_setCell] at hcwZ1 hfwZ1 hzwZ1)
  (try simp only [World.size_drew] at hcwZ1 hfwZ1 hzwZ1)
  (try simp only [World.size_alloc] at hcwZ1 hfwZ1 hzwZ1)
  have qwZ10 : w.heap.size < wZ1.heap.size := by omega
  have qwZ11 : w.heap.size + 1 < wZ1.heap.size := by omega
  have qwZ12 : w.heap.size + 1 + 1 < wZ1.heap.size := by omega
  go_wp2_with fail
  refine bodyPost_ret (v := .agg #[.int .i64 x0, .int .i64 x1, .slice x2A' x2l.length x2c']) (by simp [results, Tryd.results59, go_sem, *]) rfl ⟨_, _, rfl, ?_, ?_⟩
  · refine RowIn.wide (B := wZ1.heap.size) ?_ (by (try simp only [World.size_setCell]); (try simp only [World.size_drew]); (try simp only [World.size_alloc]); omega)
    refine RowIn.down (lo := w.heap.size + 1 + 1 + 1) ?_ (by omega)
    repeat (first | with_reducible exact own_x2 | (with_reducible refine RowIn.far ?_ (by simp only; omega) _) | (with_reducible refine RowIn.drew ?_) | (with_reducible refine RowIn.stays ?_ (by with_reducible assumption) (by (try simp only [World.size_setCell]); (try simp only [World.size_drew]); (try simp only [World.size_alloc]); omega)))
  · repeat' (first | with_reducible assumption | with_reducible exact Below.refl _ _ | (with_reducible refine Below.setCell ?_ ?_ _) | (with_reducible refine Below.alloc ?_ ?_ _) | (with_reducible refine Below.drew ?_) | (with_reducible refine below_dr ?_ _) | (with_reducible refine Below.trans ?_ (Below.mono (by with_reducible assumption) ?_)) | omega | (simp; done) | (simp; omega))
def ToSRow (x0 : ByteArray) (x1 : Int) (x2 : Int) (x3l : List DTerm) (w : World) (e : Ending) (w' : World) : Prop := ∃ (x3A' : Option Addr) (x3c' : Nat), e = .returned (.agg #[.string x0, .int .i64 x1, .int .i64 x2, .slice x3A' x3l.length x3c']) ∧ RowIn RvTerm 3 w' w.heap.size w'.heap.size x3A' x3l ∧ Below w.heap.size w w'
set_option maxHeartbeats 3200000 in
theorem xtoSRow_any (x0 : ByteArray) (x1 : Int) (x2 : Int) (x3A : Option Addr) (x3c : Nat) (x3l : List DTerm) (w : World) (ht : totSRow (x0, x1, x2, x3l) ≤ 1048576) (r_x3 : Row RvTerm 3 w w.heap.size x3A x3l) :
    Calls Tryd.prog 39 #[.agg #[.string x0, .int .i64 x1, .int .i64 x2, .slice x3A x3l.length x3c]] w (ToSRow x0 x1 x2 x3l w) := by
  unfold ToSRow
  replace ht : x0.size + totRow totTerm x3l ≤ 1048576 := ht
  go_enter Tryd.func39, Tryd.ntmps39
  go_wp2_with fail
  refine (xtoLinear_any x1 x2 x3A x3c x3l _ (by show totRow totTerm x3l ≤ 1048576; omega) ?_).mono ?_
  · exact (Row.carry (w' := _) r_x3 (by repeat' (first | with_reducible assumption | with_reducible exact Below.refl _ _ | (with_reducible refine Below.setCell ?_ ?_ _) | (with_reducible refine Below.alloc ?_ ?_ _) | (with_reducible refine Below.drew ?_) | (with_reducible refine below_dr ?_ _) | (with_reducible refine Below.trans ?_ (Below.mono (by with_reducible assumption) ?_)) | omega | (simp; done) | (simp; omega))) (Nat.le_refl _)).more (by (try simp only [World.size_setCell]); (try simp only [World.size_drew]); (try simp only [World.size_alloc]); omega)
  intro e wZ0 hq
  obtain ⟨x3A', x3c', rfl, own_x3, hbwZ0⟩ := hq
  replace own_x3 := own_x3.down (lo' := w.heap.size + 1 + 1 + 1) (by (try simp only [World.size_setCell]); (try simp only [World.size_alloc]); omega)
  obtain ⟨hcwZ0, hfwZ0⟩ := bcell hbwZ0
  have hzwZ0 := hbwZ0.size
  (try simp only [World.size_setCell] at hcwZ0 hfwZ0 hzwZ0)
  (try simp only [World.size_drew] at hcwZ0 hfwZ0 hzwZ0)
  (try simp only [World.size_alloc] at hcwZ0 hfwZ0 hzwZ0)
  have qwZ00 : w.heap.size < wZ0.heap.size := by omega
  have qwZ01 : w.heap.size + 1 < wZ0.heap.size := by omega
  have qwZ02 : w.heap.size + 1 + 1 < wZ0.heap.size := by omega
  go_wp2_with fail
  refine bodyPost_ret (v := .agg #[.string x0, .int .i64 x1, .int .i64 x2, .slice x3A' x3l.length x3c']) (by simp [results, Tryd.results39, go_sem, *]) rfl ⟨_, _, rfl, ?_, ?_⟩
  · refine RowIn.wide (B := wZ0.heap.size) ?_ (by (try simp only [World.size_setCell]); (try simp only [World.size_drew]); (try simp only [World.size_alloc]); omega)
    refine RowIn.down (lo := w.heap.size + 1 + 1 + 1) ?_ (by omega)
    repeat (first | with_reducible exact own_x3 | (with_reducible refine RowIn.far ?_ (by simp only; omega) _) | (with_reducible refine RowIn.drew ?_) | (with_reducible refine RowIn.stays ?_ (by with_reducible assumption) (by (try simp only [World.size_setCell]); (try simp only [World.size_drew]); (try simp only [World.size_alloc]); omega)))
  · repeat' (first | with_reducible assumption | with_reducible exact Below.refl _ _ | (with_reducible refine Below.setCell ?_ ?_ _) | (with_reducible refine Below.alloc ?_ ?_ _) | (with_reducible refine Below.drew ?_) | (with_reducible refine below_dr ?_ _) | (with_reducible refine Below.trans ?_ (Below.mono (by with_reducible assumption) ?_)) | omega | (simp; done) | (simp; omega))
theorem hinfoSRow : (Tryd.prog.info? 52).map (fun i => (i.zero, i.size, i.bytes)) = some (some (.agg #[.string ByteArray.empty, .int .i64 0, .int .i64 0, .slice none 0 0]), 4, 56) := by kernel_rfl
def ToSSRow (l : List DSRow) (w : World) (e : Ending) (w' : World) : Prop := ∃ (A' : Option Addr) (c' : Nat), e = .returned (.slice A' l.length c') ∧ RowIn RvSRow 4 w' w.heap.size w'.heap.size A' l ∧ Below w.heap.size w w'
set_option maxHeartbeats 3200000 in
theorem xtoSRowS_any (l : List DSRow) (A : Option Addr) (c : Nat) (w : World) (ht : totRow totSRow l ≤ 1048576) (r : Row RvSRow 4 w w.heap.size A l) :
    Calls Tryd.prog 21 #[.slice A l.length c] w (ToSSRow l w) := by
  obtain ⟨i0, hi0, hz0, hz1, hz2⟩ := info_parts hinfoSRow
  have HTE := Lib.hid (fun (k : Nat) (d : DSRow) (h : l[k]? = some d) => Nat.le_trans (totRow_at (f := totSRow) h) ht)
  have hl : l.length ≤ 1048576 := Nat.le_trans (totRow_len totSRow l) ht
  clear ht
  obtain ⟨n, hn⟩ : ∃ n, n = l.length := ⟨_, rfl⟩
  rw [← hn] at hl
  have hmk := fun W => run_make_rowN (P := Tryd.prog) 30 52 i0 _ Tryd.underlying30 hi0 hz0 .i64 .i64 n n (Nat.le_refl _) (by rw [hz2]; omega) (by omega) W
  rw [hz1] at hmk
  have hsz : ∀ W : World, (madeCells (Value.cells (.agg #[.string ByteArray.empty, .int .i64 0, .int .i64 0, .slice none 0 0])) (n * 4)).size = n * 4 := fun _ => size_madeCells _ _
  generalize hZ : madeCells (Value.cells (.agg #[.string ByteArray.empty, .int .i64 0, .int .i64 0, .slice none 0 0])) (n * 4) = Z at hmk hsz
  have hszZ := Lib.hid (hsz w)
  clear hZ hsz hi0 hz0 hz1 hz2
  unfold ToSSRow
  rw [← hn]
  have HN := Lib.hid hn
  clear hn
  go_enter Tryd.func21, Tryd.ntmps21
  go_wp2_with fail
  clear hmk
  have hown0 := own_made w w.heap.size 52 4 n Z (Nat.le_refl _) (by unfold maxLen; omega) hszZ.out
  have hb0 : Below w.heap.size w (w.alloc (.cells Z 52)) := by repeat' (first | with_reducible assumption | with_reducible exact Below.refl _ _ | (with_reducible refine Below.setCell ?_ ?_ _) | (with_reducible refine Below.alloc ?_ ?_ _) | (with_reducible refine Below.drew ?_) | (with_reducible refine below_dr ?_ _) | (with_reducible refine Below.trans ?_ (Below.mono (by with_reducible assumption) ?_)) | omega | (simp; done) | (simp; omega))
  have hz00 : w.heap.size < (w.alloc (.cells Z 52)).heap.size := by simp
  generalize w.alloc (.cells Z 52) = W0 at hown0 hb0 hz00 ⊢
  go_loopw [4] (fun i wr => ∃ (k : Nat) (xs : List Value), k ≤ n ∧ i = .int .i64 (k : Int) ∧ wr.ownsRow w.heap.size 52 4 (.slice (some ⟨w.heap.size, 0, none⟩) n n) n xs ∧ Fill RvSRow 4 wr (w.heap.size + 1) wr.heap.size l k xs ∧ Below w.heap.size w wr ∧ w.heap.size < wr.heap.size) (fun i _ => n - (intOf i).toNat)
  case atStart => exact ⟨0, _, Nat.zero_le _, rfl, hown0, Fill.zero, hb0, hz00⟩
  case round =>
    obtain ⟨k, xs, hk, rfl, hown, hfil, hbl, hzr⟩ := hrel
    have hxl : xs.length = n * 4 := hown.1
    have HX := Lib.hid hxl
    have HFIL := Lib.hid hfil
    clear hxl hfil
    by_cases hlt : k < n
    case pos =>
      obtain ⟨⟨x0, x1, x2, x3l⟩, ha⟩ : ∃ a, l[k]? = some a := ⟨l[k]'(by have := HN.out; omega), List.getElem?_eq_getElem (by have := HN.out; omega)⟩
      obtain ⟨g, o, row, rfl, hg, hR, hcc⟩ := (Row.carry (w' := wr) r hbl (Nat.le_refl _)).elem ha
      obtain ⟨x3A, x3c, rfl, hr_x3⟩ := hR
      have c0 : wr.cell? ⟨g, o + k * 4, none⟩ = some (.string x0) := hcc 0 _ rfl
      have c1 : wr.cell? ⟨g, o + k * 4 + 1, none⟩ = some (.int .i64 x1) := hcc 1 _ rfl
      have c2 : wr.cell? ⟨g, o + k * 4 + 2, none⟩ = some (.int .i64 x2) := hcc 2 _ rfl
      have c3 : wr.cell? ⟨g, o + k * 4 + 3, none⟩ = some (.slice x3A x3l.length x3c) := hcc 3 _ rfl
      clear hcc
      have HA := Lib.hid ha
      have hte := HTE.out k _ ha
      clear ha
      have hki : (k : Int) < (n : Int) := by omega
      go_wp2_with fail
      refine (xtoSRow_any x0 x1 x2 x3A x3c x3l _ hte ?_).mono ?_
      · exact Row.more hr_x3 (by omega)
      intro e wA hq
      obtain ⟨x3A', x3c', rfl, own_x3, hbA⟩ := hq
      have hownA := own_stays hown hbA
      have hzA := hbA.size
      obtain ⟨yo0, y0⟩ : ∃ v, wA.cell? ⟨w.heap.size, k * 4, none⟩ = some v := ⟨_, (hownA.cellAt (k * 4) (by have := HX.out; omega)).trans (List.getElem?_eq_getElem (by have := HX.out; omega))⟩
      have yf0 : wA.frozen? ⟨w.heap.size, k * 4, none⟩ = false := hownA.frozenAt (k * 4)
      obtain ⟨yo1, y1⟩ : ∃ v, wA.cell? ⟨w.heap.size, k * 4 + 1, none⟩ = some v := ⟨_, (hownA.cellAt (k * 4 + 1) (by have := HX.out; omega)).trans (List.getElem?_eq_getElem (by have := HX.out; omega))⟩
      have yf1 : wA.frozen? ⟨w.heap.size, k * 4 + 1, none⟩ = false := hownA.frozenAt (k * 4 + 1)
      obtain ⟨yo2, y2⟩ : ∃ v, wA.cell? ⟨w.heap.size, k * 4 + 2, none⟩ = some v := ⟨_, (hownA.cellAt (k * 4 + 2) (by have := HX.out; omega)).trans (List.getElem?_eq_getElem (by have := HX.out; omega))⟩
      have yf2 : wA.frozen? ⟨w.heap.size, k * 4 + 2, none⟩ = false := hownA.frozenAt (k * 4 + 2)
      obtain ⟨yo3, y3⟩ : ∃ v, wA.cell? ⟨w.heap.size, k * 4 + 3, none⟩ = some v := ⟨_, (hownA.cellAt (k * 4 + 3) (by have := HX.out; omega)).trans (List.getElem?_eq_getElem (by have := HX.out; omega))⟩
      have yf3 : wA.frozen? ⟨w.heap.size, k * 4 + 3, none⟩ = false := hownA.frozenAt (k * 4 + 3)
      clear hown
      go_wp2_with fail
      go_roundw
      case rel =>
        have hst0 := World.ownsRow.stored (hownA) (k * 4) (.string x0)
        have hst1 := World.ownsRow.stored (hst0.1) (k * 4 + 1) (.int .i64 x1)
        have hst2 := World.ownsRow.stored (hst1.1) (k * 4 + 2) (.int .i64 x2)
        have hst3 := World.ownsRow.stored (hst2.1) (k * 4 + 3) (.slice x3A' x3l.length x3c')
        have hstep : Fill RvSRow 4 ((((wA.setCell ⟨w.heap.size, k * 4, none⟩ (.string x0)).setCell ⟨w.heap.size, k * 4 + 1, none⟩ (.int .i64 x1)).setCell ⟨w.heap.size, k * 4 + 2, none⟩ (.int .i64 x2)).setCell ⟨w.heap.size, k * 4 + 3, none⟩ (.slice x3A' x3l.length x3c')) (w.heap.size + 1) ((((wA.setCell ⟨w.heap.size, k * 4, none⟩ (.string x0)).setCell ⟨w.heap.size, k * 4 + 1, none⟩ (.int .i64 x1)).setCell ⟨w.heap.size, k * 4 + 2, none⟩ (.int .i64 x2)).setCell ⟨w.heap.size, k * 4 + 3, none⟩ (.slice x3A' x3l.length x3c')).heap.size l (k + 1) (setRun xs (k * 4) [.string x0, .int .i64 x1, .int .i64 x2, .slice x3A' x3l.length x3c']) := HFIL.out.step (fun p h1 h2 => by rw [World.cell?_setCell_other _ _ _ _ (fun e => by subst e; simp only at h1; omega), World.cell?_setCell_other _ _ _ _ (fun e => by subst e; simp only at h1; omega), World.cell?_setCell_other _ _ _ _ (fun e => by subst e; simp only at h1; omega), World.cell?_setCell_other _ _ _ _ (fun e => by subst e; simp only at h1; omega)]; exact hbA.cell h2) (by simp only [World.size_setCell]; omega) HA.out (fun w2 ha2 => ⟨_, _, rfl, (own_x3 w2 (fun p h1 h2 => (ha2 p (by omega) (by simp only [World.size_setCell]; omega)).trans (by rw [World.cell?_setCell_other _ _ _ _ (fun e => by subst e; simp only at h1; omega), World.cell?_setCell_other _ _ _ _ (fun e => by subst e; simp only at h1; omega), World.cell?_setCell_other _ _ _ _ (fun e => by subst e; simp only at h1; omega), World.cell?_setCell_other _ _ _ _ (fun e => by subst e; simp only at h1; omega)]))).more (by simp only [World.size_setCell]; omega)⟩) (by have := HX.out; omega) rfl
        exact ⟨k + 1, _, by omega, by go_num, hst3.1, hstep, by repeat' (first | with_reducible assumption | with_reducible exact Below.refl _ _ | (with_reducible refine Below.setCell ?_ ?_ _) | (with_reducible refine Below.alloc ?_ ?_ _) | (with_reducible refine Below.drew ?_) | (with_reducible refine below_dr ?_ _) | (with_reducible refine Below.trans ?_ (Below.mono (by with_reducible assumption) ?_)) | omega | (simp; done) | (simp; omega)), by (simp only [World.size_setCell]; omega)⟩
      case measure => simp [intOf]; omega
    case neg =>
      obtain rfl : k = n := by omega
      go_wp2_with fail
      go_ret
      exact ⟨_, _, rfl, HFIL.out.done hown HN.out hzr, hbl⟩
def ToSystem (x0l : List DSRow) (w : World) (e : Ending) (w' : World) : Prop := ∃ (x0A' : Option Addr) (x0c' : Nat), e = .returned (.agg #[.slice x0A' x0l.length x0c']) ∧ RowIn RvSRow 4 w' w.heap.size w'.heap.size x0A' x0l ∧ Below w.heap.size w w'
set_option maxHeartbeats 3200000 in
theorem xtoSystem_any (x0A : Option Addr) (x0c : Nat) (x0l : List DSRow) (w : World) (ht : totSystem x0l ≤ 1048576) (r_x0 : Row RvSRow 4 w w.heap.size x0A x0l) :
    Calls Tryd.prog 9 #[.agg #[.slice x0A x0l.length x0c]] w (ToSystem x0l w) := by
  unfold ToSystem
  replace ht : totRow totSRow x0l ≤ 1048576 := ht
  go_enter Tryd.func9, Tryd.ntmps9
  go_wp2_with fail
  refine (xtoSRowS_any x0l x0A x0c _ (by omega) ?_).mono ?_
  · exact (Row.carry (w' := _) r_x0 (by repeat' (first | with_reducible assumption | with_reducible exact Below.refl _ _ | (with_reducible refine Below.setCell ?_ ?_ _) | (with_reducible refine Below.alloc ?_ ?_ _) | (with_reducible refine Below.drew ?_) | (with_reducible refine below_dr ?_ _) | (with_reducible refine Below.trans ?_ (Below.mono (by with_reducible assumption) ?_)) | omega | (simp; done) | (simp; omega))) (Nat.le_refl _)).more (by (try simp only [World.size_setCell]); (try simp only [World.size_drew]); (try simp only [World.size_alloc]); omega)
  intro e wZ0 hq
  obtain ⟨x0A', x0c', rfl, own_x0, hbwZ0⟩ := hq
  replace own_x0 := own_x0.down (lo' := w.heap.size + 1 + 1 + 1) (by (try simp only [World.size_setCell]); (try simp only [World.size_alloc]); omega)
  obtain ⟨hcwZ0, hfwZ0⟩ := bcell hbwZ0
  have hzwZ0 := hbwZ0.size
  (try simp only [World.size_setCell] at hcwZ0 hfwZ0 hzwZ0)
  (try simp only [World.size_drew] at hcwZ0 hfwZ0 hzwZ0)
  (try simp only [World.size_alloc] at hcwZ0 hfwZ0 hzwZ0)
  have qwZ00 : w.heap.size < wZ0.heap.size := by omega
  have qwZ01 : w.heap.size + 1 < wZ0.heap.size := by omega
  have qwZ02 : w.heap.size + 1 + 1 < wZ0.heap.size := by omega
  go_wp2_with fail
  refine bodyPost_ret (v := .agg #[.slice x0A' x0l.length x0c']) (by simp [results, Tryd.results9, go_sem, *]) rfl ⟨_, _, rfl, ?_, ?_⟩
  · refine RowIn.wide (B := wZ0.heap.size) ?_ (by (try simp only [World.size_setCell]); (try simp only [World.size_drew]); (try simp only [World.size_alloc]); omega)
    refine RowIn.down (lo := w.heap.size + 1 + 1 + 1) ?_ (by omega)
    repeat (first | with_reducible exact own_x0 | (with_reducible refine RowIn.far ?_ (by simp only; omega) _) | (with_reducible refine RowIn.drew ?_) | (with_reducible refine RowIn.stays ?_ (by with_reducible assumption) (by (try simp only [World.size_setCell]); (try simp only [World.size_drew]); (try simp only [World.size_alloc]); omega)))
  · repeat' (first | with_reducible assumption | with_reducible exact Below.refl _ _ | (with_reducible refine Below.setCell ?_ ?_ _) | (with_reducible refine Below.alloc ?_ ?_ _) | (with_reducible refine Below.drew ?_) | (with_reducible refine below_dr ?_ _) | (with_reducible refine Below.trans ?_ (Below.mono (by with_reducible assumption) ?_)) | omega | (simp; done) | (simp; omega))
end Go.Proofs.YtonoldjhfhngfaaDoor
