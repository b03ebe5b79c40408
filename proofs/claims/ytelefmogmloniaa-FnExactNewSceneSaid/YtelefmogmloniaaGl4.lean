/- Walks: they are copied. -/
import Derived.Test.YtelefmogmloniaaGl3
import Derived.Laws.MakeOwn
import Derived.Laws.OwnMore
namespace Go.Proofs.Ytelefmogmloniaa
open Go.RowKit
set_option linter.unusedVariables false
theorem run_make_rowN {P : Program} (t e : TypeId) (i : TypeInfo) (z : Value) (ht : P.underlying t = some (.slice e)) (hi : P.info? e = some i) (hz : i.zero = some z)
    (kl kc : IntKind) (n c : Nat) (hnc : n ≤ c) (hbytes : i.bytes * c ≤ 281474976710656) (h63 : c ≤ 9223372036854775807) (w : World) :
    (Instr.makeSlice t (.int kl (n : Int)) (.int kc (c : Int))).run P w = .ok (.slice (some ⟨w.heap.size, 0, none⟩) n c) (w.alloc (.cells (madeCells z.cells (c * i.size)) e)) := by
  have hb : (i.bytes : Int) * (c : Int) ≤ 281474976710656 := by
    have h : ((i.bytes * c : Nat) : Int) ≤ 281474976710656 := by omega
    rwa [Int.natCast_mul] at h
  have hr := run_make (P := P) w t e i z ht hi hz kl kc n c (by omega) (by omega) hb (by omega)
  simp only [Int.toNat_natCast] at hr
  exact hr
theorem own_made (w : World) (base : Nat) (e : TypeId) (s n : Nat) (cs : Array Value) (hb : base ≤ w.heap.size) (hn : n ≤ maxLen) (hc : cs.size = n * s) :
    (w.alloc (.cells cs e)).ownsRow base e s (.slice (some ⟨w.heap.size, 0, none⟩) n n) n cs.toList :=
  ⟨by rw [Array.length_toList]; exact hc, .inr ⟨w.heap.size, n, cs, rfl, hb, heap_alloc_new w _, Nat.le_refl _, hn, hc, by rw [List.take_of_length_le (by rw [Array.length_toList]; omega)]⟩⟩
theorem own_stays {W W' : World} {B e size n : Nat} {v : Value} {xs : List Value} (h : W.ownsRow B e size v n xs) (hb : Below W.heap.size W W') : W'.ownsRow B e size v n xs :=
  h.kept (row := none) ⟨hb.os, hb.tape, hb.output, hb.size, fun k hk _ => hb.block k hk⟩ (Classical.em _)
theorem own_drewN {W : World} {B e size n : Nat} {v : Value} {xs : List Value} (h : W.ownsRow B e size v n xs) (k : Nat) : (W.drewN k).ownsRow B e size v n xs := h
theorem own_drew {W : World} {B e size n : Nat} {v : Value} {xs : List Value} (h : W.ownsRow B e size v n xs) : W.drew.ownsRow B e size v n xs := h
theorem own_base {w : World} {base base' e s n : Nat} {v : Value} {xs : List Value} (h : w.ownsRow base' e s v n xs) (hb : base ≤ base') : w.ownsRow base e s v n xs := by
  obtain ⟨hl, h⟩ := h
  refine ⟨hl, ?_⟩
  rcases h with h | ⟨g, cap, cur, hv, hg, r⟩
  · exact .inl h
  · exact .inr ⟨g, cap, cur, hv, Nat.le_trans hb hg, r⟩
/-- A store below what is owned. -/
theorem own_far {w : World} {base b2 e s n : Nat} {v : Value} {xs : List Value} (h : w.ownsRow b2 e s v n xs) {p : Addr} (hp : p.block < b2) (hb : base ≤ b2) (u : Value) : (w.setCell p u).ownsRow base e s v n xs := by
  obtain ⟨hl, h⟩ := h
  refine ⟨hl, ?_⟩
  rcases h with h | ⟨g, cap, cur, hv, hg, hh, r⟩
  · exact .inl h
  · exact .inr ⟨g, cap, cur, hv, Nat.le_trans hb hg, (Below.heap_setCell w p u g (by omega)).trans hh, r⟩
theorem grownBy_of_below {w w' : World} (h : Below w.heap.size w w') (row : Option Nat) : w.grownBy w' row := ⟨h.os, h.tape, h.output, h.size, fun k hk _ => h.block k hk⟩
theorem grownBy_trans {w w1 w2 : World} {row : Option Nat} (h : w.grownBy w1 row) (k : w1.grownBy w2 row) : w.grownBy w2 row :=
  ⟨k.os.trans h.os, k.tape.trans h.tape, k.output.trans h.output, Nat.le_trans h.size k.size, fun i hi hr => (k.block i (Nat.lt_of_lt_of_le hi h.size) hr).trans (h.block i hi hr)⟩
def ToPt (x0 : Int) (x1 : Int) (w : World) (e : Ending) (w' : World) : Prop := e = .returned (.agg #[.int .i64 x0, .int .i64 x1]) ∧ Below w.heap.size w w'
set_option maxHeartbeats 3200000 in
theorem xtoPt_any (x0 : Int) (x1 : Int) (w : World) (ht : totPt (x0, x1) ≤ 1048576)  :
    Calls Try.prog 168 #[.agg #[.int .i64 x0, .int .i64 x1]] w (ToPt x0 x1 w) := by
  unfold ToPt
  go_enter Try.func168, Try.ntmps168
  go_wp2_with fail
  refine bodyPost_ret (v := .agg #[.int .i64 x0, .int .i64 x1]) (by simp [results, Try.results168, go_sem, *]) rfl ⟨rfl, ?_⟩
  · repeat' (first | with_reducible assumption | with_reducible exact Below.refl _ _ | (with_reducible refine Below.setCell ?_ ?_ _) | (with_reducible refine Below.alloc ?_ ?_ _) | (with_reducible refine Below.drew ?_) | (with_reducible refine below_dr ?_ _) | (with_reducible refine Below.trans ?_ (Below.mono (by with_reducible assumption) ?_)) | omega | (simp; done) | (simp; omega))
def ToKnot (x0 : Int) (x1 : Int) (x2 : Bool) (w : World) (e : Ending) (w' : World) : Prop := e = .returned (.agg #[.int .i64 x0, .int .i64 x1, .bool x2]) ∧ Below w.heap.size w w'
set_option maxHeartbeats 3200000 in
theorem xtoKnot_any (x0 : Int) (x1 : Int) (x2 : Bool) (w : World) (ht : totKnot (x0, x1, x2) ≤ 1048576)  :
    Calls Try.prog 187 #[.agg #[.int .i64 x0, .int .i64 x1, .bool x2]] w (ToKnot x0 x1 x2 w) := by
  unfold ToKnot
  go_enter Try.func187, Try.ntmps187
  go_wp2_with fail
  refine (xtoPt_any x0 x1 _ (show totPt (x0, x1) ≤ 1048576 from by first | exact Nat.zero_le _ | (simp only [totPt]; omega)) ).mono ?_
  intro e wZ0 hq
  obtain ⟨rfl, hbwZ0⟩ := hq
  obtain ⟨hcwZ0, hfwZ0⟩ := bcell hbwZ0
  have hzwZ0 := hbwZ0.size
  (try simp only [World.size_setCell] at hcwZ0 hfwZ0 hzwZ0)
  (try simp only [World.size_drew] at hcwZ0 hfwZ0 hzwZ0)
  (try simp only [World.size_alloc] at hcwZ0 hfwZ0 hzwZ0)
  have qwZ00 : w.heap.size < wZ0.heap.size := by omega
  have qwZ01 : w.heap.size + 1 < wZ0.heap.size := by omega
  have qwZ02 : w.heap.size + 1 + 1 < wZ0.heap.size := by omega
  go_wp2_with fail
  refine bodyPost_ret (v := .agg #[.int .i64 x0, .int .i64 x1, .bool x2]) (by simp [results, Try.results187, go_sem, *]) rfl ⟨rfl, ?_⟩
  · repeat' (first | with_reducible assumption | with_reducible exact Below.refl _ _ | (with_reducible refine Below.setCell ?_ ?_ _) | (with_reducible refine Below.alloc ?_ ?_ _) | (with_reducible refine Below.drew ?_) | (with_reducible refine below_dr ?_ _) | (with_reducible refine Below.trans ?_ (Below.mono (by with_reducible assumption) ?_)) | omega | (simp; done) | (simp; omega))
theorem hinfoKnot : (Try.prog.info? 197).map (fun i => (i.zero, i.size, i.bytes)) = some (some (.agg #[.int .i64 0, .int .i64 0, .bool false]), 3, 24) := by kernel_rfl
def ToSKnot (l : List DKnot) (w : World) (e : Ending) (w' : World) : Prop := ∃ (A' : Option Addr) (c' : Nat), e = .returned (.slice A' l.length c') ∧ RowIn RvKnot 3 w' w.heap.size w'.heap.size A' l ∧ Below w.heap.size w w'
set_option maxHeartbeats 3200000 in
theorem xtoKnotS_any (l : List DKnot) (A : Option Addr) (c : Nat) (w : World) (ht : totRow totKnot l ≤ 1048576) (r : Row RvKnot 3 w w.heap.size A l) :
    Calls Try.prog 183 #[.slice A l.length c] w (ToSKnot l w) := by
  obtain ⟨i0, hi0, hz0, hz1, hz2⟩ := info_parts hinfoKnot
  have HTE := Lib.hid (fun (k : Nat) (d : DKnot) (h : l[k]? = some d) => Nat.le_trans (totRow_at (f := totKnot) h) ht)
  have hl : l.length ≤ 1048576 := Nat.le_trans (totRow_len totKnot l) ht
  clear ht
  obtain ⟨n, hn⟩ : ∃ n, n = l.length := ⟨_, rfl⟩
  rw [← hn] at hl
  have hmk := fun W => run_make_rowN (P := Try.prog) 155 197 i0 _ Try.underlying155 hi0 hz0 .i64 .i64 n n (Nat.le_refl _) (by rw [hz2]; omega) (by omega) W
  rw [hz1] at hmk
  have hsz : ∀ W : World, (madeCells (Value.cells (.agg #[.int .i64 0, .int .i64 0, .bool false])) (n * 3)).size = n * 3 := fun _ => size_madeCells _ _
  generalize hZ : madeCells (Value.cells (.agg #[.int .i64 0, .int .i64 0, .bool false])) (n * 3) = Z at hmk hsz
  have hszZ := Lib.hid (hsz w)
  clear hZ hsz hi0 hz0 hz1 hz2
  unfold ToSKnot
  rw [← hn]
  have HN := Lib.hid hn
  clear hn
  go_enter Try.func183, Try.ntmps183
  go_wp2_with fail
  clear hmk
  have hown0 := own_made w w.heap.size 197 3 n Z (Nat.le_refl _) (by unfold maxLen; omega) hszZ.out
  have hb0 : Below w.heap.size w (w.alloc (.cells Z 197)) := by repeat' (first | with_reducible assumption | with_reducible exact Below.refl _ _ | (with_reducible refine Below.setCell ?_ ?_ _) | (with_reducible refine Below.alloc ?_ ?_ _) | (with_reducible refine Below.drew ?_) | (with_reducible refine below_dr ?_ _) | (with_reducible refine Below.trans ?_ (Below.mono (by with_reducible assumption) ?_)) | omega | (simp; done) | (simp; omega))
  have hz00 : w.heap.size < (w.alloc (.cells Z 197)).heap.size := by simp
  generalize w.alloc (.cells Z 197) = W0 at hown0 hb0 hz00 ⊢
  go_loopw [4] (fun i wr => ∃ (k : Nat) (xs : List Value), k ≤ n ∧ i = .int .i64 (k : Int) ∧ wr.ownsRow w.heap.size 197 3 (.slice (some ⟨w.heap.size, 0, none⟩) n n) n xs ∧ Fill RvKnot 3 wr (w.heap.size + 1) wr.heap.size l k xs ∧ Below w.heap.size w wr ∧ w.heap.size < wr.heap.size) (fun i _ => n - (intOf i).toNat)
  case atStart => exact ⟨0, _, Nat.zero_le _, rfl, hown0, Fill.zero, hb0, hz00⟩
  case round =>
    obtain ⟨k, xs, hk, rfl, hown, hfil, hbl, hzr⟩ := hrel
    have hxl : xs.length = n * 3 := hown.1
    have HX := Lib.hid hxl
    have HFIL := Lib.hid hfil
    clear hxl hfil
    by_cases hlt : k < n
    case pos =>
      obtain ⟨⟨x0, x1, x2⟩, ha⟩ : ∃ a, l[k]? = some a := ⟨l[k]'(by have := HN.out; omega), List.getElem?_eq_getElem (by have := HN.out; omega)⟩
      obtain ⟨g, o, row, rfl, hg, hR, hcc⟩ := (Row.carry (w' := wr) r hbl (Nat.le_refl _)).elem ha
      obtain rfl := hR
      have c0 : wr.cell? ⟨g, o + k * 3, none⟩ = some (.int .i64 x0) := hcc 0 _ rfl
      have c1 : wr.cell? ⟨g, o + k * 3 + 1, none⟩ = some (.int .i64 x1) := hcc 1 _ rfl
      have c2 : wr.cell? ⟨g, o + k * 3 + 2, none⟩ = some (.bool x2) := hcc 2 _ rfl
      clear hcc
      have HA := Lib.hid ha
      have hte := HTE.out k _ ha
      clear ha
      have hki : (k : Int) < (n : Int) := by omega
      go_wp2_with fail
      refine (xtoKnot_any x0 x1 x2 _ hte ).mono ?_
      intro e wA hq
      obtain ⟨rfl, hbA⟩ := hq
      have hownA := own_stays hown hbA
      have hzA := hbA.size
      obtain ⟨yo0, y0⟩ : ∃ v, wA.cell? ⟨w.heap.size, k * 3, none⟩ = some v := ⟨_, (hownA.cellAt (k * 3) (by have := HX.out; omega)).trans (List.getElem?_eq_getElem (by have := HX.out; omega))⟩
      have yf0 : wA.frozen? ⟨w.heap.size, k * 3, none⟩ = false := hownA.frozenAt (k * 3)
      obtain ⟨yo1, y1⟩ : ∃ v, wA.cell? ⟨w.heap.size, k * 3 + 1, none⟩ = some v := ⟨_, (hownA.cellAt (k * 3 + 1) (by have := HX.out; omega)).trans (List.getElem?_eq_getElem (by have := HX.out; omega))⟩
      have yf1 : wA.frozen? ⟨w.heap.size, k * 3 + 1, none⟩ = false := hownA.frozenAt (k * 3 + 1)
      obtain ⟨yo2, y2⟩ : ∃ v, wA.cell? ⟨w.heap.size, k * 3 + 2, none⟩ = some v := ⟨_, (hownA.cellAt (k * 3 + 2) (by have := HX.out; omega)).trans (List.getElem?_eq_getElem (by have := HX.out; omega))⟩
      have yf2 : wA.frozen? ⟨w.heap.size, k * 3 + 2, none⟩ = false := hownA.frozenAt (k * 3 + 2)
      clear hown
      go_wp2_with fail
      go_roundw
      case rel =>
        have hst0 := World.ownsRow.stored (hownA) (k * 3) (.int .i64 x0)
        have hst1 := World.ownsRow.stored (hst0.1) (k * 3 + 1) (.int .i64 x1)
        have hst2 := World.ownsRow.stored (hst1.1) (k * 3 + 2) (.bool x2)
        have hstep : Fill RvKnot 3 (((wA.setCell ⟨w.heap.size, k * 3, none⟩ (.int .i64 x0)).setCell ⟨w.heap.size, k * 3 + 1, none⟩ (.int .i64 x1)).setCell ⟨w.heap.size, k * 3 + 2, none⟩ (.bool x2)) (w.heap.size + 1) (((wA.setCell ⟨w.heap.size, k * 3, none⟩ (.int .i64 x0)).setCell ⟨w.heap.size, k * 3 + 1, none⟩ (.int .i64 x1)).setCell ⟨w.heap.size, k * 3 + 2, none⟩ (.bool x2)).heap.size l (k + 1) (setRun xs (k * 3) [.int .i64 x0, .int .i64 x1, .bool x2]) := HFIL.out.step (fun p h1 h2 => by rw [World.cell?_setCell_other _ _ _ _ (fun e => by subst e; simp only at h1; omega), World.cell?_setCell_other _ _ _ _ (fun e => by subst e; simp only at h1; omega), World.cell?_setCell_other _ _ _ _ (fun e => by subst e; simp only at h1; omega)]; exact hbA.cell h2) (by simp only [World.size_setCell]; omega) HA.out (fun _ _ => rfl) (by have := HX.out; omega) rfl
        exact ⟨k + 1, _, by omega, by go_num, hst2.1, hstep, by repeat' (first | with_reducible assumption | with_reducible exact Below.refl _ _ | (with_reducible refine Below.setCell ?_ ?_ _) | (with_reducible refine Below.alloc ?_ ?_ _) | (with_reducible refine Below.drew ?_) | (with_reducible refine below_dr ?_ _) | (with_reducible refine Below.trans ?_ (Below.mono (by with_reducible assumption) ?_)) | omega | (simp; done) | (simp; omega)), by (simp only [World.size_setCell]; omega)⟩
      case measure => simp [intOf]; omega
    case neg =>
      obtain rfl : k = n := by omega
      go_wp2_with fail
      go_ret
      exact ⟨_, _, rfl, HFIL.out.done hown HN.out hzr, hbl⟩
def ToLoop (x0l : List DKnot) (w : World) (e : Ending) (w' : World) : Prop := ∃ (x0A' : Option Addr) (x0c' : Nat), e = .returned (.agg #[.slice x0A' x0l.length x0c']) ∧ RowIn RvKnot 3 w' w.heap.size w'.heap.size x0A' x0l ∧ Below w.heap.size w w'
set_option maxHeartbeats 3200000 in
theorem xtoLoop_any (x0A : Option Addr) (x0c : Nat) (x0l : List DKnot) (w : World) (ht : totLoop x0l ≤ 1048576) (r_x0 : Row RvKnot 3 w w.heap.size x0A x0l) :
    Calls Try.prog 167 #[.agg #[.slice x0A x0l.length x0c]] w (ToLoop x0l w) := by
  unfold ToLoop
  replace ht : totRow totKnot x0l ≤ 1048576 := ht
  go_enter Try.func167, Try.ntmps167
  go_wp2_with fail
  refine (xtoKnotS_any x0l x0A x0c _ (by omega) ?_).mono ?_
  · exact (Row.carry (w' := _) r_x0 (by repeat' (first | with_reducible assumption | with_reducible exact Below.refl _ _ | (with_reducible refine Below.setCell ?_ ?_ _) | (with_reducible refine Below.alloc ?_ ?_ _) | (with_reducible refine Below.drew ?_) | (with_reducible refine below_dr ?_ _) | (with_reducible refine Below.trans ?_ (Below.mono (by with_reducible assumption) ?_)) | omega | (simp; done) | (simp; omega))) (Nat.le_refl _)).more (by (try simp only [World.size_setCell]); (try simp only [World.size_drew]); (try simp only [World.size_alloc]); omega)
  intro e wZ0 hq
  obtain ⟨x0A', x0c', rfl, own_x0, hbwZ0⟩ := hq
  replace own_x0 := own_x0.down (lo' := w.heap.size + 1 + 1 + 1) (by (try simp only [World.size_setCell]); (try simp only [World.size_alloc]); omega)
  obtain ⟨hcwZ0, hfwZ0⟩ := bcell hbwZ0
  have hzwZ0 := hbwZ0.size
  (try simp only [World.size_setCell] at hcwZ0 hfwZ0 hzwZ0)
  (try simp only [World.size_drew] at hcwZ0 hfwZ0 hzwZ0)
  (try simp only [World.size_alloc] at hcwZ0 hfwZ0 hzwZ0)
  have qwZ00 : w.heap.size < wZ0.heap.size := by omega
  have qwZ01 : w.heap.size + 1 < wZ0.heap.size := by omega
  have qwZ02 : w.heap.size + 1 + 1 < wZ0.heap.size := by omega
  go_wp2_with fail
  refine bodyPost_ret (v := .agg #[.slice x0A' x0l.length x0c']) (by simp [results, Try.results167, go_sem, *]) rfl ⟨_, _, rfl, ?_, ?_⟩
  · refine RowIn.wide (B := wZ0.heap.size) ?_ (by (try simp only [World.size_setCell]); (try simp only [World.size_drew]); (try simp only [World.size_alloc]); omega)
    refine RowIn.down (lo := w.heap.size + 1 + 1 + 1) ?_ (by omega)
    repeat (first | with_reducible exact own_x0 | (with_reducible refine RowIn.far ?_ (by simp only; omega) _) | (with_reducible refine RowIn.drew ?_) | (with_reducible refine RowIn.stays ?_ (by with_reducible assumption) (by (try simp only [World.size_setCell]); (try simp only [World.size_drew]); (try simp only [World.size_alloc]); omega)))
  · repeat' (first | with_reducible assumption | with_reducible exact Below.refl _ _ | (with_reducible refine Below.setCell ?_ ?_ _) | (with_reducible refine Below.alloc ?_ ?_ _) | (with_reducible refine Below.drew ?_) | (with_reducible refine below_dr ?_ _) | (with_reducible refine Below.trans ?_ (Below.mono (by with_reducible assumption) ?_)) | omega | (simp; done) | (simp; omega))
theorem hinfoLoop : (Try.prog.info? 157).map (fun i => (i.zero, i.size, i.bytes)) = some (some (.agg #[.slice none 0 0]), 1, 24) := by kernel_rfl
def ToSLoop (l : List DLoop) (w : World) (e : Ending) (w' : World) : Prop := ∃ (A' : Option Addr) (c' : Nat), e = .returned (.slice A' l.length c') ∧ RowIn RvLoop 1 w' w.heap.size w'.heap.size A' l ∧ Below w.heap.size w w'
set_option maxHeartbeats 3200000 in
theorem xtoLoopS_any (l : List DLoop) (A : Option Addr) (c : Nat) (w : World) (ht : totRow totLoop l ≤ 1048576) (r : Row RvLoop 1 w w.heap.size A l) :
    Calls Try.prog 117 #[.slice A l.length c] w (ToSLoop l w) := by
  obtain ⟨i0, hi0, hz0, hz1, hz2⟩ := info_parts hinfoLoop
  have HTE := Lib.hid (fun (k : Nat) (d : DLoop) (h : l[k]? = some d) => Nat.le_trans (totRow_at (f := totLoop) h) ht)
  have hl : l.length ≤ 1048576 := Nat.le_trans (totRow_len totLoop l) ht
  clear ht
  obtain ⟨n, hn⟩ : ∃ n, n = l.length := ⟨_, rfl⟩
  rw [← hn] at hl
  have hmk := fun W => run_make_rowN (P := Try.prog) 31 157 i0 _ Try.underlying31 hi0 hz0 .i64 .i64 n n (Nat.le_refl _) (by rw [hz2]; omega) (by omega) W
  rw [hz1] at hmk
  have hsz : ∀ W : World, (madeCells (Value.cells (.agg #[.slice none 0 0])) (n * 1)).size = n * 1 := fun _ => size_madeCells _ _
  generalize hZ : madeCells (Value.cells (.agg #[.slice none 0 0])) (n * 1) = Z at hmk hsz
  have hszZ := Lib.hid (hsz w)
  clear hZ hsz hi0 hz0 hz1 hz2
  unfold ToSLoop
  rw [← hn]
  have HN := Lib.hid hn
  clear hn
  go_enter Try.func117, Try.ntmps117
  go_wp2_with fail
  clear hmk
  have hown0 := own_made w w.heap.size 157 1 n Z (Nat.le_refl _) (by unfold maxLen; omega) hszZ.out
  have hb0 : Below w.heap.size w (w.alloc (.cells Z 157)) := by repeat' (first | with_reducible assumption | with_reducible exact Below.refl _ _ | (with_reducible refine Below.setCell ?_ ?_ _) | (with_reducible refine Below.alloc ?_ ?_ _) | (with_reducible refine Below.drew ?_) | (with_reducible refine below_dr ?_ _) | (with_reducible refine Below.trans ?_ (Below.mono (by with_reducible assumption) ?_)) | omega | (simp; done) | (simp; omega))
  have hz00 : w.heap.size < (w.alloc (.cells Z 157)).heap.size := by simp
  generalize w.alloc (.cells Z 157) = W0 at hown0 hb0 hz00 ⊢
  go_loopw [4] (fun i wr => ∃ (k : Nat) (xs : List Value), k ≤ n ∧ i = .int .i64 (k : Int) ∧ wr.ownsRow w.heap.size 157 1 (.slice (some ⟨w.heap.size, 0, none⟩) n n) n xs ∧ Fill RvLoop 1 wr (w.heap.size + 1) wr.heap.size l k xs ∧ Below w.heap.size w wr ∧ w.heap.size < wr.heap.size) (fun i _ => n - (intOf i).toNat)
  case atStart => exact ⟨0, _, Nat.zero_le _, rfl, hown0, Fill.zero, hb0, hz00⟩
  case round =>
    obtain ⟨k, xs, hk, rfl, hown, hfil, hbl, hzr⟩ := hrel
    have hxl : xs.length = n * 1 := hown.1
    have HX := Lib.hid hxl
    have HFIL := Lib.hid hfil
    clear hxl hfil
    by_cases hlt : k < n
    case pos =>
      obtain ⟨x0l, ha⟩ : ∃ a, l[k]? = some a := ⟨l[k]'(by have := HN.out; omega), List.getElem?_eq_getElem (by have := HN.out; omega)⟩
      obtain ⟨g, o, row, rfl, hg, hR, hcc⟩ := (Row.carry (w' := wr) r hbl (Nat.le_refl _)).elem ha
      obtain ⟨x0A, x0c, rfl, hr_x0⟩ := hR
      have c0 : wr.cell? ⟨g, o + k, none⟩ = some (.slice x0A x0l.length x0c) := by have h := hcc 0 _ rfl; rw [Nat.mul_one] at h; exact h
      clear hcc
      have HA := Lib.hid ha
      have hte := HTE.out k _ ha
      clear ha
      have hki : (k : Int) < (n : Int) := by omega
      go_wp2_with fail
      refine (xtoLoop_any x0A x0c x0l _ hte ?_).mono ?_
      · exact Row.more hr_x0 (by omega)
      intro e wA hq
      obtain ⟨x0A', x0c', rfl, own_x0, hbA⟩ := hq
      have hownA := own_stays hown hbA
      have hzA := hbA.size
      obtain ⟨yo0, y0⟩ : ∃ v, wA.cell? ⟨w.heap.size, k, none⟩ = some v := ⟨_, (hownA.cellAt (k) (by have := HX.out; omega)).trans (List.getElem?_eq_getElem (by have := HX.out; omega))⟩
      have yf0 : wA.frozen? ⟨w.heap.size, k, none⟩ = false := hownA.frozenAt (k)
      clear hown
      go_wp2_with fail
      go_roundw
      case rel =>
        have hst0 := World.ownsRow.stored (hownA) (k) (.slice x0A' x0l.length x0c')
        have hstep : Fill RvLoop 1 (wA.setCell ⟨w.heap.size, k, none⟩ (.slice x0A' x0l.length x0c')) (w.heap.size + 1) (wA.setCell ⟨w.heap.size, k, none⟩ (.slice x0A' x0l.length x0c')).heap.size l (k + 1) (setRun xs (k * 1) [.slice x0A' x0l.length x0c']) := HFIL.out.step (fun p h1 h2 => by rw [World.cell?_setCell_other _ _ _ _ (fun e => by subst e; simp only at h1; omega)]; exact hbA.cell h2) (by simp only [World.size_setCell]; omega) HA.out (fun w2 ha2 => ⟨_, _, rfl, (own_x0 w2 (fun p h1 h2 => (ha2 p (by omega) (by simp only [World.size_setCell]; omega)).trans (by rw [World.cell?_setCell_other _ _ _ _ (fun e => by subst e; simp only at h1; omega)]))).more (by simp only [World.size_setCell]; omega)⟩) (by have := HX.out; omega) rfl
        rw [Nat.mul_one] at hstep
        exact ⟨k + 1, _, by omega, by go_num, hst0.1, hstep, by repeat' (first | with_reducible assumption | with_reducible exact Below.refl _ _ | (with_reducible refine Below.setCell ?_ ?_ _) | (with_reducible refine Below.alloc ?_ ?_ _) | (with_reducible refine Below.drew ?_) | (with_reducible refine below_dr ?_ _) | (with_reducible refine Below.trans ?_ (Below.mono (by with_reducible assumption) ?_)) | omega | (simp; done) | (simp; omega)), by (simp only [World.size_setCell]; omega)⟩
      case measure => simp [intOf]; omega
    case neg =>
      obtain rfl : k = n := by omega
      go_wp2_with fail
      go_ret
      exact ⟨_, _, rfl, HFIL.out.done hown HN.out hzr, hbl⟩
def ToOutline (x0l : List DLoop) (w : World) (e : Ending) (w' : World) : Prop := ∃ (x0A' : Option Addr) (x0c' : Nat), e = .returned (.agg #[.slice x0A' x0l.length x0c']) ∧ RowIn RvLoop 1 w' w.heap.size w'.heap.size x0A' x0l ∧ Below w.heap.size w w'
set_option maxHeartbeats 3200000 in
theorem xtoOutline_any (x0A : Option Addr) (x0c : Nat) (x0l : List DLoop) (w : World) (ht : totOutline x0l ≤ 1048576) (r_x0 : Row RvLoop 1 w w.heap.size x0A x0l) :
    Calls Try.prog 50 #[.agg #[.slice x0A x0l.length x0c]] w (ToOutline x0l w) := by
  unfold ToOutline
  replace ht : totRow totLoop x0l ≤ 1048576 := ht
  go_enter Try.func50, Try.ntmps50
  go_wp2_with fail
  refine (xtoLoopS_any x0l x0A x0c _ (by omega) ?_).mono ?_
  · exact (Row.carry (w' := _) r_x0 (by repeat' (first | with_reducible assumption | with_reducible exact Below.refl _ _ | (with_reducible refine Below.setCell ?_ ?_ _) | (with_reducible refine Below.alloc ?_ ?_ _) | (with_reducible refine Below.drew ?_) | (with_reducible refine below_dr ?_ _) | (with_reducible refine Below.trans ?_ (Below.mono (by with_reducible assumption) ?_)) | omega | (simp; done) | (simp; omega))) (Nat.le_refl _)).more (by (try simp only [World.size_setCell]); (try simp only [World.size_drew]); (try simp only [World.size_alloc]); omega)
  intro e wZ0 hq
  obtain ⟨x0A', x0c', rfl, own_x0, hbwZ0⟩ := hq
  replace own_x0 := own_x0.down (lo' := w.heap.size + 1 + 1 + 1) (by (try simp only [World.size_setCell]); (try simp only [World.size_alloc]); omega)
  obtain ⟨hcwZ0, hfwZ0⟩ := bcell hbwZ0
  have hzwZ0 := hbwZ0.size
  (try simp only [World.size_setCell] at hcwZ0 hfwZ0 hzwZ0)
  (try simp only [World.size_drew] at hcwZ0 hfwZ0 hzwZ0)
  (try simp only [World.size_alloc] at hcwZ0 hfwZ0 hzwZ0)
  have qwZ00 : w.heap.size < wZ0.heap.size := by omega
  have qwZ01 : w.heap.size + 1 < wZ0.heap.size := by omega
  have qwZ02 : w.heap.size + 1 + 1 < wZ0.heap.size := by omega
  go_wp2_with fail
  refine bodyPost_ret (v := .agg #[.slice x0A' x0l.length x0c']) (by simp [results, Try.results50, go_sem, *]) rfl ⟨_, _, rfl, ?_, ?_⟩
  · refine RowIn.wide (B := wZ0.heap.size) ?_ (by (try simp only [World.size_setCell]); (try simp only [World.size_drew]); (try simp only [World.size_alloc]); omega)
    refine RowIn.down (lo := w.heap.size + 1 + 1 + 1) ?_ (by omega)
    repeat (first | with_reducible exact own_x0 | (with_reducible refine RowIn.far ?_ (by simp only; omega) _) | (with_reducible refine RowIn.drew ?_) | (with_reducible refine RowIn.stays ?_ (by with_reducible assumption) (by (try simp only [World.size_setCell]); (try simp only [World.size_drew]); (try simp only [World.size_alloc]); omega)))
  · repeat' (first | with_reducible assumption | with_reducible exact Below.refl _ _ | (with_reducible refine Below.setCell ?_ ?_ _) | (with_reducible refine Below.alloc ?_ ?_ _) | (with_reducible refine Below.drew ?_) | (with_reducible refine below_dr ?_ _) | (with_reducible refine Below.trans ?_ (Below.mono (by with_reducible assumption) ?_)) | omega | (simp; done) | (simp; omega))
def ToPart (x0 : Int) (x1 : Int) (x2 : Int) (w : World) (e : Ending) (w' : World) : Prop := e = .returned (.agg #[.int .i64 x0, .int .i64 x1, .int .i64 x2]) ∧ Below w.heap.size w w'
set_option maxHeartbeats 3200000 in
theorem xtoPart_any (x0 : Int) (x1 : Int) (x2 : Int) (w : World) (ht : totPart (x0, x1, x2) ≤ 1048576)  :
    Calls Try.prog 118 #[.agg #[.int .i64 x0, .int .i64 x1, .int .i64 x2]] w (ToPart x0 x1 x2 w) := by
  unfold ToPart
  go_enter Try.func118, Try.ntmps118
  go_wp2_with fail
  refine (xtoPt_any x1 x2 _ (show totPt (x1, x2) ≤ 1048576 from by first | exact Nat.zero_le _ | (simp only [totPt]; omega)) ).mono ?_
  intro e wZ0 hq
  obtain ⟨rfl, hbwZ0⟩ := hq
  obtain ⟨hcwZ0, hfwZ0⟩ := bcell hbwZ0
  have hzwZ0 := hbwZ0.size
  (try simp only [World.size_setCell] at hcwZ0 hfwZ0 hzwZ0)
  (try simp only [World.size_drew] at hcwZ0 hfwZ0 hzwZ0)
  (try simp only [World.size_alloc] at hcwZ0 hfwZ0 hzwZ0)
  have qwZ00 : w.heap.size < wZ0.heap.size := by omega
  have qwZ01 : w.heap.size + 1 < wZ0.heap.size := by omega
  have qwZ02 : w.heap.size + 1 + 1 < wZ0.heap.size := by omega
  go_wp2_with fail
  refine bodyPost_ret (v := .agg #[.int .i64 x0, .int .i64 x1, .int .i64 x2]) (by simp [results, Try.results118, go_sem, *]) rfl ⟨rfl, ?_⟩
  · repeat' (first | with_reducible assumption | with_reducible exact Below.refl _ _ | (with_reducible refine Below.setCell ?_ ?_ _) | (with_reducible refine Below.alloc ?_ ?_ _) | (with_reducible refine Below.drew ?_) | (with_reducible refine below_dr ?_ _) | (with_reducible refine Below.trans ?_ (Below.mono (by with_reducible assumption) ?_)) | omega | (simp; done) | (simp; omega))
theorem hinfoPart : (Try.prog.info? 96).map (fun i => (i.zero, i.size, i.bytes)) = some (some (.agg #[.int .i64 0, .int .i64 0, .int .i64 0]), 3, 24) := by kernel_rfl
def ToSPart (l : List DPart) (w : World) (e : Ending) (w' : World) : Prop := ∃ (A' : Option Addr) (c' : Nat), e = .returned (.slice A' l.length c') ∧ RowIn RvPart 3 w' w.heap.size w'.heap.size A' l ∧ Below w.heap.size w w'
set_option maxHeartbeats 3200000 in
theorem xtoPartS_any (l : List DPart) (A : Option Addr) (c : Nat) (w : World) (ht : totRow totPart l ≤ 1048576) (r : Row RvPart 3 w w.heap.size A l) :
    Calls Try.prog 51 #[.slice A l.length c] w (ToSPart l w) := by
  obtain ⟨i0, hi0, hz0, hz1, hz2⟩ := info_parts hinfoPart
  have HTE := Lib.hid (fun (k : Nat) (d : DPart) (h : l[k]? = some d) => Nat.le_trans (totRow_at (f := totPart) h) ht)
  have hl : l.length ≤ 1048576 := Nat.le_trans (totRow_len totPart l) ht
  clear ht
  obtain ⟨n, hn⟩ : ∃ n, n = l.length := ⟨_, rfl⟩
  rw [← hn] at hl
  have hmk := fun W => run_make_rowN (P := Try.prog) 34 96 i0 _ Try.underlying34 hi0 hz0 .i64 .i64 n n (Nat.le_refl _) (by rw [hz2]; omega) (by omega) W
  rw [hz1] at hmk
  have hsz : ∀ W : World, (madeCells (Value.cells (.agg #[.int .i64 0, .int .i64 0, .int .i64 0])) (n * 3)).size = n * 3 := fun _ => size_madeCells _ _
  generalize hZ : madeCells (Value.cells (.agg #[.int .i64 0, .int .i64 0, .int .i64 0])) (n * 3) = Z at hmk hsz
  have hszZ := Lib.hid (hsz w)
  clear hZ hsz hi0 hz0 hz1 hz2
  unfold ToSPart
  rw [← hn]
  have HN := Lib.hid hn
  clear hn
  go_enter Try.func51, Try.ntmps51
  go_wp2_with fail
  clear hmk
  have hown0 := own_made w w.heap.size 96 3 n Z (Nat.le_refl _) (by unfold maxLen; omega) hszZ.out
  have hb0 : Below w.heap.size w (w.alloc (.cells Z 96)) := by repeat' (first | with_reducible assumption | with_reducible exact Below.refl _ _ | (with_reducible refine Below.setCell ?_ ?_ _) | (with_reducible refine Below.alloc ?_ ?_ _) | (with_reducible refine Below.drew ?_) | (with_reducible refine below_dr ?_ _) | (with_reducible refine Below.trans ?_ (Below.mono (by with_reducible assumption) ?_)) | omega | (simp; done) | (simp; omega))
  have hz00 : w.heap.size < (w.alloc (.cells Z 96)).heap.size := by simp
  generalize w.alloc (.cells Z 96) = W0 at hown0 hb0 hz00 ⊢
  go_loopw [4] (fun i wr => ∃ (k : Nat) (xs : List Value), k ≤ n ∧ i = .int .i64 (k : Int) ∧ wr.ownsRow w.heap.size 96 3 (.slice (some ⟨w.heap.size, 0, none⟩) n n) n xs ∧ Fill RvPart 3 wr (w.heap.size + 1) wr.heap.size l k xs ∧ Below w.heap.size w wr ∧ w.heap.size < wr.heap.size) (fun i _ => n - (intOf i).toNat)
  case atStart => exact ⟨0, _, Nat.zero_le _, rfl, hown0, Fill.zero, hb0, hz00⟩
  case round =>
    obtain ⟨k, xs, hk, rfl, hown, hfil, hbl, hzr⟩ := hrel
    have hxl : xs.length = n * 3 := hown.1
    have HX := Lib.hid hxl
    have HFIL := Lib.hid hfil
    clear hxl hfil
    by_cases hlt : k < n
    case pos =>
      obtain ⟨⟨x0, x1, x2⟩, ha⟩ : ∃ a, l[k]? = some a := ⟨l[k]'(by have := HN.out; omega), List.getElem?_eq_getElem (by have := HN.out; omega)⟩
      obtain ⟨g, o, row, rfl, hg, hR, hcc⟩ := (Row.carry (w' := wr) r hbl (Nat.le_refl _)).elem ha
      obtain rfl := hR
      have c0 : wr.cell? ⟨g, o + k * 3, none⟩ = some (.int .i64 x0) := hcc 0 _ rfl
      have c1 : wr.cell? ⟨g, o + k * 3 + 1, none⟩ = some (.int .i64 x1) := hcc 1 _ rfl
      have c2 : wr.cell? ⟨g, o + k * 3 + 2, none⟩ = some (.int .i64 x2) := hcc 2 _ rfl
      clear hcc
      have HA := Lib.hid ha
      have hte := HTE.out k _ ha
      clear ha
      have hki : (k : Int) < (n : Int) := by omega
      go_wp2_with fail
      refine (xtoPart_any x0 x1 x2 _ hte ).mono ?_
      intro e wA hq
      obtain ⟨rfl, hbA⟩ := hq
      have hownA := own_stays hown hbA
      have hzA := hbA.size
      obtain ⟨yo0, y0⟩ : ∃ v, wA.cell? ⟨w.heap.size, k * 3, none⟩ = some v := ⟨_, (hownA.cellAt (k * 3) (by have := HX.out; omega)).trans (List.getElem?_eq_getElem (by have := HX.out; omega))⟩
      have yf0 : wA.frozen? ⟨w.heap.size, k * 3, none⟩ = false := hownA.frozenAt (k * 3)
      obtain ⟨yo1, y1⟩ : ∃ v, wA.cell? ⟨w.heap.size, k * 3 + 1, none⟩ = some v := ⟨_, (hownA.cellAt (k * 3 + 1) (by have := HX.out; omega)).trans (List.getElem?_eq_getElem (by have := HX.out; omega))⟩
      have yf1 : wA.frozen? ⟨w.heap.size, k * 3 + 1, none⟩ = false := hownA.frozenAt (k * 3 + 1)
      obtain ⟨yo2, y2⟩ : ∃ v, wA.cell? ⟨w.heap.size, k * 3 + 2, none⟩ = some v := ⟨_, (hownA.cellAt (k * 3 + 2) (by have := HX.out; omega)).trans (List.getElem?_eq_getElem (by have := HX.out; omega))⟩
      have yf2 : wA.frozen? ⟨w.heap.size, k * 3 + 2, none⟩ = false := hownA.frozenAt (k * 3 + 2)
      clear hown
      go_wp2_with fail
      go_roundw
      case rel =>
        have hst0 := World.ownsRow.stored (hownA) (k * 3) (.int .i64 x0)
        have hst1 := World.ownsRow.stored (hst0.1) (k * 3 + 1) (.int .i64 x1)
        have hst2 := World.ownsRow.stored (hst1.1) (k * 3 + 2) (.int .i64 x2)
        have hstep : Fill RvPart 3 (((wA.setCell ⟨w.heap.size, k * 3, none⟩ (.int .i64 x0)).setCell ⟨w.heap.size, k * 3 + 1, none⟩ (.int .i64 x1)).setCell ⟨w.heap.size, k * 3 + 2, none⟩ (.int .i64 x2)) (w.heap.size + 1) (((wA.setCell ⟨w.heap.size, k * 3, none⟩ (.int .i64 x0)).setCell ⟨w.heap.size, k * 3 + 1, none⟩ (.int .i64 x1)).setCell ⟨w.heap.size, k * 3 + 2, none⟩ (.int .i64 x2)).heap.size l (k + 1) (setRun xs (k * 3) [.int .i64 x0, .int .i64 x1, .int .i64 x2]) := HFIL.out.step (fun p h1 h2 => by rw [World.cell?_setCell_other _ _ _ _ (fun e => by subst e; simp only at h1; omega), World.cell?_setCell_other _ _ _ _ (fun e => by subst e; simp only at h1; omega), World.cell?_setCell_other _ _ _ _ (fun e => by subst e; simp only at h1; omega)]; exact hbA.cell h2) (by simp only [World.size_setCell]; omega) HA.out (fun _ _ => rfl) (by have := HX.out; omega) rfl
        exact ⟨k + 1, _, by omega, by go_num, hst2.1, hstep, by repeat' (first | with_reducible assumption | with_reducible exact Below.refl _ _ | (with_reducible refine Below.setCell ?_ ?_ _) | (with_reducible refine Below.alloc ?_ ?_ _) | (with_reducible refine Below.drew ?_) | (with_reducible refine below_dr ?_ _) | (with_reducible refine Below.trans ?_ (Below.mono (by with_reducible assumption) ?_)) | omega | (simp; done) | (simp; omega)), by (simp only [World.size_setCell]; omega)⟩
      case measure => simp [intOf]; omega
    case neg =>
      obtain rfl : k = n := by omega
      go_wp2_with fail
      go_ret
      exact ⟨_, _, rfl, HFIL.out.done hown HN.out hzr, hbl⟩
def ToAnchor (x0 : ByteArray) (x1 : Int) (x2 : Int) (w : World) (e : Ending) (w' : World) : Prop := e = .returned (.agg #[.string x0, .int .i64 x1, .int .i64 x2]) ∧ Below w.heap.size w w'
set_option maxHeartbeats 3200000 in
theorem xtoAnchor_any (x0 : ByteArray) (x1 : Int) (x2 : Int) (w : World) (ht : totAnchor (x0, x1, x2) ≤ 1048576)  :
    Calls Try.prog 119 #[.agg #[.string x0, .int .i64 x1, .int .i64 x2]] w (ToAnchor x0 x1 x2 w) := by
  unfold ToAnchor
  go_enter Try.func119, Try.ntmps119
  go_wp2_with fail
  refine (xtoPt_any x1 x2 _ (show totPt (x1, x2) ≤ 1048576 from by first | exact Nat.zero_le _ | (simp only [totPt]; omega)) ).mono ?_
  intro e wZ0 hq
  obtain ⟨rfl, hbwZ0⟩ := hq
  obtain ⟨hcwZ0, hfwZ0⟩ := bcell hbwZ0
  have hzwZ0 := hbwZ0.size
  (try simp only [World.size_setCell] at hcwZ0 hfwZ0 hzwZ0)
  (try simp only [World.size_drew] at hcwZ0 hfwZ0 hzwZ0)
  (try simp only [World.size_alloc] at hcwZ0 hfwZ0 hzwZ0)
  have qwZ00 : w.heap.size < wZ0.heap.size := by omega
  have qwZ01 : w.heap.size + 1 < wZ0.heap.size := by omega
  have qwZ02 : w.heap.size + 1 + 1 < wZ0.heap.size := by omega
  go_wp2_with fail
  refine bodyPost_ret (v := .agg #[.string x0, .int .i64 x1, .int .i64 x2]) (by simp [results, Try.results119, go_sem, *]) rfl ⟨rfl, ?_⟩
  · repeat' (first | with_reducible assumption | with_reducible exact Below.refl _ _ | (with_reducible refine Below.setCell ?_ ?_ _) | (with_reducible refine Below.alloc ?_ ?_ _) | (with_reducible refine Below.drew ?_) | (with_reducible refine below_dr ?_ _) | (with_reducible refine Below.trans ?_ (Below.mono (by with_reducible assumption) ?_)) | omega | (simp; done) | (simp; omega))
theorem hinfoAnchor : (Try.prog.info? 101).map (fun i => (i.zero, i.size, i.bytes)) = some (some (.agg #[.string ByteArray.empty, .int .i64 0, .int .i64 0]), 3, 32) := by kernel_rfl
def ToSAnchor (l : List DAnchor) (w : World) (e : Ending) (w' : World) : Prop := ∃ (A' : Option Addr) (c' : Nat), e = .returned (.slice A' l.length c') ∧ RowIn RvAnchor 3 w' w.heap.size w'.heap.size A' l ∧ Below w.heap.size w w'
set_option maxHeartbeats 3200000 in
theorem xtoAnchorS_any (l : List DAnchor) (A : Option Addr) (c : Nat) (w : World) (ht : totRow totAnchor l ≤ 1048576) (r : Row RvAnchor 3 w w.heap.size A l) :
    Calls Try.prog 52 #[.slice A l.length c] w (ToSAnchor l w) := by
  obtain ⟨i0, hi0, hz0, hz1, hz2⟩ := info_parts hinfoAnchor
  have HTE := Lib.hid (fun (k : Nat) (d : DAnchor) (h : l[k]? = some d) => Nat.le_trans (totRow_at (f := totAnchor) h) ht)
  have hl : l.length ≤ 1048576 := Nat.le_trans (totRow_len totAnchor l) ht
  clear ht
  obtain ⟨n, hn⟩ : ∃ n, n = l.length := ⟨_, rfl⟩
  rw [← hn] at hl
  have hmk := fun W => run_make_rowN (P := Try.prog) 35 101 i0 _ Try.underlying35 hi0 hz0 .i64 .i64 n n (Nat.le_refl _) (by rw [hz2]; omega) (by omega) W
  rw [hz1] at hmk
  have hsz : ∀ W : World, (madeCells (Value.cells (.agg #[.string ByteArray.empty, .int .i64 0, .int .i64 0])) (n * 3)).size = n * 3 := fun _ => size_madeCells _ _
  generalize hZ : madeCells (Value.cells (.agg #[.string ByteArray.empty, .int .i64 0, .int .i64 0])) (n * 3) = Z at hmk hsz
  have hszZ := Lib.hid (hsz w)
  clear hZ hsz hi0 hz0 hz1 hz2
  unfold ToSAnchor
  rw [← hn]
  have HN := Lib.hid hn
  clear hn
  go_enter Try.func52, Try.ntmps52
  go_wp2_with fail
  clear hmk
  have hown0 := own_made w w.heap.size 101 3 n Z (Nat.le_refl _) (by unfold maxLen; omega) hszZ.out
  have hb0 : Below w.heap.size w (w.alloc (.cells Z 101)) := by repeat' (first | with_reducible assumption | with_reducible exact Below.refl _ _ | (with_reducible refine Below.setCell ?_ ?_ _) | (with_reducible refine Below.alloc ?_ ?_ _) | (with_reducible refine Below.drew ?_) | (with_reducible refine below_dr ?_ _) | (with_reducible refine Below.trans ?_ (Below.mono (by with_reducible assumption) ?_)) | omega | (simp; done) | (simp; omega))
  have hz00 : w.heap.size < (w.alloc (.cells Z 101)).heap.size := by simp
  generalize w.alloc (.cells Z 101) = W0 at hown0 hb0 hz00 ⊢
  go_loopw [4] (fun i wr => ∃ (k : Nat) (xs : List Value), k ≤ n ∧ i = .int .i64 (k : Int) ∧ wr.ownsRow w.heap.size 101 3 (.slice (some ⟨w.heap.size, 0, none⟩) n n) n xs ∧ Fill RvAnchor 3 wr (w.heap.size + 1) wr.heap.size l k xs ∧ Below w.heap.size w wr ∧ w.heap.size < wr.heap.size) (fun i _ => n - (intOf i).toNat)
  case atStart => exact ⟨0, _, Nat.zero_le _, rfl, hown0, Fill.zero, hb0, hz00⟩
  case round =>
    obtain ⟨k, xs, hk, rfl, hown, hfil, hbl, hzr⟩ := hrel
    have hxl : xs.length = n * 3 := hown.1
    have HX := Lib.hid hxl
    have HFIL := Lib.hid hfil
    clear hxl hfil
    by_cases hlt : k < n
    case pos =>
      obtain ⟨⟨x0, x1, x2⟩, ha⟩ : ∃ a, l[k]? = some a := ⟨l[k]'(by have := HN.out; omega), List.getElem?_eq_getElem (by have := HN.out; omega)⟩
      obtain ⟨g, o, row, rfl, hg, hR, hcc⟩ := (Row.carry (w' := wr) r hbl (Nat.le_refl _)).elem ha
      obtain rfl := hR
      have c0 : wr.cell? ⟨g, o + k * 3, none⟩ = some (.string x0) := hcc 0 _ rfl
      have c1 : wr.cell? ⟨g, o + k * 3 + 1, none⟩ = some (.int .i64 x1) := hcc 1 _ rfl
      have c2 : wr.cell? ⟨g, o + k * 3 + 2, none⟩ = some (.int .i64 x2) := hcc 2 _ rfl
      clear hcc
      have HA := Lib.hid ha
      have hte := HTE.out k _ ha
      clear ha
      have hki : (k : Int) < (n : Int) := by omega
      go_wp2_with fail
      refine (xtoAnchor_any x0 x1 x2 _ hte ).mono ?_
      intro e wA hq
      obtain ⟨rfl, hbA⟩ := hq
      have hownA := own_stays hown hbA
      have hzA := hbA.size
      obtain ⟨yo0, y0⟩ : ∃ v, wA.cell? ⟨w.heap.size, k * 3, none⟩ = some v := ⟨_, (hownA.cellAt (k * 3) (by have := HX.out; omega)).trans (List.getElem?_eq_getElem (by have := HX.out; omega))⟩
      have yf0 : wA.frozen? ⟨w.heap.size, k * 3, none⟩ = false := hownA.frozenAt (k * 3)
      obtain ⟨yo1, y1⟩ : ∃ v, wA.cell? ⟨w.heap.size, k * 3 + 1, none⟩ = some v := ⟨_, (hownA.cellAt (k * 3 + 1) (by have := HX.out; omega)).trans (List.getElem?_eq_getElem (by have := HX.out; omega))⟩
      have yf1 : wA.frozen? ⟨w.heap.size, k * 3 + 1, none⟩ = false := hownA.frozenAt (k * 3 + 1)
      obtain ⟨yo2, y2⟩ : ∃ v, wA.cell? ⟨w.heap.size, k * 3 + 2, none⟩ = some v := ⟨_, (hownA.cellAt (k * 3 + 2) (by have := HX.out; omega)).trans (List.getElem?_eq_getElem (by have := HX.out; omega))⟩
      have yf2 : wA.frozen? ⟨w.heap.size, k * 3 + 2, none⟩ = false := hownA.frozenAt (k * 3 + 2)
      clear hown
      go_wp2_with fail
      go_roundw
      case rel =>
        have hst0 := World.ownsRow.stored (hownA) (k * 3) (.string x0)
        have hst1 := World.ownsRow.stored (hst0.1) (k * 3 + 1) (.int .i64 x1)
        have hst2 := World.ownsRow.stored (hst1.1) (k * 3 + 2) (.int .i64 x2)
        have hstep : Fill RvAnchor 3 (((wA.setCell ⟨w.heap.size, k * 3, none⟩ (.string x0)).setCell ⟨w.heap.size, k * 3 + 1, none⟩ (.int .i64 x1)).setCell ⟨w.heap.size, k * 3 + 2, none⟩ (.int .i64 x2)) (w.heap.size + 1) (((wA.setCell ⟨w.heap.size, k * 3, none⟩ (.string x0)).setCell ⟨w.heap.size, k * 3 + 1, none⟩ (.int .i64 x1)).setCell ⟨w.heap.size, k * 3 + 2, none⟩ (.int .i64 x2)).heap.size l (k + 1) (setRun xs (k * 3) [.string x0, .int .i64 x1, .int .i64 x2]) := HFIL.out.step (fun p h1 h2 => by rw [World.cell?_setCell_other _ _ _ _ (fun e => by subst e; simp only at h1; omega), World.cell?_setCell_other _ _ _ _ (fun e => by subst e; simp only at h1; omega), World.cell?_setCell_other _ _ _ _ (fun e => by subst e; simp only at h1; omega)]; exact hbA.cell h2) (by simp only [World.size_setCell]; omega) HA.out (fun _ _ => rfl) (by have := HX.out; omega) rfl
        exact ⟨k + 1, _, by omega, by go_num, hst2.1, hstep, by repeat' (first | with_reducible assumption | with_reducible exact Below.refl _ _ | (with_reducible refine Below.setCell ?_ ?_ _) | (with_reducible refine Below.alloc ?_ ?_ _) | (with_reducible refine Below.drew ?_) | (with_reducible refine below_dr ?_ _) | (with_reducible refine Below.trans ?_ (Below.mono (by with_reducible assumption) ?_)) | omega | (simp; done) | (simp; omega)), by (simp only [World.size_setCell]; omega)⟩
      case measure => simp [intOf]; omega
    case neg =>
      obtain rfl : k = n := by omega
      go_wp2_with fail
      go_ret
      exact ⟨_, _, rfl, HFIL.out.done hown HN.out hzr, hbl⟩
def ToGlyph (x0 : ByteArray) (x1 : Int) (x2 : Int) (x3l : List DLoop) (x4l : List DPart) (x5l : List DAnchor) (x6 : ByteArray) (w : World) (e : Ending) (w' : World) : Prop := ∃ (x3A' : Option Addr) (x3c' : Nat) (x4A' : Option Addr) (x4c' : Nat) (x5A' : Option Addr) (x5c' : Nat), e = .returned (.agg #[.string x0, .int .i64 x1, .int .i64 x2, .slice x3A' x3l.length x3c', .slice x4A' x4l.length x4c', .slice x5A' x5l.length x5c', .string x6]) ∧ RowIn RvLoop 1 w' w.heap.size w'.heap.size x3A' x3l ∧ RowIn RvPart 3 w' w.heap.size w'.heap.size x4A' x4l ∧ RowIn RvAnchor 3 w' w.heap.size w'.heap.size x5A' x5l ∧ Below w.heap.size w w'
set_option maxHeartbeats 3200000 in
theorem xtoGlyph_any (x0 : ByteArray) (x1 : Int) (x2 : Int) (x3A : Option Addr) (x3c : Nat) (x3l : List DLoop) (x4A : Option Addr) (x4c : Nat) (x4l : List DPart) (x5A : Option Addr) (x5c : Nat) (x5l : List DAnchor) (x6 : ByteArray) (w : World) (ht : totGlyph (x0, x1, x2, x3l, x4l, x5l, x6) ≤ 1048576) (r_x3 : Row RvLoop 1 w w.heap.size x3A x3l) (r_x4 : Row RvPart 3 w w.heap.size x4A x4l) (r_x5 : Row RvAnchor 3 w w.heap.size x5A x5l) :
    Calls Try.prog 15 #[.agg #[.string x0, .int .i64 x1, .int .i64 x2, .slice x3A x3l.length x3c, .slice x4A x4l.length x4c, .slice x5A x5l.length x5c, .string x6]] w (ToGlyph x0 x1 x2 x3l x4l x5l x6 w) := by
  unfold ToGlyph
  replace ht : x0.size + totRow totLoop x3l + totRow totPart x4l + totRow totAnchor x5l + x6.size ≤ 1048576 := ht
  go_enter Try.func15, Try.ntmps15
  go_wp2_with fail
  refine (xtoOutline_any x3A x3c x3l _ (by show totRow totLoop x3l ≤ 1048576; omega) ?_).mono ?_
  · exact (Row.carry (w' := _) r_x3 (by repeat' (first | with_reducible assumption | with_reducible exact Below.refl _ _ | (with_reducible refine Below.setCell ?_ ?_ _) | (with_reducible refine Below.alloc ?_ ?_ _) | (with_reducible refine Below.drew ?_) | (with_reducible refine below_dr ?_ _) | (with_reducible refine Below.trans ?_ (Below.mono (by with_reducible assumption) ?_)) | omega | (simp; done) | (simp; omega))) (Nat.le_refl _)).more (by (try simp only [World.size_setCell]); (try simp only [World.size_drew]); (try simp only [World.size_alloc]); omega)
  intro e wZ0 hq
  obtain ⟨x3A', x3c', rfl, own_x3, hbwZ0⟩ := hq
  replace own_x3 := own_x3.down (lo' := w.heap.size + 1 + 1 + 1) (by (try simp only [World.size_setCell]); (try simp only [World.size_alloc]); omega)
  obtain ⟨hcwZ0, hfwZ0⟩ := bcell hbwZ0
  have hzwZ0 := hbwZ0.size
  (try simp only [World.size_setCell] at hcwZ0 hfwZ0 hzwZ0)
  (try simp only [World.size_drew] at hcwZ0 hfwZ0 hzwZ0)
  (try simp only [World.size_alloc] at hcwZ0 hfwZ0 hzwZ0)
  have qwZ00 : w.heap.size < wZ0.heap.size := by omega
  have qwZ01 : w.heap.size + 1 < wZ0.heap.size := by omega
  have qwZ02 : w.heap.size + 1 + 1 < wZ0.heap.size := by omega
  go_wp2_with fail
  refine (xtoPartS_any x4l x4A x4c _ (by omega) ?_).mono ?_
  · exact (Row.carry (w' := _) r_x4 (by repeat' (first | with_reducible assumption | with_reducible exact Below.refl _ _ | (with_reducible refine Below.setCell ?_ ?_ _) | (with_reducible refine Below.alloc ?_ ?_ _) | (with_reducible refine Below.drew ?_) | (with_reducible refine below_dr ?_ _) | (with_reducible refine Below.trans ?_ (Below.mono (by with_reducible assumption) ?_)) | omega | (simp; done) | (simp; omega))) (Nat.le_refl _)).more (by (try simp only [World.size_setCell]); (try simp only [World.size_drew]); (try simp only [World.size_alloc]); omega)
  intro e wZ1 hq
  obtain ⟨x4A', x4c', rfl, own_x4, hbwZ1⟩ := hq
  replace own_x4 := own_x4.down (lo' := w.heap.size + 1 + 1 + 1) (by (try simp only [World.size_setCell]); (try simp only [World.size_alloc]); omega)
  obtain ⟨hcwZ1, hfwZ1⟩ := bcell hbwZ1
  have hzwZ1 := hbwZ1.size
  (try simp only [World.size_setCell] at hcwZ1 hfwZ1 hzwZ1)
  (try simp only [World.size_drew] at hcwZ1 hfwZ1 hzwZ1)
  (try simp only [World.size_alloc] at hcwZ1 hfwZ1 hzwZ1)
  have qwZ10 : w.heap.size < wZ1.heap.size := by omega
  have qwZ11 : w.heap.size + 1 < wZ1.heap.size := by omega
  have qwZ12 : w.heap.size + 1 + 1 < wZ1.heap.size := by omega
  go_wp2_with fail
  refine (xtoAnchorS_any x5l x5A x5c _ (by omega) ?_).mono ?_
  · exact (Row.carry (w' := _) r_x5 (by repeat' (first | with_reducible assumption | with_reducible exact Below.refl _ _ | (with_reducible refine Below.setCell ?_ ?_ _) | (with_reducible refine Below.alloc ?_ ?_ _) | (with_reducible refine Below.drew ?_) | (with_reducible refine below_dr ?_ _) | (with_reducible refine Below.trans ?_ (Below.mono (by with_reducible assumption) ?_)) | omega | (simp; done) | (simp; omega))) (Nat.le_refl _)).more (by (try simp only [World.size_setCell]); (try simp only [World.size_drew]); (try simp only [World.size_alloc]); omega)
  intro e wZ2 hq
  obtain ⟨x5A', x5c', rfl, own_x5, hbwZ2⟩ := hq
  replace own_x5 := own_x5.down (lo' := w.heap.size + 1 + 1 + 1) (by (try simp only [World.size_setCell]); (try simp only [World.size_alloc]); omega)
  obtain ⟨hcwZ2, hfwZ2⟩ := bcell hbwZ2
  have hzwZ2 := hbwZ2.size
  (try simp only [World.size_setCell] at hcwZ2 hfwZ2 hzwZ2)
  (try simp only [World.size_drew] at hcwZ2 hfwZ2 hzwZ2)
  (try simp only [World.size_alloc] at hcwZ2 hfwZ2 hzwZ2)
  have qwZ20 : w.heap.size < wZ2.heap.size := by omega
  have qwZ21 : w.heap.size + 1 < wZ2.heap.size := by omega
  have qwZ22 : w.heap.size + 1 + 1 < wZ2.heap.size := by omega
  go_wp2_with fail
  refine bodyPost_ret (v := .agg #[.string x0, .int .i64 x1, .int .i64 x2, .slice x3A' x3l.length x3c', .slice x4A' x4l.length x4c', .slice x5A' x5l.length x5c', .string x6]) (by simp [results, Try.results15, go_sem, *]) rfl ⟨_, _, _, _, _, _, rfl, ?_, ?_, ?_, ?_⟩
  · refine RowIn.wide (B := wZ0.heap.size) ?_ (by (try simp only [World.size_setCell]); (try simp only [World.size_drew]); (try simp only [World.size_alloc]); omega)
    refine RowIn.down (lo := w.heap.size + 1 + 1 + 1) ?_ (by omega)
    repeat (first | with_reducible exact own_x3 | (with_reducible refine RowIn.far ?_ (by simp only; omega) _) | (with_reducible refine RowIn.drew ?_) | (with_reducible refine RowIn.stays ?_ (by with_reducible assumption) (by (try simp only [World.size_setCell]); (try simp only [World.size_drew]); (try simp only [World.size_alloc]); omega)))
  · refine RowIn.wide (B := wZ1.heap.size) ?_ (by (try simp only [World.size_setCell]); (try simp only [World.size_drew]); (try simp only [World.size_alloc]); omega)
    refine RowIn.down (lo := w.heap.size + 1 + 1 + 1) ?_ (by omega)
    repeat (first | with_reducible exact own_x4 | (with_reducible refine RowIn.far ?_ (by simp only; omega) _) | (with_reducible refine RowIn.drew ?_) | (with_reducible refine RowIn.stays ?_ (by with_reducible assumption) (by (try simp only [World.size_setCell]); (try simp only [World.size_drew]); (try simp only [World.size_alloc]); omega)))
  · refine RowIn.wide (B := wZ2.heap.size) ?_ (by (try simp only [World.size_setCell]); (try simp only [World.size_drew]); (try simp only [World.size_alloc]); omega)
    refine RowIn.down (lo := w.heap.size + 1 + 1 + 1) ?_ (by omega)
    repeat (first | with_reducible exact own_x5 | (with_reducible refine RowIn.far ?_ (by simp only; omega) _) | (with_reducible refine RowIn.drew ?_) | (with_reducible refine RowIn.stays ?_ (by with_reducible assumption) (by (try simp only [World.size_setCell]); (try simp only [World.size_drew]); (try simp only [World.size_alloc]); omega)))
  · repeat' (first | with_reducible assumption | with_reducible exact Below.refl _ _ | (with_reducible refine Below.setCell ?_ ?_ _) | (with_reducible refine Below.alloc ?_ ?_ _) | (with_reducible refine Below.drew ?_) | (with_reducible refine below_dr ?_ _) | (with_reducible refine Below.trans ?_ (Below.mono (by with_reducible assumption) ?_)) | omega | (simp; done) | (simp; omega))
theorem hinfoGlyph : (Try.prog.info? 37).map (fun i => (i.zero, i.size, i.bytes)) = some (some (.agg #[.string ByteArray.empty, .int .i64 0, .int .i64 0, .slice none 0 0, .slice none 0 0, .slice none 0 0, .string ByteArray.empty]), 7, 120) := by kernel_rfl
def ToSGlyph (l : List DGlyph) (w : World) (e : Ending) (w' : World) : Prop := ∃ (A' : Option Addr) (c' : Nat), e = .returned (.slice A' l.length c') ∧ RowIn RvGlyph 7 w' w.heap.size w'.heap.size A' l ∧ Below w.heap.size w w'
set_option maxHeartbeats 3200000 in
theorem xtoGlyphS_any (l : List DGlyph) (A : Option Addr) (c : Nat) (w : World) (ht : totRow totGlyph l ≤ 1048576) (r : Row RvGlyph 7 w w.heap.size A l) :
    Calls Try.prog 68 #[.slice A l.length c] w (ToSGlyph l w) := by
  obtain ⟨i0, hi0, hz0, hz1, hz2⟩ := info_parts hinfoGlyph
  have HTE := Lib.hid (fun (k : Nat) (d : DGlyph) (h : l[k]? = some d) => Nat.le_trans (totRow_at (f := totGlyph) h) ht)
  have hl : l.length ≤ 1048576 := Nat.le_trans (totRow_len totGlyph l) ht
  clear ht
  obtain ⟨n, hn⟩ : ∃ n, n = l.length := ⟨_, rfl⟩
  rw [← hn] at hl
  have hmk := fun W => run_make_rowN (P := Try.prog) 47 37 i0 _ Try.underlying47 hi0 hz0 .i64 .i64 n n (Nat.le_refl _) (by rw [hz2]; omega) (by omega) W
  rw [hz1] at hmk
  have hsz : ∀ W : World, (madeCells (Value.cells (.agg #[.string ByteArray.empty, .int .i64 0, .int .i64 0, .slice none 0 0, .slice none 0 0, .slice none 0 0, .string ByteArray.empty])) (n * 7)).size = n * 7 := fun _ => size_madeCells _ _
  generalize hZ : madeCells (Value.cells (.agg #[.string ByteArray.empty, .int .i64 0, .int .i64 0, .slice none 0 0, .slice none 0 0, .slice none 0 0, .string ByteArray.empty])) (n * 7) = Z at hmk hsz
  have hszZ := Lib.hid (hsz w)
  clear hZ hsz hi0 hz0 hz1 hz2
  unfold ToSGlyph
  rw [← hn]
  have HN := Lib.hid hn
  clear hn
  go_enter Try.func68, Try.ntmps68
  go_wp2_with fail
  clear hmk
  have hown0 := own_made w w.heap.size 37 7 n Z (Nat.le_refl _) (by unfold maxLen; omega) hszZ.out
  have hb0 : Below w.heap.size w (w.alloc (.cells Z 37)) := by repeat' (first | with_reducible assumption | with_reducible exact Below.refl _ _ | (with_reducible refine Below.setCell ?_ ?_ _) | (with_reducible refine Below.alloc ?_ ?_ _) | (with_reducible refine Below.drew ?_) | (with_reducible refine below_dr ?_ _) | (with_reducible refine Below.trans ?_ (Below.mono (by with_reducible assumption) ?_)) | omega | (simp; done) | (simp; omega))
  have hz00 : w.heap.size < (w.alloc (.cells Z 37)).heap.size := by simp
  generalize w.alloc (.cells Z 37) = W0 at hown0 hb0 hz00 ⊢
  go_loopw [4] (fun i wr => ∃ (k : Nat) (xs : List Value), k ≤ n ∧ i = .int .i64 (k : Int) ∧ wr.ownsRow w.heap.size 37 7 (.slice (some ⟨w.heap.size, 0, none⟩) n n) n xs ∧ Fill RvGlyph 7 wr (w.heap.size + 1) wr.heap.size l k xs ∧ Below w.heap.size w wr ∧ w.heap.size < wr.heap.size) (fun i _ => n - (intOf i).toNat)
  case atStart => exact ⟨0, _, Nat.zero_le _, rfl, hown0, Fill.zero, hb0, hz00⟩
  case round =>
    obtain ⟨k, xs, hk, rfl, hown, hfil, hbl, hzr⟩ := hrel
    have hxl : xs.length = n * 7 := hown.1
    have HX := Lib.hid hxl
    have HFIL := Lib.hid hfil
    clear hxl hfil
    by_cases hlt : k < n
    case pos =>
      obtain ⟨⟨x0, x1, x2, x3l, x4l, x5l, x6⟩, ha⟩ : ∃ a, l[k]? = some a := ⟨l[k]'(by have := HN.out; omega), List.getElem?_eq_getElem (by have := HN.out; omega)⟩
      obtain ⟨g, o, row, rfl, hg, hR, hcc⟩ := (Row.carry (w' := wr) r hbl (Nat.le_refl _)).elem ha
      obtain ⟨x3A, x3c, x4A, x4c, x5A, x5c, rfl, hr_x3, hr_x4, hr_x5⟩ := hR
      have c0 : wr.cell? ⟨g, o + k * 7, none⟩ = some (.string x0) := hcc 0 _ rfl
      have c1 : wr.cell? ⟨g, o + k * 7 + 1, none⟩ = some (.int .i64 x1) := hcc 1 _ rfl
      have c2 : wr.cell? ⟨g, o + k * 7 + 2, none⟩ = some (.int .i64 x2) := hcc 2 _ rfl
      have c3 : wr.cell? ⟨g, o + k * 7 + 3, none⟩ = some (.slice x3A x3l.length x3c) := hcc 3 _ rfl
      have c4 : wr.cell? ⟨g, o + k * 7 + 4, none⟩ = some (.slice x4A x4l.length x4c) := hcc 4 _ rfl
      have c5 : wr.cell? ⟨g, o + k * 7 + 5, none⟩ = some (.slice x5A x5l.length x5c) := hcc 5 _ rfl
      have c6 : wr.cell? ⟨g, o + k * 7 + 6, none⟩ = some (.string x6) := hcc 6 _ rfl
      clear hcc
      have HA := Lib.hid ha
      have hte := HTE.out k _ ha
      clear ha
      have hki : (k : Int) < (n : Int) := by omega
      go_wp2_with fail
      refine (xtoGlyph_any x0 x1 x2 x3A x3c x3l x4A x4c x4l x5A x5c x5l x6 _ hte ?_ ?_ ?_).mono ?_
      · exact Row.more hr_x3 (by omega)
      · exact Row.more hr_x4 (by omega)
      · exact Row.more hr_x5 (by omega)
      intro e wA hq
      obtain ⟨x3A', x3c', x4A', x4c', x5A', x5c', rfl, own_x3, own_x4, own_x5, hbA⟩ := hq
      have hownA := own_stays hown hbA
      have hzA := hbA.size
      obtain ⟨yo0, y0⟩ : ∃ v, wA.cell? ⟨w.heap.size, k * 7, none⟩ = some v := ⟨_, (hownA.cellAt (k * 7) (by have := HX.out; omega)).trans (List.getElem?_eq_getElem (by have := HX.out; omega))⟩
      have yf0 : wA.frozen? ⟨w.heap.size, k * 7, none⟩ = false := hownA.frozenAt (k * 7)
      obtain ⟨yo1, y1⟩ : ∃ v, wA.cell? ⟨w.heap.size, k * 7 + 1, none⟩ = some v := ⟨_, (hownA.cellAt (k * 7 + 1) (by have := HX.out; omega)).trans (List.getElem?_eq_getElem (by have := HX.out; omega))⟩
      have yf1 : wA.frozen? ⟨w.heap.size, k * 7 + 1, none⟩ = false := hownA.frozenAt (k * 7 + 1)
      obtain ⟨yo2, y2⟩ : ∃ v, wA.cell? ⟨w.heap.size, k * 7 + 2, none⟩ = some v := ⟨_, (hownA.cellAt (k * 7 + 2) (by have := HX.out; omega)).trans (List.getElem?_eq_getElem (by have := HX.out; omega))⟩
      have yf2 : wA.frozen? ⟨w.heap.size, k * 7 + 2, none⟩ = false := hownA.frozenAt (k * 7 + 2)
      obtain ⟨yo3, y3⟩ : ∃ v, wA.cell? ⟨w.heap.size, k * 7 + 3, none⟩ = some v := ⟨_, (hownA.cellAt (k * 7 + 3) (by have := HX.out; omega)).trans (List.getElem?_eq_getElem (by have := HX.out; omega))⟩
      have yf3 : wA.frozen? ⟨w.heap.size, k * 7 + 3, none⟩ = false := hownA.frozenAt (k * 7 + 3)
      obtain ⟨yo4, y4⟩ : ∃ v, wA.cell? ⟨w.heap.size, k * 7 + 4, none⟩ = some v := ⟨_, (hownA.cellAt (k * 7 + 4) (by have := HX.out; omega)).trans (List.getElem?_eq_getElem (by have := HX.out; omega))⟩
      have yf4 : wA.frozen? ⟨w.heap.size, k * 7 + 4, none⟩ = false := hownA.frozenAt (k * 7 + 4)
      obtain ⟨yo5, y5⟩ : ∃ v, wA.cell? ⟨w.heap.size, k * 7 + 5, none⟩ = some v := ⟨_, (hownA.cellAt (k * 7 + 5) (by have := HX.out; omega)).trans (List.getElem?_eq_getElem (by have := HX.out; omega))⟩
      have yf5 : wA.frozen? ⟨w.heap.size, k * 7 + 5, none⟩ = false := hownA.frozenAt (k * 7 + 5)
      obtain ⟨yo6, y6⟩ : ∃ v, wA.cell? ⟨w.heap.size, k * 7 + 6, none⟩ = some v := ⟨_, (hownA.cellAt (k * 7 + 6) (by have := HX.out; omega)).trans (List.getElem?_eq_getElem (by have := HX.out; omega))⟩
      have yf6 : wA.frozen? ⟨w.heap.size, k * 7 + 6, none⟩ = false := hownA.frozenAt (k * 7 + 6)
      clear hown
      go_wp2_with fail
      go_roundw
      case rel =>
        have hst0 := World.ownsRow.stored (hownA) (k * 7) (.string x0)
        have hst1 := World.ownsRow.stored (hst0.1) (k * 7 + 1) (.int .i64 x1)
        have hst2 := World.ownsRow.stored (hst1.1) (k * 7 + 2) (.int .i64 x2)
        have hst3 := World.ownsRow.stored (hst2.1) (k * 7 + 3) (.slice x3A' x3l.length x3c')
        have hst4 := World.ownsRow.stored (hst3.1) (k * 7 + 4) (.slice x4A' x4l.length x4c')
        have hst5 := World.ownsRow.stored (hst4.1) (k * 7 + 5) (.slice x5A' x5l.length x5c')
        have hst6 := World.ownsRow.stored (hst5.1) (k * 7 + 6) (.string x6)
        have hstep : Fill RvGlyph 7 (((((((wA.setCell ⟨w.heap.size, k * 7, none⟩ (.string x0)).setCell ⟨w.heap.size, k * 7 + 1, none⟩ (.int .i64 x1)).setCell ⟨w.heap.size, k * 7 + 2, none⟩ (.int .i64 x2)).setCell ⟨w.heap.size, k * 7 + 3, none⟩ (.slice x3A' x3l.length x3c')).setCell ⟨w.heap.size, k * 7 + 4, none⟩ (.slice x4A' x4l.length x4c')).setCell ⟨w.heap.size, k * 7 + 5, none⟩ (.slice x5A' x5l.length x5c')).setCell ⟨w.heap.size, k * 7 + 6, none⟩ (.string x6)) (w.heap.size + 1) (((((((wA.setCell ⟨w.heap.size, k * 7, none⟩ (.string x0)).setCell ⟨w.heap.size, k * 7 + 1, none⟩ (.int .i64 x1)).setCell ⟨w.heap.size, k * 7 + 2, none⟩ (.int .i64 x2)).setCell ⟨w.heap.size, k * 7 + 3, none⟩ (.slice x3A' x3l.length x3c')).setCell ⟨w.heap.size, k * 7 + 4, none⟩ (.slice x4A' x4l.length x4c')).setCell ⟨w.heap.size, k * 7 + 5, none⟩ (.slice x5A' x5l.length x5c')).setCell ⟨w.heap.size, k * 7 + 6, none⟩ (.string x6)).heap.size l (k + 1) (setRun xs (k * 7) [.string x0, .int .i64 x1, .int .i64 x2, .slice x3A' x3l.length x3c', .slice x4A' x4l.length x4c', .slice x5A' x5l.length x5c', .string x6]) := HFIL.out.step (fun p h1 h2 => by rw [World.cell?_setCell_other _ _ _ _ (fun e => by subst e; simp only at h1; omega), World.cell?_setCell_other _ _ _ _ (fun e => by subst e; simp only at h1; omega), World.cell?_setCell_other _ _ _ _ (fun e => by subst e; simp only at h1; omega), World.cell?_setCell_other _ _ _ _ (fun e => by subst e; simp only at h1; omega), World.cell?_setCell_other _ _ _ _ (fun e => by subst e; simp only at h1; omega), World.cell?_setCell_other _ _ _ _ (fun e => by subst e; simp only at h1; omega), World.cell?_setCell_other _ _ _ _ (fun e => by subst e; simp only at h1; omega)]; exact hbA.cell h2) (by simp only [World.size_setCell]; omega) HA.out (fun w2 ha2 => ⟨_, _, _, _, _, _, rfl, (own_x3 w2 (fun p h1 h2 => (ha2 p (by omega) (by simp only [World.size_setCell]; omega)).trans (by rw [World.cell?_setCell_other _ _ _ _ (fun e => by subst e; simp only at h1; omega), World.cell?_setCell_other _ _ _ _ (fun e => by subst e; simp only at h1; omega), World.cell?_setCell_other _ _ _ _ (fun e => by subst e; simp only at h1; omega), World.cell?_setCell_other _ _ _ _ (fun e => by subst e; simp only at h1; omega), World.cell?_setCell_other _ _ _ _ (fun e => by subst e; simp only at h1; omega), World.cell?_setCell_other _ _ _ _ (fun e => by subst e; simp only at h1; omega), World.cell?_setCell_other _ _ _ _ (fun e => by subst e; simp only at h1; omega)]))).more (by simp only [World.size_setCell]; omega), (own_x4 w2 (fun p h1 h2 => (ha2 p (by omega) (by simp only [World.size_setCell]; omega)).trans (by rw [World.cell?_setCell_other _ _ _ _ (fun e => by subst e; simp only at h1; omega), World.cell?_setCell_other _ _ _ _ (fun e => by subst e; simp only at h1; omega), World.cell?_setCell_other _ _ _ _ (fun e => by subst e; simp only at h1; omega), World.cell?_setCell_other _ _ _ _ (fun e => by subst e; simp only at h1; omega), World.cell?_setCell_other _ _ _ _ (fun e => by subst e; simp only at h1; omega), World.cell?_setCell_other _ _ _ _ (fun e => by subst e; simp only at h1; omega), World.cell?_setCell_other _ _ _ _ (fun e => by subst e; simp only at h1; omega)]))).more (by simp only [World.size_setCell]; omega), (own_x5 w2 (fun p h1 h2 => (ha2 p (by omega) (by simp only [World.size_setCell]; omega)).trans (by rw [World.cell?_setCell_other _ _ _ _ (fun e => by subst e; simp only at h1; omega), World.cell?_setCell_other _ _ _ _ (fun e => by subst e; simp only at h1; omega), World.cell?_setCell_other _ _ _ _ (fun e => by subst e; simp only at h1; omega), World.cell?_setCell_other _ _ _ _ (fun e => by subst e; simp only at h1; omega), World.cell?_setCell_other _ _ _ _ (fun e => by subst e; simp only at h1; omega), World.cell?_setCell_other _ _ _ _ (fun e => by subst e; simp only at h1; omega), World.cell?_setCell_other _ _ _ _ (fun e => by subst e; simp only at h1; omega)]))).more (by simp only [World.size_setCell]; omega)⟩) (by have := HX.out; omega) rfl
        exact ⟨k + 1, _, by omega, by go_num, hst6.1, hstep, by repeat' (first | with_reducible assumption | with_reducible exact Below.refl _ _ | (with_reducible refine Below.setCell ?_ ?_ _) | (with_reducible refine Below.alloc ?_ ?_ _) | (with_reducible refine Below.drew ?_) | (with_reducible refine below_dr ?_ _) | (with_reducible refine Below.trans ?_ (Below.mono (by with_reducible assumption) ?_)) | omega | (simp; done) | (simp; omega)), by (simp only [World.size_setCell]; omega)⟩
      case measure => simp [intOf]; omega
    case neg =>
      obtain rfl : k = n := by omega
      go_wp2_with fail
      go_ret
      exact ⟨_, _, rfl, HFIL.out.done hown HN.out hzr, hbl⟩
def ToGlyphSet (x0 : Int) (x1l : List DGlyph) (w : World) (e : Ending) (w' : World) : Prop := ∃ (x1A' : Option Addr) (x1c' : Nat), e = .returned (.agg #[.int .i64 x0, .slice x1A' x1l.length x1c']) ∧ RowIn RvGlyph 7 w' w.heap.size w'.heap.size x1A' x1l ∧ Below w.heap.size w w'
set_option maxHeartbeats 3200000 in
theorem xtoGlyphSet_any (x0 : Int) (x1A : Option Addr) (x1c : Nat) (x1l : List DGlyph) (w : World) (ht : totGlyphSet (x0, x1l) ≤ 1048576) (r_x1 : Row RvGlyph 7 w w.heap.size x1A x1l) :
    Calls Try.prog 22 #[.agg #[.int .i64 x0, .slice x1A x1l.length x1c]] w (ToGlyphSet x0 x1l w) := by
  unfold ToGlyphSet
  replace ht : totRow totGlyph x1l ≤ 1048576 := ht
  go_enter Try.func22, Try.ntmps22
  go_wp2_with fail
  refine (xtoGlyphS_any x1l x1A x1c _ (by omega) ?_).mono ?_
  · exact (Row.carry (w' := _) r_x1 (by repeat' (first | with_reducible assumption | with_reducible exact Below.refl _ _ | (with_reducible refine Below.setCell ?_ ?_ _) | (with_reducible refine Below.alloc ?_ ?_ _) | (with_reducible refine Below.drew ?_) | (with_reducible refine below_dr ?_ _) | (with_reducible refine Below.trans ?_ (Below.mono (by with_reducible assumption) ?_)) | omega | (simp; done) | (simp; omega))) (Nat.le_refl _)).more (by (try simp only [World.size_setCell]); (try simp only [World.size_drew]); (try simp only [World.size_alloc]); omega)
  intro e wZ0 hq
  obtain ⟨x1A', x1c', rfl, own_x1, hbwZ0⟩ := hq
  replace own_x1 := own_x1.down (lo' := w.heap.size + 1 + 1 + 1) (by (try simp only [World.size_setCell]); (try simp only [World.size_alloc]); omega)
  obtain ⟨hcwZ0, hfwZ0⟩ := bcell hbwZ0
  have hzwZ0 := hbwZ0.size
  (try simp only [World.size_setCell] at hcwZ0 hfwZ0 hzwZ0)
  (try simp only [World.size_drew] at hcwZ0 hfwZ0 hzwZ0)
  (try simp only [World.size_alloc] at hcwZ0 hfwZ0 hzwZ0)
  have qwZ00 : w.heap.size < wZ0.heap.size := by omega
  have qwZ01 : w.heap.size + 1 < wZ0.heap.size := by omega
  have qwZ02 : w.heap.size + 1 + 1 < wZ0.heap.size := by omega
  go_wp2_with fail
  refine bodyPost_ret (v := .agg #[.int .i64 x0, .slice x1A' x1l.length x1c']) (by simp [results, Try.results22, go_sem, *]) rfl ⟨_, _, rfl, ?_, ?_⟩
  · refine RowIn.wide (B := wZ0.heap.size) ?_ (by (try simp only [World.size_setCell]); (try simp only [World.size_drew]); (try simp only [World.size_alloc]); omega)
    refine RowIn.down (lo := w.heap.size + 1 + 1 + 1) ?_ (by omega)
    repeat (first | with_reducible exact own_x1 | (with_reducible refine RowIn.far ?_ (by simp only; omega) _) | (with_reducible refine RowIn.drew ?_) | (with_reducible refine RowIn.stays ?_ (by with_reducible assumption) (by (try simp only [World.size_setCell]); (try simp only [World.size_drew]); (try simp only [World.size_alloc]); omega)))
  · repeat' (first | with_reducible assumption | with_reducible exact Below.refl _ _ | (with_reducible refine Below.setCell ?_ ?_ _) | (with_reducible refine Below.alloc ?_ ?_ _) | (with_reducible refine Below.drew ?_) | (with_reducible refine below_dr ?_ _) | (with_reducible refine Below.trans ?_ (Below.mono (by with_reducible assumption) ?_)) | omega | (simp; done) | (simp; omega))
end Go.Proofs.Ytelefmogmloniaa
