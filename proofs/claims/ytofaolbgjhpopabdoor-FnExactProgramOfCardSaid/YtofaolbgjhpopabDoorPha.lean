/- Lists of instructions that come in: opened to their cells; measured, copied and compared. -/
import Derived.Test.YtofaolbgjhpopabDoorAw
import Derived.OpenShut
import Derived.Carry
import Derived.Laws.MakeOwn
import Derived.Laws.OwnMore
namespace Go.Proofs.YtofaolbgjhpopabDoor
open Go.RowKit Go.ChangeShapes Go.WideShapes Go.Deep Go.Joins
set_option linter.unusedVariables false
abbrev AHint : Type := Int × Int
def cHint (a : AHint) : List Value := [.int .i64 a.1, .int .i64 a.2]
theorem cHint_len (a : AHint) : (cHint a).length = 2 := rfl
theorem cHint_one (a : AHint) : ∀ u ∈ cHint a, u.oneCell' = true := by
  intro u hu
  simp only [cHint, List.mem_cons, List.not_mem_nil, or_false] at hu
  rcases hu with rfl | rfl <;> rfl
def okHint (w : World) (B : Nat) (a : AHint) : Prop := (Lit.int .i64 a.1).wf = true ∧ (Lit.int .i64 a.2).wf = true
theorem open_HintS {H : Type} {enc : TypeId × Value → H} {w : World} {base : Nat} {spare : Nat → Bool} {held : Bool} {fuel : Nat} {cs : List Value} {x : DataW H × List MemPlace} (h : DataW.trod enc Tryd.prog w base spare held fuel (23 : Nat) cs = some x) :
    ∃ (A : Option Addr) (n c : Nat) (l : List AHint), cs = [.slice A n c] ∧ l.length = n ∧ n ≤ c ∧ c ≤ maxLen ∧ Rd cHint 2 w w.heap.size A l ∧ ∀ (i : Nat) (a : AHint), l[i]? = some a → okHint w w.heap.size a := by
  obtain ⟨A, n, c, hcs, hnc, hcm, hr⟩ := open_rows Tryd.underlying23 (k := 2) (by kernel_rfl) (by omega) h
  refine ⟨A, n, c, ?_⟩
  rcases hr with h0 | ⟨g, o, hA, hg, hel⟩
  · subst h0; exact ⟨[], hcs, rfl, hnc, hcm, Rd.nil_, fun i a h => by simp at h⟩
  · have hall : ∀ i, i < n → ∃ a : AHint, (∀ j u, (cHint a)[j]? = some u → w.cell? ⟨g, o + i * 2 + j, none⟩ = some u) ∧ okHint w w.heap.size a := by
      intro i hi
      obtain ⟨es, m, y, hes, hcell, ht⟩ := hel i hi
      match es, hes with
      | [c0, c1], _ =>
        obtain ⟨n_ht_0, y_ht_0, ht_0⟩ := trod_field Tryd.underlying38 ht 0 _ rfl (k := 1) (by kernel_rfl); replace ht_0 : DataW.trod enc Tryd.prog _ _ _ _ n_ht_0 (2 : Nat) [c0] = some y_ht_0 := ht_0
        obtain ⟨c0', e_c0, -, w_c0⟩ := DataW.trod_int Tryd.underlying2 ht_0; obtain rfl := (List.cons.inj e_c0).1
        obtain ⟨n_ht_1, y_ht_1, ht_1⟩ := trod_field Tryd.underlying38 ht 1 _ rfl (k := 1) (by kernel_rfl); replace ht_1 : DataW.trod enc Tryd.prog _ _ _ _ n_ht_1 (2 : Nat) [c1] = some y_ht_1 := ht_1
        obtain ⟨c1', e_c1, -, w_c1⟩ := DataW.trod_int Tryd.underlying2 ht_1; obtain rfl := (List.cons.inj e_c1).1
        exact ⟨(c0', c1'), hcell, ⟨w_c0, w_c1⟩⟩
    obtain ⟨l, hl, hp⟩ := list_of hall
    exact ⟨l, hcs, hl, hnc, hcm, .inr ⟨g, o, hA, hg, fun k a hk => (hp k a hk).1⟩, fun i a hi => (hp i a hi).2⟩
def totHint (l : List AHint) : Nat := (l.map fun a => 0).sum
theorem szHintS_yes (l : List AHint) (A : Option Addr) (c : Nat) (left : Int) (w : World) (h0 : 0 ≤ left) (h1 : left ≤ 1048576) (hm : l.length ≤ 9223372036854775807) (h : (l.length : Int) ≤ left) :
    Calls Tryd.prog 8 #[.slice A l.length c, .int .i64 left] w fun e w' => e = .returned (.int .i64 (left - l.length)) ∧ Below w.heap.size w w' := by
  go_enter Tryd.func8, Tryd.ntmps8
  go_wp2
  go_ret
  exact ⟨rfl, by repeat' (first | with_reducible assumption | with_reducible exact Below.refl _ _ | (with_reducible refine Below.setCell ?_ ?_ _) | (with_reducible refine Below.alloc ?_ ?_ _) | (with_reducible refine Below.drew ?_) | (with_reducible refine below_dr ?_ _) | (with_reducible refine Below.trans ?_ (Below.mono (by with_reducible assumption) ?_)) | omega | (simp; done) | (simp; omega))⟩
theorem szHintS_no (l : List AHint) (A : Option Addr) (c : Nat) (left : Int) (w : World) (h0 : 0 ≤ left) (h1 : left ≤ 1048576) (hm : l.length ≤ 9223372036854775807) (h : left < (l.length : Int)) :
    Calls Tryd.prog 8 #[.slice A l.length c, .int .i64 left] w fun e w' => e = .returned (.int .i64 (-1)) ∧ Below w.heap.size w w' := by
  go_enter Tryd.func8, Tryd.ntmps8
  go_wp2
  go_ret
  exact ⟨rfl, by repeat' (first | with_reducible assumption | with_reducible exact Below.refl _ _ | (with_reducible refine Below.setCell ?_ ?_ _) | (with_reducible refine Below.alloc ?_ ?_ _) | (with_reducible refine Below.drew ?_) | (with_reducible refine below_dr ?_ _) | (with_reducible refine Below.trans ?_ (Below.mono (by with_reducible assumption) ?_)) | omega | (simp; done) | (simp; omega))⟩
theorem run_make_rowN {P : Program} (t e : TypeId) (i : TypeInfo) (z : Value) (ht : P.underlying t = some (.slice e)) (hi : P.info? e = some i) (hz : i.zero = some z)
    (kl kc : IntKind) (n c : Nat) (hnc : n ≤ c) (hbytes : i.bytes * c ≤ 281474976710656) (h63 : c ≤ 9223372036854775807) (w : World) :
    (Instr.makeSlice t (.int kl (n : Int)) (.int kc (c : Int))).run P w = .ok (.slice (some ⟨w.heap.size, 0, none⟩) n c) (w.alloc (.cells (madeCells z.cells (c * i.size)) e)) := by
  have hb : (i.bytes : Int) * (c : Int) ≤ 281474976710656 := by
    have h : ((i.bytes * c : Nat) : Int) ≤ 281474976710656 := by omega
    rwa [Int.natCast_mul] at h
  have hr := run_make (P := P) w t e i z ht hi hz kl kc n c (by omega) (by omega) hb (by omega)
  simp only [Int.toNat_natCast] at hr
  exact hr
theorem own_made (w : World) (base : Nat) (e : TypeId) (s n : Nat) (cs : Array Value) (hb : base ≤ w.heap.size) (hn : n ≤ maxLen) (hc : cs.size = n * s) :
    (w.alloc (.cells cs e)).ownsRow base e s (.slice (some ⟨w.heap.size, 0, none⟩) n n) n cs.toList :=
  ⟨by rw [Array.length_toList]; exact hc, .inr ⟨w.heap.size, n, cs, rfl, hb, heap_alloc_new w _, Nat.le_refl _, hn, hc, by rw [List.take_of_length_le (by rw [Array.length_toList]; omega)]⟩⟩
/-- The first k elements stand. -/
def Filled {α : Type} (f : α → List Value) (s : Nat) (l : List α) (k : Nat) (xs : List Value) : Prop := ∀ j a, j < k → l[j]? = some a → ∀ i, i < s → xs[j * s + i]? = (f a)[i]?
theorem Filled.zero {α : Type} {f : α → List Value} {s : Nat} {l : List α} {xs : List Value} : Filled f s l 0 xs := fun j a h => by omega
theorem Filled.done {α : Type} {f : α → List Value} {s : Nat} {l : List α} {xs : List Value} (hf : ∀ a, (f a).length = s) (hs : 0 < s) (h : Filled f s l l.length xs) (hl : xs.length = l.length * s) : xs = cellsF f l := by
  apply List.ext_getElem?
  intro j
  by_cases hj : j < l.length * s
  · have hdm := Nat.div_add_mod j s
    have hm := Nat.mod_lt j hs
    have hq : j / s < l.length := Nat.div_lt_of_lt_mul (by rw [Nat.mul_comm]; exact hj)
    have hjj : j = j / s * s + j % s := by rw [Nat.mul_comm]; omega
    have hget : l[j / s]? = some (l[j / s]'hq) := List.getElem?_eq_getElem hq
    rw [hjj, h _ _ hq hget _ hm, cellsF_at hf l _ _ hget _ hm]
  · rw [List.getElem?_eq_none (by omega), List.getElem?_eq_none (by rw [cellsF_len hf]; omega)]
theorem own_stays {W W' : World} {B e size n : Nat} {v : Value} {xs : List Value} (h : W.ownsRow B e size v n xs) (hb : Below W.heap.size W W') : W'.ownsRow B e size v n xs :=
  h.kept (row := none) ⟨hb.os, hb.tape, hb.output, hb.size, fun k hk _ => hb.block k hk⟩ (Classical.em _)
theorem own_drewN {W : World} {B e size n : Nat} {v : Value} {xs : List Value} (h : W.ownsRow B e size v n xs) (k : Nat) : (W.drewN k).ownsRow B e size v n xs := h
theorem own_drew {W : World} {B e size n : Nat} {v : Value} {xs : List Value} (h : W.ownsRow B e size v n xs) : W.drew.ownsRow B e size v n xs := h
theorem own_base {w : World} {base base' e s n : Nat} {v : Value} {xs : List Value} (h : w.ownsRow base' e s v n xs) (hb : base ≤ base') : w.ownsRow base e s v n xs := by
  obtain ⟨hl, h⟩ := h
  refine ⟨hl, ?_⟩
  rcases h with h | ⟨g, cap, cur, hv, hg, r⟩
  · exact .inl h
  · exact .inr ⟨g, cap, cur, hv, Nat.le_trans hb hg, r⟩
/-- A store below what is owned. -/
theorem own_far {w : World} {base b2 e s n : Nat} {v : Value} {xs : List Value} (h : w.ownsRow b2 e s v n xs) {p : Addr} (hp : p.block < b2) (hb : base ≤ b2) (u : Value) : (w.setCell p u).ownsRow base e s v n xs := by
  obtain ⟨hl, h⟩ := h
  refine ⟨hl, ?_⟩
  rcases h with h | ⟨g, cap, cur, hv, hg, hh, r⟩
  · exact .inl h
  · exact .inr ⟨g, cap, cur, hv, Nat.le_trans hb hg, (Below.heap_setCell w p u g (by omega)).trans hh, r⟩
theorem grownBy_of_below {w w' : World} (h : Below w.heap.size w w') (row : Option Nat) : w.grownBy w' row := ⟨h.os, h.tape, h.output, h.size, fun k hk _ => h.block k hk⟩
theorem grownBy_trans {w w1 w2 : World} {row : Option Nat} (h : w.grownBy w1 row) (k : w1.grownBy w2 row) : w.grownBy w2 row :=
  ⟨k.os.trans h.os, k.tape.trans h.tape, k.output.trans h.output, Nat.le_trans h.size k.size, fun i hi hr => (k.block i (Nat.lt_of_lt_of_le hi h.size) hr).trans (h.block i hi hr)⟩
/-- A slice of the call's own is handed back: it holds the list l. -/
def RowRet {α : Type} (f : α → List Value) (s : Nat) (t : TypeId) (l : List α) (w : World) (e : Ending) (w' : World) : Prop :=
  ∃ g, e = .returned (.slice (some ⟨g, 0, none⟩) l.length l.length) ∧ w'.ownsRow w.heap.size t s (.slice (some ⟨g, 0, none⟩) l.length l.length) l.length (cellsF f l) ∧ Below w.heap.size w w'
theorem Filled.step2 {α : Type} {f : α → List Value} {l : List α} {k : Nat} {xs : List Value} (h : Filled f 2 l k xs) {a : α} {u0 u1 : Value} (ha : l[k]? = some a) (hx : k * 2 + 2 ≤ xs.length) (hfa : f a = [u0, u1]) :
    Filled f 2 l (k + 1) ((xs.set (k * 2) u0).set (k * 2 + 1) u1) := by
  intro j b hj hb i hi
  rcases Nat.lt_or_ge j k with hlt | hge
  · rw [List.getElem?_set_ne (by omega), List.getElem?_set_ne (by omega)]
    exact h j b hlt hb i hi
  · obtain rfl : j = k := by omega
    obtain rfl : a = b := Option.some.inj (ha.symm.trans hb)
    rw [hfa]
    match i, hi with
    | 0, _ =>
      show ((xs.set (j * 2) u0).set (j * 2 + 1) u1)[j * 2]? = some u0
      rw [List.getElem?_set_ne (by omega), List.getElem?_set_self (by (try simp only [List.length_set]); omega)]
    | 1, _ =>
      show ((xs.set (j * 2) u0).set (j * 2 + 1) u1)[j * 2 + 1]? = some u1
      rw [List.getElem?_set_self (by (try simp only [List.length_set]); omega)]
set_option maxHeartbeats 800000 in
theorem toHint_any (x0 : Int) (x1 : Int) (w : World) :
    Calls Tryd.prog 18 #[.agg #[.int .i64 x0, .int .i64 x1]] w fun e w' => e = .returned (.agg #[.int .i64 x0, .int .i64 x1]) ∧ Below w.heap.size w w' := by
  go_enter Tryd.func18, Tryd.ntmps18
  go_wp2_with fail
  refine bodyPost_ret (v := .agg #[.int .i64 x0, .int .i64 x1]) (by simp [results, Tryd.results18, go_sem, *]) rfl ⟨rfl, ?_⟩
  repeat' (first | with_reducible assumption | with_reducible exact Below.refl _ _ | (with_reducible refine Below.setCell ?_ ?_ _) | (with_reducible refine Below.alloc ?_ ?_ _) | (with_reducible refine Below.drew ?_) | (with_reducible refine below_dr ?_ _) | (with_reducible refine Below.trans ?_ (Below.mono (by with_reducible assumption) ?_)) | omega | (simp; done) | (simp; omega))
theorem infoHint : (Tryd.prog.info? 36).map (fun i => (i.zero, i.size, i.bytes)) = some (some (.agg #[.int .i64 0, .int .i64 0]), 2, 16) := by kernel_rfl
set_option maxHeartbeats 1600000 in
theorem toHintS_any (l : List AHint) (A : Option Addr) (c : Nat) (w : World) (hl : l.length ≤ 1048576) (hr : Rd cHint 2 w w.heap.size A l) :
    Calls Tryd.prog 10 #[.slice A l.length c] w (RowRet cHint 2 36 l w) := by
  obtain ⟨i0, hi0, hz0, hz1, hz2⟩ := info_parts infoHint
  obtain ⟨n, hn⟩ : ∃ n, n = l.length := ⟨_, rfl⟩
  rw [← hn] at hl
  have hmk := fun W => run_make_rowN (P := Tryd.prog) 27 36 i0 _ Tryd.underlying27 hi0 hz0 .i64 .i64 n n (Nat.le_refl _) (by rw [hz2]; omega) (by omega) W
  rw [hz1] at hmk
  have hsz : ∀ W : World, (madeCells (Value.cells (.agg #[.int .i64 0, .int .i64 0])) (n * 2)).size = n * 2 := fun _ => size_madeCells _ _
  generalize hZ : madeCells (Value.cells (.agg #[.int .i64 0, .int .i64 0])) (n * 2) = Z at hmk hsz
  have HZ := Lib.hid hZ
  have hszZ := Lib.hid (hsz w)
  clear hZ hsz hi0 hz0 hz1 hz2
  unfold RowRet
  rw [← hn]
  have HN := Lib.hid hn
  clear hn
  go_enter Tryd.func10, Tryd.ntmps10
  go_wp2_with fail
  clear hmk
  have hown0 := own_made w w.heap.size 36 2 n Z (Nat.le_refl _) (by unfold maxLen; omega) hszZ.out
  have hb0 : Below w.heap.size w (w.alloc (.cells Z 36)) := by repeat' (first | with_reducible assumption | with_reducible exact Below.refl _ _ | (with_reducible refine Below.setCell ?_ ?_ _) | (with_reducible refine Below.alloc ?_ ?_ _) | (with_reducible refine Below.drew ?_) | (with_reducible refine below_dr ?_ _) | (with_reducible refine Below.trans ?_ (Below.mono (by with_reducible assumption) ?_)) | omega | (simp; done) | (simp; omega))
  have hz00 : w.heap.size < (w.alloc (.cells Z 36)).heap.size := by simp
  generalize w.alloc (.cells Z 36) = W0 at hown0 hb0 hz00 ⊢
  go_loopw [4] (fun i wr => ∃ (k : Nat) (xs : List Value), k ≤ n ∧ i = .int .i64 k ∧ wr.ownsRow w.heap.size 36 2 (.slice (some ⟨w.heap.size, 0, none⟩) n n) n xs ∧ Filled cHint 2 l k xs ∧ Below w.heap.size w wr ∧ w.heap.size < wr.heap.size) (fun i _ => n - (intOf i).toNat)
  case atStart => exact ⟨0, _, Nat.zero_le _, rfl, hown0, Filled.zero, hb0, hz00⟩
  case round =>
    obtain ⟨k, xs, hk, rfl, hown, hfil, hbl, hzr⟩ := hrel
    have hxl : xs.length = n * 2 := hown.1
    have HX := Lib.hid hxl
    clear hxl
    by_cases hlt : k < n
    · obtain ⟨⟨x0, x1⟩, ha⟩ : ∃ a, l[k]? = some a := ⟨l[k]'(by have := HN.out; omega), List.getElem?_eq_getElem (by have := HN.out; omega)⟩
      obtain ⟨g, o, rfl, hg, hcc⟩ := (hr.below hbl).elem ha
      have c0 : wr.cell? ⟨g, o + k * 2, none⟩ = some (.int .i64 x0) := hcc 0 _ rfl
      have c1 : wr.cell? ⟨g, o + k * 2 + 1, none⟩ = some (.int .i64 x1) := hcc 1 _ rfl
      clear hcc
      have hstep := Lib.hid (fun h => Filled.step2 hfil ha h ((rfl : cHint _ = _)))
      have hki : (k : Int) < (n : Int) := by omega
      clear ha hfil
      go_wp2_with fail
      refine (toHint_any x0 x1 _).mono ?_
      rintro e wA ⟨rfl, hbA⟩
      have hownA := own_stays hown hbA
      have hzA := hbA.size
      obtain ⟨yo0, y0⟩ : ∃ v, wA.cell? ⟨w.heap.size, k * 2, none⟩ = some v := ⟨_, (hownA.cellAt (k * 2) (by have := HX.out; omega)).trans (List.getElem?_eq_getElem (by have := HX.out; omega))⟩
      have yf0 : wA.frozen? ⟨w.heap.size, k * 2, none⟩ = false := hownA.frozenAt (k * 2)
      obtain ⟨yo1, y1⟩ : ∃ v, wA.cell? ⟨w.heap.size, k * 2 + 1, none⟩ = some v := ⟨_, (hownA.cellAt (k * 2 + 1) (by have := HX.out; omega)).trans (List.getElem?_eq_getElem (by have := HX.out; omega))⟩
      have yf1 : wA.frozen? ⟨w.heap.size, k * 2 + 1, none⟩ = false := hownA.frozenAt (k * 2 + 1)
      clear hown
      go_wp2_with fail
      go_roundw
      case rel =>
        have hst0 := World.ownsRow.stored (hownA) (k * 2) (.int .i64 x0)
        have hst1 := World.ownsRow.stored (hst0.1) (k * 2 + 1) (.int .i64 x1)
        exact ⟨k + 1, _, by omega, by go_num, hst1.1, hstep.out (by have := HX.out; omega), by repeat' (first | with_reducible assumption | with_reducible exact Below.refl _ _ | (with_reducible refine Below.setCell ?_ ?_ _) | (with_reducible refine Below.alloc ?_ ?_ _) | (with_reducible refine Below.drew ?_) | (with_reducible refine below_dr ?_ _) | (with_reducible refine Below.trans ?_ (Below.mono (by with_reducible assumption) ?_)) | omega | (simp; done) | (simp; omega)), by first | omega | (simp; omega)⟩
      case measure => simp [intOf]; omega
    · obtain rfl : k = n := by omega
      go_wp2_with fail
      go_ret
      refine ⟨w.heap.size, rfl, ?_, hbl⟩
      have hx := Filled.done (fun a => cHint_len a) (by omega) (HN.out ▸ hfil) (HN.out ▸ HX.out)
      rw [hx] at hown
      exact hown
set_option maxHeartbeats 800000 in
theorem eqHint_same (x0 : Int) (x1 : Int) (w : World) :
    Calls Tryd.prog 21 #[.agg #[.int .i64 x0, .int .i64 x1], .agg #[.int .i64 x0, .int .i64 x1]] w fun e w' => e = .returned (.bool true) ∧ Below w.heap.size w w' := by
  have d_x0 : (x0 != x0) = false := by simp
  have d_x1 : (x1 != x1) = false := by simp
  go_enter Tryd.func21, Tryd.ntmps21
  go_wp2_with fail
  go_ret
  exact ⟨rfl, by repeat' (first | with_reducible assumption | with_reducible exact Below.refl _ _ | (with_reducible refine Below.setCell ?_ ?_ _) | (with_reducible refine Below.alloc ?_ ?_ _) | (with_reducible refine Below.drew ?_) | (with_reducible refine below_dr ?_ _) | (with_reducible refine Below.trans ?_ (Below.mono (by with_reducible assumption) ?_)) | omega | (simp; done) | (simp; omega))⟩
set_option maxHeartbeats 1600000 in
theorem eqHintS_same (l : List AHint) (A A' : Option Addr) (c c' : Nat) (w : World) (hl : l.length ≤ 4611686018427387904) (hr : Rd cHint 2 w w.heap.size A l) (hr' : Rd cHint 2 w w.heap.size A' l) :
    Calls Tryd.prog 12 #[.slice A l.length c, .slice A' l.length c'] w fun e w' => e = .returned (.bool true) ∧ Below w.heap.size w w' := by
  obtain ⟨n, hn⟩ : ∃ n, n = l.length := ⟨_, rfl⟩
  rw [← hn] at hl ⊢
  have HN := Lib.hid hn
  clear hn
  have e0 : ((n : Int) != (n : Int)) = false := by simp
  go_enter Tryd.func12, Tryd.ntmps12
  go_wp2_with fail
  go_loopw [5] (fun i wr => ∃ k : Nat, k ≤ n ∧ i = .int .i64 k ∧ Below w.heap.size w wr) (fun i _ => n - (intOf i).toNat)
  case atStart => exact ⟨0, Nat.zero_le _, rfl, by repeat' (first | with_reducible assumption | with_reducible exact Below.refl _ _ | (with_reducible refine Below.setCell ?_ ?_ _) | (with_reducible refine Below.alloc ?_ ?_ _) | (with_reducible refine Below.drew ?_) | (with_reducible refine below_dr ?_ _) | (with_reducible refine Below.trans ?_ (Below.mono (by with_reducible assumption) ?_)) | omega | (simp; done) | (simp; omega))⟩
  case round =>
    obtain ⟨k, hk, rfl, hbl⟩ := hrel
    by_cases hlt : k < n
    · obtain ⟨⟨x0, x1⟩, ha⟩ : ∃ a, l[k]? = some a := ⟨l[k]'(by have := HN.out; omega), List.getElem?_eq_getElem (by have := HN.out; omega)⟩
      obtain ⟨g, o, rfl, hg, hcc⟩ := (hr.below hbl).elem ha
      have c0 : wr.cell? ⟨g, o + k * 2, none⟩ = some (.int .i64 x0) := hcc 0 _ rfl
      have c1 : wr.cell? ⟨g, o + k * 2 + 1, none⟩ = some (.int .i64 x1) := hcc 1 _ rfl
      clear hcc
      obtain ⟨g2, o2, rfl, hg2, hcd⟩ := (hr'.below hbl).elem ha
      have d0 : wr.cell? ⟨g2, o2 + k * 2, none⟩ = some (.int .i64 x0) := hcd 0 _ rfl
      have d1 : wr.cell? ⟨g2, o2 + k * 2 + 1, none⟩ = some (.int .i64 x1) := hcd 1 _ rfl
      clear hcd
      clear ha hr hr'
      have hzr := hbl.size
      have hki : (k : Int) < (n : Int) := by omega
      have hgw : g < wr.heap.size := by omega
      have hgw2 : g2 < wr.heap.size := by omega
      go_wp2_with fail
      go_region_held3 (fun w' => w'.cell? ⟨g, o + k * 2, none⟩ = some (.int .i64 x0) ∧ w'.cell? ⟨g, o + k * 2 + 1, none⟩ = some (.int .i64 x1) ∧ w'.cell? ⟨g2, o2 + k * 2, none⟩ = some (.int .i64 x0) ∧ w'.cell? ⟨g2, o2 + k * 2 + 1, none⟩ = some (.int .i64 x1) ∧ g < w'.heap.size ∧ g2 < w'.heap.size)
        (first | exact ⟨c0, c1, d0, d1, hgw, hgw2⟩ | assumption | fail)
        (first
          | (go_at_call 21; (with_reducible refine (eqHint_same x0 x1 _).mono ?_); rintro e wA ⟨rfl, hbA⟩; have hzA := hbA.size; (try simp only [World.size_drew] at hzA); have hS :  wA.cell? ⟨g, o + k * 2, none⟩ = some (.int .i64 x0) ∧ wA.cell? ⟨g, o + k * 2 + 1, none⟩ = some (.int .i64 x1) ∧ wA.cell? ⟨g2, o2 + k * 2, none⟩ = some (.int .i64 x0) ∧ wA.cell? ⟨g2, o2 + k * 2 + 1, none⟩ = some (.int .i64 x1) ∧ g < wA.heap.size ∧ g2 < wA.heap.size := ⟨(hbA.cell (p := ⟨g, _, none⟩) (by simp only [World.size_drew]; omega)).trans c0, (hbA.cell (p := ⟨g, _, none⟩) (by simp only [World.size_drew]; omega)).trans c1, (hbA.cell (p := ⟨g2, _, none⟩) (by simp only [World.size_drew]; omega)).trans d0, (hbA.cell (p := ⟨g2, _, none⟩) (by simp only [World.size_drew]; omega)).trans d1, by omega, by omega⟩))
      all_goals
        go_wp2_with fail
        go_roundw
        case rel => exact ⟨k + 1, by omega, by go_num, by repeat' (first | with_reducible assumption | with_reducible exact Below.refl _ _ | (with_reducible refine Below.setCell ?_ ?_ _) | (with_reducible refine Below.alloc ?_ ?_ _) | (with_reducible refine Below.drew ?_) | (with_reducible refine below_dr ?_ _) | (with_reducible refine Below.trans ?_ (Below.mono (by with_reducible assumption) ?_)) | omega | (simp; done) | (simp; omega))⟩
        case measure => simp [intOf]; omega
    · go_wp2_with fail
      go_ret
      exact ⟨rfl, hbl⟩
set_option maxRecDepth 100000 in
theorem open_rowHint {H : Type} {enc : TypeId × Value → H} {w : World} {r : Reach} {base b0 : Nat} {spare : Nat → Bool} {held : Bool} {v : Value} {d : DataW H} {p : List MemPlace} (hv : Value.okWide Tryd.prog w r b0 (23 : Nat) v) (h : DataW.Trod enc Tryd.prog w base spare held (23 : Nat) v d p) :
    ∃ (l : List AHint) (A : Option Addr) (c : Nat), v = .slice A l.length c ∧ l.length ≤ c ∧ c ≤ maxLen ∧ Rd cHint 2 w w.heap.size A l := by
  obtain ⟨a, n, c, rfl⟩ := okWide_slice Tryd.underlying23 hv
  obtain ⟨fuel, hf⟩ := h
  obtain ⟨A, n', c', l, hcs, hl, hnc, hcm, hr, -⟩ := open_HintS hf
  simp [Value.cells] at hcs
  obtain ⟨rfl, rfl, rfl⟩ := hcs
  exact ⟨l, a, c, by rw [hl], by omega, hcm, hr⟩
end Go.Proofs.YtofaolbgjhpopabDoor
