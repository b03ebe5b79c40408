/- Lists of instructions that come in: opened to their cells; measured, copied and compared. -/
import Derived.Test.YtdikenapnncmfaaDoorAw
import Derived.OpenShut
import Derived.Carry
import Derived.Laws.MakeOwn
import Derived.Laws.OwnMore
namespace Go.Proofs.YtdikenapnncmfaaDoor
open Go.RowKit Go.ChangeShapes Go.WideShapes Go.Deep Go.Joins
set_option linter.unusedVariables false
abbrev AHint : Type := Int × Int
def cHint (a : AHint) : List Value := [.int .i64 a.1, .int .i64 a.2]
theorem cHint_len (a : AHint) : (cHint a).length = 2 := rfl
theorem cHint_one (a : AHint) : ∀ u ∈ cHint a, u.oneCell' = true := by
  intro u hu
  simp only [cHint, List.mem_cons, List.not_mem_nil, or_false] at hu
  rcases hu with rfl | rfl <;> rfl
def okHint (w : World) (B : Nat) (a : AHint) : Prop := (Lit.int .i64 a.1).wf = true ∧ (Lit.int .i64 a.2).wf = true
def totHint (l : List AHint) : Nat := (l.map fun a => 0).sum
theorem run_make_rowN {P : Program} (t e : TypeId) (i : TypeInfo) (z : Value) (ht : P.underlying t = some (.slice e)) (hi : P.info? e = some i) (hz : i.zero = some z)
    (kl kc : IntKind) (n c : Nat) (hnc : n ≤ c) (hbytes : i.bytes * c ≤ 281474976710656) (h63 : c ≤ 9223372036854775807) (w : World) :
    (Instr.makeSlice t (.int kl (n : Int)) (.int kc (c : Int))).run P w = .ok (.slice (some ⟨w.heap.size, 0, none⟩) n c) (w.alloc (.cells (madeCells z.cells (c * i.size)) e)) := by
  have hb : (i.bytes : Int) * (c : Int) ≤ 281474976710656 := by
    have h : ((i.bytes * c : Nat) : Int) ≤ 281474976710656 := by omega
    rwa [Int.natCast_mul] at h
  have hr := run_make (P := P) w t e i z ht hi hz kl kc n c (by omega) (by omega) hb (by omega)
  simp only [Int.toNat_natCast] at hr
  exact hr
theorem own_made (w : World) (base : Nat) (e : TypeId) (s n : Nat) (cs : Array Value) (hb : base ≤ w.heap.size) (hn : n ≤ maxLen) (hc : cs.size = n * s) :
    (w.alloc (.cells cs e)).ownsRow base e s (.slice (some ⟨w.heap.size, 0, none⟩) n n) n cs.toList :=
  ⟨by rw [Array.length_toList]; exact hc, .inr ⟨w.heap.size, n, cs, rfl, hb, heap_alloc_new w _, Nat.le_refl _, hn, hc, by rw [List.take_of_length_le (by rw [Array.length_toList]; omega)]⟩⟩
/-- The first k elements stand. -/
def Filled {α : Type} (f : α → List Value) (s : Nat) (l : List α) (k : Nat) (xs : List Value) : Prop := ∀ j a, j < k → l[j]? = some a → ∀ i, i < s → xs[j * s + i]? = (f a)[i]?
theorem Filled.zero {α : Type} {f : α → List Value} {s : Nat} {l : List α} {xs : List Value} : Filled f s l 0 xs := fun j a h => by omega
theorem Filled.done {α : Type} {f : α → List Value} {s : Nat} {l : List α} {xs : List Value} (hf : ∀ a, (f a).length = s) (hs : 0 < s) (h : Filled f s l l.length xs) (hl : xs.length = l.length * s) : xs = cellsF f l := by
  apply List.ext_getElem?
  intro j
  by_cases hj : j < l.length * s
  · have hdm := Nat.div_add_mod j s
    have hm := Nat.mod_lt j hs
    have hq : j / s < l.length := Nat.div_lt_of_lt_mul (by rw [Nat.mul_comm]; exact hj)
    have hjj : j = j / s * s + j % s := by rw [Nat.mul_comm]; omega
    have hget : l[j / s]? = some (l[j / s]'hq) := List.getElem?_eq_getElem hq
    rw [hjj, h _ _ hq hget _ hm, cellsF_at hf l _ _ hget _ hm]
  · rw [List.getElem?_eq_none (by omega), List.getElem?_eq_none (by rw [cellsF_len hf]; omega)]
theorem own_stays {W W' : World} {B e size n : Nat} {v : Value} {xs : List Value} (h : W.ownsRow B e size v n xs) (hb : Below W.heap.size W W') : W'.ownsRow B e size v n xs :=
  h.kept (row := none) ⟨hb.os, hb.tape, hb.output, hb.size, fun k hk _ => hb.block k hk⟩ (Classical.em _)
theorem own_drewN {W : World} {B e size n : Nat} {v : Value} {xs : List Value} (h : W.ownsRow B e size v n xs) (k : Nat) : (W.drewN k).ownsRow B e size v n xs := h
theorem own_drew {W : World} {B e size n : Nat} {v : Value} {xs : List Value} (h : W.ownsRow B e size v n xs) : W.drew.ownsRow B e size v n xs := h
theorem own_base {w : World} {base base' e s n : Nat} {v : Value} {xs : List Value} (h : w.ownsRow base' e s v n xs) (hb : base ≤ base') : w.ownsRow base e s v n xs := by
  obtain ⟨hl, h⟩ := h
  refine ⟨hl, ?_⟩
  rcases h with h | ⟨g, cap, cur, hv, hg, r⟩
  · exact .inl h
  · exact .inr ⟨g, cap, cur, hv, Nat.le_trans hb hg, r⟩
/-- A store below what is owned. -/
theorem own_far {w : World} {base b2 e s n : Nat} {v : Value} {xs : List Value} (h : w.ownsRow b2 e s v n xs) {p : Addr} (hp : p.block < b2) (hb : base ≤ b2) (u : Value) : (w.setCell p u).ownsRow base e s v n xs := by
  obtain ⟨hl, h⟩ := h
  refine ⟨hl, ?_⟩
  rcases h with h | ⟨g, cap, cur, hv, hg, hh, r⟩
  · exact .inl h
  · exact .inr ⟨g, cap, cur, hv, Nat.le_trans hb hg, (Below.heap_setCell w p u g (by omega)).trans hh, r⟩
theorem grownBy_of_below {w w' : World} (h : Below w.heap.size w w') (row : Option Nat) : w.grownBy w' row := ⟨h.os, h.tape, h.output, h.size, fun k hk _ => h.block k hk⟩
theorem grownBy_trans {w w1 w2 : World} {row : Option Nat} (h : w.grownBy w1 row) (k : w1.grownBy w2 row) : w.grownBy w2 row :=
  ⟨k.os.trans h.os, k.tape.trans h.tape, k.output.trans h.output, Nat.le_trans h.size k.size, fun i hi hr => (k.block i (Nat.lt_of_lt_of_le hi h.size) hr).trans (h.block i hi hr)⟩
/-- A slice of the call's own is handed back: it holds the list l. -/
def RowRet {α : Type} (f : α → List Value) (s : Nat) (t : TypeId) (l : List α) (w : World) (e : Ending) (w' : World) : Prop :=
  ∃ g, e = .returned (.slice (some ⟨g, 0, none⟩) l.length l.length) ∧ w'.ownsRow w.heap.size t s (.slice (some ⟨g, 0, none⟩) l.length l.length) l.length (cellsF f l) ∧ Below w.heap.size w w'
theorem Filled.step2 {α : Type} {f : α → List Value} {l : List α} {k : Nat} {xs : List Value} (h : Filled f 2 l k xs) {a : α} {u0 u1 : Value} (ha : l[k]? = some a) (hx : k * 2 + 2 ≤ xs.length) (hfa : f a = [u0, u1]) :
    Filled f 2 l (k + 1) ((xs.set (k * 2) u0).set (k * 2 + 1) u1) := by
  intro j b hj hb i hi
  rcases Nat.lt_or_ge j k with hlt | hge
  · rw [List.getElem?_set_ne (by omega), List.getElem?_set_ne (by omega)]
    exact h j b hlt hb i hi
  · obtain rfl : j = k := by omega
    obtain rfl : a = b := Option.some.inj (ha.symm.trans hb)
    rw [hfa]
    match i, hi with
    | 0, _ =>
      show ((xs.set (j * 2) u0).set (j * 2 + 1) u1)[j * 2]? = some u0
      rw [List.getElem?_set_ne (by omega), List.getElem?_set_self (by (try simp only [List.length_set]); omega)]
    | 1, _ =>
      show ((xs.set (j * 2) u0).set (j * 2 + 1) u1)[j * 2 + 1]? = some u1
      rw [List.getElem?_set_self (by (try simp only [List.length_set]); omega)]
theorem infoHint : (Tryd.prog.info? 68).map (fun i => (i.zero, i.size, i.bytes)) = some (some (.agg #[.int .i64 0, .int .i64 0]), 2, 16) := by kernel_rfl
set_option maxHeartbeats 800000 in
theorem eqHint_same (x0 : Int) (x1 : Int) (w : World) :
    Calls Tryd.prog 42 #[.agg #[.int .i64 x0, .int .i64 x1], .agg #[.int .i64 x0, .int .i64 x1]] w fun e w' => e = .returned (.bool true) ∧ Below w.heap.size w w' := by
  have d_x0 : (x0 != x0) = false := by simp
  have d_x1 : (x1 != x1) = false := by simp
  go_enter Tryd.func42, Tryd.ntmps42
  go_wp2_with fail
  go_ret
  exact ⟨rfl, by repeat' (first | with_reducible assumption | with_reducible exact Below.refl _ _ | (with_reducible refine Below.setCell ?_ ?_ _) | (with_reducible refine Below.alloc ?_ ?_ _) | (with_reducible refine Below.drew ?_) | (with_reducible refine below_dr ?_ _) | (with_reducible refine Below.trans ?_ (Below.mono (by with_reducible assumption) ?_)) | omega | (simp; done) | (simp; omega))⟩
set_option maxHeartbeats 1600000 in
theorem eqHintS_same (l : List AHint) (A A' : Option Addr) (c c' : Nat) (w : World) (hl : l.length ≤ 4611686018427387904) (hr : Rd cHint 2 w w.heap.size A l) (hr' : Rd cHint 2 w w.heap.size A' l) :
    Calls Tryd.prog 19 #[.slice A l.length c, .slice A' l.length c'] w fun e w' => e = .returned (.bool true) ∧ Below w.heap.size w w' := by
  obtain ⟨n, hn⟩ : ∃ n, n = l.length := ⟨_, rfl⟩
  rw [← hn] at hl ⊢
  have HN := Lib.hid hn
  clear hn
  have e0 : ((n : Int) != (n : Int)) = false := by simp
  go_enter Tryd.func19, Tryd.ntmps19
  go_wp2_with fail
  go_loopw [5] (fun i wr => ∃ k : Nat, k ≤ n ∧ i = .int .i64 k ∧ Below w.heap.size w wr) (fun i _ => n - (intOf i).toNat)
  case atStart => exact ⟨0, Nat.zero_le _, rfl, by repeat' (first | with_reducible assumption | with_reducible exact Below.refl _ _ | (with_reducible refine Below.setCell ?_ ?_ _) | (with_reducible refine Below.alloc ?_ ?_ _) | (with_reducible refine Below.drew ?_) | (with_reducible refine below_dr ?_ _) | (with_reducible refine Below.trans ?_ (Below.mono (by with_reducible assumption) ?_)) | omega | (simp; done) | (simp; omega))⟩
  case round =>
    obtain ⟨k, hk, rfl, hbl⟩ := hrel
    by_cases hlt : k < n
    · obtain ⟨⟨x0, x1⟩, ha⟩ : ∃ a, l[k]? = some a := ⟨l[k]'(by have := HN.out; omega), List.getElem?_eq_getElem (by have := HN.out; omega)⟩
      obtain ⟨g, o, rfl, hg, hcc⟩ := (hr.below hbl).elem ha
      have c0 : wr.cell? ⟨g, o + k * 2, none⟩ = some (.int .i64 x0) := hcc 0 _ rfl
      have c1 : wr.cell? ⟨g, o + k * 2 + 1, none⟩ = some (.int .i64 x1) := hcc 1 _ rfl
      clear hcc
      obtain ⟨g2, o2, rfl, hg2, hcd⟩ := (hr'.below hbl).elem ha
      have d0 : wr.cell? ⟨g2, o2 + k * 2, none⟩ = some (.int .i64 x0) := hcd 0 _ rfl
      have d1 : wr.cell? ⟨g2, o2 + k * 2 + 1, none⟩ = some (.int .i64 x1) := hcd 1 _ rfl
      clear hcd
      clear ha hr hr'
      have hzr := hbl.size
      have hki : (k : Int) < (n : Int) := by omega
      have hgw : g < wr.heap.size := by omega
      have hgw2 : g2 < wr.heap.size := by omega
      go_wp2_with fail
      go_region_held3 (fun w' => w'.cell? ⟨g, o + k * 2, none⟩ = some (.int .i64 x0) ∧ w'.cell? ⟨g, o + k * 2 + 1, none⟩ = some (.int .i64 x1) ∧ w'.cell? ⟨g2, o2 + k * 2, none⟩ = some (.int .i64 x0) ∧ w'.cell? ⟨g2, o2 + k * 2 + 1, none⟩ = some (.int .i64 x1) ∧ g < w'.heap.size ∧ g2 < w'.heap.size)
        (first | exact ⟨c0, c1, d0, d1, hgw, hgw2⟩ | assumption | fail)
        (first
          | (go_at_call 42; (with_reducible refine (eqHint_same x0 x1 _).mono ?_); rintro e wA ⟨rfl, hbA⟩; have hzA := hbA.size; (try simp only [World.size_drew] at hzA); have hS :  wA.cell? ⟨g, o + k * 2, none⟩ = some (.int .i64 x0) ∧ wA.cell? ⟨g, o + k * 2 + 1, none⟩ = some (.int .i64 x1) ∧ wA.cell? ⟨g2, o2 + k * 2, none⟩ = some (.int .i64 x0) ∧ wA.cell? ⟨g2, o2 + k * 2 + 1, none⟩ = some (.int .i64 x1) ∧ g < wA.heap.size ∧ g2 < wA.heap.size := ⟨(hbA.cell (p := ⟨g, _, none⟩) (by simp only [World.size_drew]; omega)).trans c0, (hbA.cell (p := ⟨g, _, none⟩) (by simp only [World.size_drew]; omega)).trans c1, (hbA.cell (p := ⟨g2, _, none⟩) (by simp only [World.size_drew]; omega)).trans d0, (hbA.cell (p := ⟨g2, _, none⟩) (by simp only [World.size_drew]; omega)).trans d1, by omega, by omega⟩))
      all_goals
        go_wp2_with fail
        go_roundw
        case rel => exact ⟨k + 1, by omega, by go_num, by repeat' (first | with_reducible assumption | with_reducible exact Below.refl _ _ | (with_reducible refine Below.setCell ?_ ?_ _) | (with_reducible refine Below.alloc ?_ ?_ _) | (with_reducible refine Below.drew ?_) | (with_reducible refine below_dr ?_ _) | (with_reducible refine Below.trans ?_ (Below.mono (by with_reducible assumption) ?_)) | omega | (simp; done) | (simp; omega))⟩
        case measure => simp [intOf]; omega
    · go_wp2_with fail
      go_ret
      exact ⟨rfl, hbl⟩
end Go.Proofs.YtdikenapnncmfaaDoor
