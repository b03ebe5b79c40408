/- Walks: numbers and points of a statement, the program's side; small words of the reference. -/
import Derived.Test.YtjpadamlfhceaaaHv1
namespace Go.Proofs.Ytjpadamlfhceaaa
open Go.RowKit
set_option linter.unusedVariables false
def numB (x : DInt64) : Bool := decide (-1000000000 ≤ (x : Int)) && decide ((x : Int) ≤ 1000000000)
def ptB (s : DString) : Bool := fnB s && decide ((s.size : Int) ≤ 10)
def inB (x lo hi : Int) : Bool := decide (lo ≤ x) && decide (x ≤ hi)
def allUp {α : Type} (f : α → Bool) (l : List α) (k : Nat) : Bool := (l.take k).all f
section
variable {α : Type} {f : α → Bool} {l : List α} {k : Nat} {a : α}
theorem allUp_succ (h : allUp f l k = true) (ha : l[k]? = some a) (e : f a = true) : allUp f l (k + 1) = true := by
  unfold allUp at *
  rw [List.take_add_one, ha, List.all_append, h]
  simp [e]
theorem allUp_no (ha : l[k]? = some a) (e : f a = false) : l.all f = false := by
  rw [List.all_eq_false]
  exact ⟨a, List.mem_of_getElem? ha, by simp [e]⟩
theorem allUp_yes (h : allUp f l l.length = true) : l.all f = true := by
  unfold allUp at h; rw [List.take_length] at h; exact h
end
set_option maxHeartbeats 1600000 in
theorem l00In_any (x lo hi : Int) (w : World) : Calls Try.prog 30 #[.int .i64 x, .int .i64 lo, .int .i64 hi] w fun e w' => e = .returned (.bool (inB x lo hi)) ∧ Below w.heap.size w w' := by
  unfold inB
  by_cases h1 : lo ≤ x
  case pos =>
    have e1 : decide (lo ≤ x) = true := decide_eq_true h1
    have e1' : decide (x ≥ lo) = true := decide_eq_true h1
    rw [e1]
    clear h1
    go_enter Try.func30, Try.ntmps30
    go_wp2_with fail
    go_ret
    exact ⟨ret_bool (by simp), by repeat' (first | with_reducible assumption | with_reducible exact Below.refl _ _ | (with_reducible refine Below.setCell ?_ ?_ _) | (with_reducible refine Below.alloc ?_ ?_ _) | (with_reducible refine Below.drew ?_) | (with_reducible refine below_dr ?_ _) | (with_reducible refine Below.trans ?_ (Below.mono (by with_reducible assumption) ?_)) | omega | (simp; done) | (simp; omega))⟩
  case neg =>
    have e1 : decide (lo ≤ x) = false := decide_eq_false h1
    have e1' : decide (x ≥ lo) = false := decide_eq_false h1
    rw [e1]
    clear h1
    go_enter Try.func30, Try.ntmps30
    go_wp2_with fail
    go_ret
    exact ⟨ret_bool (by simp), by repeat' (first | with_reducible assumption | with_reducible exact Below.refl _ _ | (with_reducible refine Below.setCell ?_ ?_ _) | (with_reducible refine Below.alloc ?_ ?_ _) | (with_reducible refine Below.drew ?_) | (with_reducible refine below_dr ?_ _) | (with_reducible refine Below.trans ?_ (Below.mono (by with_reducible assumption) ?_)) | omega | (simp; done) | (simp; omega))⟩
set_option maxHeartbeats 3200000 in
theorem hasNumbers_any (a0 : Int) (a1 : ByteArray) (a2 : ByteArray) (a3 : Int) (a4 : Int) (a5A : Option Addr) (a5c : Nat) (a5l : List DTerm) (a6 : Int) (a7 : Int) (a8A : Option Addr) (a8c : Nat) (a8l : List DTerm) (a9A : Option Addr) (a9c : Nat) (a9l : List DString) (a10A : Option Addr) (a10c : Nat) (a10l : List DInt64) (a11 : Bool) (a12 : Bool) (lo hi : Int) (w : World) (hl : a10l.length ≤ 1048576) (r : Row RvInt64 1 w w.heap.size a10A a10l) : Calls Try.prog 20 #[.agg #[.int .i64 a0, .string a1, .string a2, .int .i64 a3, .int .i64 a4, .slice a5A a5l.length a5c, .int .i64 a6, .int .i64 a7, .slice a8A a8l.length a8c, .slice a9A a9l.length a9c, .slice a10A a10l.length a10c, .bool a11, .bool a12], .int .i64 lo, .int .i64 hi] w fun e w' => e = .returned (.bool (inB a10l.length lo hi && a10l.all numB)) ∧ Below w.heap.size w w' := by
  unfold inB
  obtain ⟨n0, hn0⟩ : ∃ n0, n0 = a10l.length := ⟨_, rfl⟩
  rw [← hn0] at hl ⊢
  have HN := Lib.hid hn0
  clear hn0
  by_cases h1 : (n0 : Int) < lo
  case pos =>
    have e1 : decide ((n0 : Int) < lo) = true := decide_eq_true h1
    have H := Lib.hid (show decide (lo ≤ (n0 : Int)) = false from decide_eq_false (by omega))
    clear h1
    go_enter Try.func20, Try.ntmps20
    go_wp2_with fail
    go_ret
    exact ⟨ret_bool (by rw [H.out]; simp), by repeat' (first | with_reducible assumption | with_reducible exact Below.refl _ _ | (with_reducible refine Below.setCell ?_ ?_ _) | (with_reducible refine Below.alloc ?_ ?_ _) | (with_reducible refine Below.drew ?_) | (with_reducible refine below_dr ?_ _) | (with_reducible refine Below.trans ?_ (Below.mono (by with_reducible assumption) ?_)) | omega | (simp; done) | (simp; omega))⟩
  case neg =>
    have e1 : decide ((n0 : Int) < lo) = false := decide_eq_false h1
    have H1 := Lib.hid (show decide (lo ≤ (n0 : Int)) = true from decide_eq_true (by omega))
    clear h1
    by_cases h2 : hi < (n0 : Int)
    case pos =>
      have e2 : decide (hi < (n0 : Int)) = true := decide_eq_true h2
      have H := Lib.hid (show decide ((n0 : Int) ≤ hi) = false from decide_eq_false (by omega))
      clear h2
      go_enter Try.func20, Try.ntmps20
      go_wp2_with fail
      go_ret
      exact ⟨ret_bool (by rw [H.out]; simp), by repeat' (first | with_reducible assumption | with_reducible exact Below.refl _ _ | (with_reducible refine Below.setCell ?_ ?_ _) | (with_reducible refine Below.alloc ?_ ?_ _) | (with_reducible refine Below.drew ?_) | (with_reducible refine below_dr ?_ _) | (with_reducible refine Below.trans ?_ (Below.mono (by with_reducible assumption) ?_)) | omega | (simp; done) | (simp; omega))⟩
    case neg =>
      have e2 : decide (hi < (n0 : Int)) = false := decide_eq_false h2
      have H2 := Lib.hid (show decide ((n0 : Int) ≤ hi) = true from decide_eq_true (by omega))
      clear h2
      go_enter Try.func20, Try.ntmps20
      go_wp2_with fail
      go_loopw [24] (fun i wr => ∃ k : Nat, k ≤ n0 ∧ i = .int .i64 (k : Int) ∧ allUp numB a10l k = true ∧ Below w.heap.size w wr) (fun i _ => n0 - (intOf i).toNat)
      case atStart => exact ⟨0, Nat.zero_le _, rfl, rfl, by repeat' (first | with_reducible assumption | with_reducible exact Below.refl _ _ | (with_reducible refine Below.setCell ?_ ?_ _) | (with_reducible refine Below.alloc ?_ ?_ _) | (with_reducible refine Below.drew ?_) | (with_reducible refine below_dr ?_ _) | (with_reducible refine Below.trans ?_ (Below.mono (by with_reducible assumption) ?_)) | omega | (simp; done) | (simp; omega))⟩
      case round =>
        obtain ⟨k, hk, rfl, hup, hbl⟩ := hrel
        have HUP := Lib.hid hup
        clear hup e1 e2
        by_cases hlt : k < n0
        case pos =>
          obtain ⟨x0, ha⟩ : ∃ a : Int, a10l[k]? = some a := ⟨a10l[k]'(by have := HN.out; omega), List.getElem?_eq_getElem (by have := HN.out; omega)⟩
          obtain ⟨g, o, row, rfl, hg, rfl, hc⟩ := (Row.carry (w' := wr) r hbl (Nat.le_refl _)).elem ha
          have c0 : wr.cell? ⟨g, o + k, none⟩ = some (.int .i64 x0) := by have h := hc 0 _ rfl; rw [Nat.mul_one] at h; exact h
          have HA := Lib.hid ha
          clear hc ha r
          have hki : (k : Int) < (n0 : Int) := by omega
          have hzr := hbl.size
          by_cases g1 : (x0 : Int) < -1000000000
          case pos =>
            have f1 : decide ((x0 : Int) < -1000000000) = true := decide_eq_true g1
            have HX := Lib.hid (show numB x0 = false from by unfold numB; rw [decide_eq_false (p := -1000000000 ≤ (x0 : Int)) (by omega)]; rfl)
            clear g1
            go_wp2_with fail
            go_ret
            exact ⟨ret_bool (by rw [allUp_no HA.out HX.out]; simp), by repeat' (first | with_reducible assumption | with_reducible exact Below.refl _ _ | (with_reducible refine Below.setCell ?_ ?_ _) | (with_reducible refine Below.alloc ?_ ?_ _) | (with_reducible refine Below.drew ?_) | (with_reducible refine below_dr ?_ _) | (with_reducible refine Below.trans ?_ (Below.mono (by with_reducible assumption) ?_)) | omega | (simp; done) | (simp; omega))⟩
          case neg =>
            have f1 : decide ((x0 : Int) < -1000000000) = false := decide_eq_false g1
            by_cases g2 : 1000000000 < (x0 : Int)
            case pos =>
              have f2 : decide (1000000000 < (x0 : Int)) = true := decide_eq_true g2
              have HX := Lib.hid (show numB x0 = false from by unfold numB; rw [decide_eq_false (p := (x0 : Int) ≤ 1000000000) (by omega)]; simp)
              clear g1 g2
              go_wp2_with fail
              go_ret
              exact ⟨ret_bool (by rw [allUp_no HA.out HX.out]; simp), by repeat' (first | with_reducible assumption | with_reducible exact Below.refl _ _ | (with_reducible refine Below.setCell ?_ ?_ _) | (with_reducible refine Below.alloc ?_ ?_ _) | (with_reducible refine Below.drew ?_) | (with_reducible refine below_dr ?_ _) | (with_reducible refine Below.trans ?_ (Below.mono (by with_reducible assumption) ?_)) | omega | (simp; done) | (simp; omega))⟩
            case neg =>
              have f2 : decide (1000000000 < (x0 : Int)) = false := decide_eq_false g2
              have HX := Lib.hid (show numB x0 = true from by unfold numB; rw [decide_eq_true (p := (x0 : Int) ≤ 1000000000) (by omega), decide_eq_true (p := -1000000000 ≤ (x0 : Int)) (by omega)]; rfl)
              clear g1 g2
              go_wp2_with fail
              go_roundw
              case rel => exact ⟨k + 1, by omega, by go_num, allUp_succ HUP.out HA.out HX.out, by repeat' (first | with_reducible assumption | with_reducible exact Below.refl _ _ | (with_reducible refine Below.setCell ?_ ?_ _) | (with_reducible refine Below.alloc ?_ ?_ _) | (with_reducible refine Below.drew ?_) | (with_reducible refine below_dr ?_ _) | (with_reducible refine Below.trans ?_ (Below.mono (by with_reducible assumption) ?_)) | omega | (simp; done) | (simp; omega))⟩
              case measure => simp [intOf]; omega
        case neg =>
          obtain rfl : k = n0 := by omega
          go_wp2_with fail
          go_ret
          exact ⟨ret_bool (by rw [H1.out, H2.out, allUp_yes (HN.out ▸ HUP.out)]; rfl), hbl⟩
set_option maxHeartbeats 3200000 in
theorem hasPoints_any (a0 : Int) (a1 : ByteArray) (a2 : ByteArray) (a3 : Int) (a4 : Int) (a5A : Option Addr) (a5c : Nat) (a5l : List DTerm) (a6 : Int) (a7 : Int) (a8A : Option Addr) (a8c : Nat) (a8l : List DTerm) (a9A : Option Addr) (a9c : Nat) (a9l : List DString) (a10A : Option Addr) (a10c : Nat) (a10l : List DInt64) (a11 : Bool) (a12 : Bool) (lo hi : Int) (w : World) (hl : a9l.length ≤ 1048576) (r : Row RvString 1 w w.heap.size a9A a9l) (hsz : ∀ (k : Nat) (s : DString), a9l[k]? = some s → s.size ≤ 4611686018427387904) : Calls Try.prog 21 #[.agg #[.int .i64 a0, .string a1, .string a2, .int .i64 a3, .int .i64 a4, .slice a5A a5l.length a5c, .int .i64 a6, .int .i64 a7, .slice a8A a8l.length a8c, .slice a9A a9l.length a9c, .slice a10A a10l.length a10c, .bool a11, .bool a12], .int .i64 lo, .int .i64 hi] w fun e w' => e = .returned (.bool (inB a9l.length lo hi && a9l.all ptB)) ∧ Below w.heap.size w w' := by
  have HSZ := Lib.hid hsz
  clear hsz
  unfold inB
  obtain ⟨n0, hn0⟩ : ∃ n0, n0 = a9l.length := ⟨_, rfl⟩
  rw [← hn0] at hl ⊢
  have HN := Lib.hid hn0
  clear hn0
  by_cases h1 : (n0 : Int) < lo
  case pos =>
    have e1 : decide ((n0 : Int) < lo) = true := decide_eq_true h1
    have H := Lib.hid (show decide (lo ≤ (n0 : Int)) = false from decide_eq_false (by omega))
    clear h1
    go_enter Try.func21, Try.ntmps21
    go_wp2_with fail
    go_ret
    exact ⟨ret_bool (by rw [H.out]; simp), by repeat' (first | with_reducible assumption | with_reducible exact Below.refl _ _ | (with_reducible refine Below.setCell ?_ ?_ _) | (with_reducible refine Below.alloc ?_ ?_ _) | (with_reducible refine Below.drew ?_) | (with_reducible refine below_dr ?_ _) | (with_reducible refine Below.trans ?_ (Below.mono (by with_reducible assumption) ?_)) | omega | (simp; done) | (simp; omega))⟩
  case neg =>
    have e1 : decide ((n0 : Int) < lo) = false := decide_eq_false h1
    have H1 := Lib.hid (show decide (lo ≤ (n0 : Int)) = true from decide_eq_true (by omega))
    clear h1
    by_cases h2 : hi < (n0 : Int)
    case pos =>
      have e2 : decide (hi < (n0 : Int)) = true := decide_eq_true h2
      have H := Lib.hid (show decide ((n0 : Int) ≤ hi) = false from decide_eq_false (by omega))
      clear h2
      go_enter Try.func21, Try.ntmps21
      go_wp2_with fail
      go_ret
      exact ⟨ret_bool (by rw [H.out]; simp), by repeat' (first | with_reducible assumption | with_reducible exact Below.refl _ _ | (with_reducible refine Below.setCell ?_ ?_ _) | (with_reducible refine Below.alloc ?_ ?_ _) | (with_reducible refine Below.drew ?_) | (with_reducible refine below_dr ?_ _) | (with_reducible refine Below.trans ?_ (Below.mono (by with_reducible assumption) ?_)) | omega | (simp; done) | (simp; omega))⟩
    case neg =>
      have e2 : decide (hi < (n0 : Int)) = false := decide_eq_false h2
      have H2 := Lib.hid (show decide ((n0 : Int) ≤ hi) = true from decide_eq_true (by omega))
      clear h2
      go_enter Try.func21, Try.ntmps21
      go_wp2_with fail
      go_loopw [24] (fun i wr => ∃ k : Nat, k ≤ n0 ∧ i = .int .i64 (k : Int) ∧ allUp ptB a9l k = true ∧ Below w.heap.size w wr) (fun i _ => n0 - (intOf i).toNat)
      case atStart => exact ⟨0, Nat.zero_le _, rfl, rfl, by repeat' (first | with_reducible assumption | with_reducible exact Below.refl _ _ | (with_reducible refine Below.setCell ?_ ?_ _) | (with_reducible refine Below.alloc ?_ ?_ _) | (with_reducible refine Below.drew ?_) | (with_reducible refine below_dr ?_ _) | (with_reducible refine Below.trans ?_ (Below.mono (by with_reducible assumption) ?_)) | omega | (simp; done) | (simp; omega))⟩
      case round =>
        obtain ⟨k, hk, rfl, hup, hbl⟩ := hrel
        have HUP := Lib.hid hup
        clear hup e1 e2
        by_cases hlt : k < n0
        case pos =>
          obtain ⟨x0, ha⟩ : ∃ a : ByteArray, a9l[k]? = some a := ⟨a9l[k]'(by have := HN.out; omega), List.getElem?_eq_getElem (by have := HN.out; omega)⟩
          obtain ⟨g, o, row, rfl, hg, rfl, hc⟩ := (Row.carry (w' := wr) r hbl (Nat.le_refl _)).elem ha
          have c0 : wr.cell? ⟨g, o + k, none⟩ = some (.string x0) := by have h := hc 0 _ rfl; rw [Nat.mul_one] at h; exact h
          have HA := Lib.hid ha
          have hsx := HSZ.out k x0 ha
          clear hc ha r
          have hki : (k : Int) < (n0 : Int) := by omega
          have hzr := hbl.size
          have CF := Lib.hid (fun w => impl_free x0 w (by have := hsx; omega))
          rcases hf : fnB x0 with _ | _
          case false =>
            rw [hf] at CF
            have HX := Lib.hid (show ptB x0 = false from by unfold ptB; rw [hf]; rfl)
            clear hf
            go_wp2_with fail
            refine (CF.out _).mono ?_
            rintro e w2 ⟨rfl, hb2⟩
            go_wp2_with fail
            go_ret
            exact ⟨ret_bool (by rw [allUp_no HA.out HX.out]; simp), by repeat' (first | with_reducible assumption | with_reducible exact Below.refl _ _ | (with_reducible refine Below.setCell ?_ ?_ _) | (with_reducible refine Below.alloc ?_ ?_ _) | (with_reducible refine Below.drew ?_) | (with_reducible refine below_dr ?_ _) | (with_reducible refine Below.trans ?_ (Below.mono (by with_reducible assumption) ?_)) | omega | (simp; done) | (simp; omega))⟩
          case true =>
            rw [hf] at CF
            by_cases g1 : 10 < (x0.size : Int)
            case pos =>
              have f1 : decide (10 < (x0.size : Int)) = true := decide_eq_true g1
              have HX := Lib.hid (show ptB x0 = false from by unfold ptB; rw [decide_eq_false (p := (x0.size : Int) ≤ 10) (by omega)]; simp)
              clear hf g1
              go_wp2_with fail
              refine (CF.out _).mono ?_
              rintro e w2 ⟨rfl, hb2⟩
              go_wp2_with fail
              go_ret
              exact ⟨ret_bool (by rw [allUp_no HA.out HX.out]; simp), by repeat' (first | with_reducible assumption | with_reducible exact Below.refl _ _ | (with_reducible refine Below.setCell ?_ ?_ _) | (with_reducible refine Below.alloc ?_ ?_ _) | (with_reducible refine Below.drew ?_) | (with_reducible refine below_dr ?_ _) | (with_reducible refine Below.trans ?_ (Below.mono (by with_reducible assumption) ?_)) | omega | (simp; done) | (simp; omega))⟩
            case neg =>
              have f1 : decide (10 < (x0.size : Int)) = false := decide_eq_false g1
              have HX := Lib.hid (show ptB x0 = true from by unfold ptB; rw [hf, decide_eq_true (p := (x0.size : Int) ≤ 10) (by omega)]; rfl)
              clear hf g1
              go_wp2_with fail
              refine (CF.out _).mono ?_
              rintro e w2 ⟨rfl, hb2⟩
              go_wp2_with fail
              go_roundw
              case rel => exact ⟨k + 1, by omega, by go_num, allUp_succ HUP.out HA.out HX.out, by repeat' (first | with_reducible assumption | with_reducible exact Below.refl _ _ | (with_reducible refine Below.setCell ?_ ?_ _) | (with_reducible refine Below.alloc ?_ ?_ _) | (with_reducible refine Below.drew ?_) | (with_reducible refine below_dr ?_ _) | (with_reducible refine Below.trans ?_ (Below.mono (by with_reducible assumption) ?_)) | omega | (simp; done) | (simp; omega))⟩
              case measure => simp [intOf]; omega
        case neg =>
          obtain rfl : k = n0 := by omega
          go_wp2_with fail
          go_ret
          exact ⟨ret_bool (by rw [H1.out, H2.out, allUp_yes (HN.out ▸ HUP.out)]; rfl), hbl⟩
end Go.Proofs.Ytjpadamlfhceaaa
