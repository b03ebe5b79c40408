/- Walks: lists of strings are compared, marked and looked at again. -/
import Derived.Test.YtaphkogdcmnnbaaMk
import Derived.Deep.RegionHeld3
import Derived.Deep.QuietTactic
import Derived.BigQuiet
import Derived.Deep.DeepCutAuto
namespace Go.Proofs.Ytaphkogdcmnnbaa
open Go.RowKit

theorem mbcell {W w1 : World} (hb : Below W.heap.size W w1) : (∀ b o, b < W.heap.size → w1.cell? ⟨b, o, none⟩ = W.cell? ⟨b, o, none⟩) ∧ (∀ b o, b < W.heap.size → w1.frozen? ⟨b, o, none⟩ = W.frozen? ⟨b, o, none⟩) :=
  ⟨fun b o h => hb.cell (p := ⟨b, o, none⟩) h, fun b o h => hb.frozen (p := ⟨b, o, none⟩) h⟩
theorem drewN_below {B : Nat} {w w' : World} (h : Below B w w') (n : Nat) : Below B w (w'.drewN n) := h.trans (Joins.below_draws _ _ _)
def strs (ss : List ByteArray) : List Value := ss.map Value.string
theorem strs_at {ss : List ByteArray} {k : Nat} {u : Value} (h : (strs ss)[k]? = some u) : ∃ s, ss[k]? = some s ∧ u = .string s := by
  unfold strs at h
  rw [List.getElem?_map] at h
  cases hs : ss[k]? with
  | none => rw [hs] at h; cases h
  | some s => rw [hs] at h; injection h with h; exact ⟨s, rfl, h.symm⟩

set_option maxHeartbeats 800000 in
theorem eqStringS_same (ss : List ByteArray) (n : Nat) (A A' : Option Addr) (c c' B B' : Nat) (w : World) (hn : n ≤ 4611686018427387904) (h1 : Reads w B 1 A n (strs ss)) (h2 : Reads w B' 1 A' n (strs ss)) :
    Calls Try.prog 16 #[.slice A n c, .slice A' n c'] w fun e w' => e = .returned (.bool true) ∧ ∃ q, w' = w.drewN q := by
  have e0 : ((n : Int) != (n : Int)) = false := by simp
  go_enter Try.func16, Try.ntmps16
  go_wp2
  go_loopw [5] (fun i wr => ∃ k q : Nat, k ≤ n ∧ i = .int .i64 k ∧ wr = w.drewN q) (fun i _ => n - (intOf i).toNat)
  case atStart => exact ⟨0, 0, Nat.zero_le _, rfl, rfl⟩
  case round =>
    obtain ⟨k, q, hk, rfl, rfl⟩ := hrel
    by_cases hlt : k < n
    · obtain ⟨ad, u, rfl, _, hx, hc⟩ := h1.at_ hlt
      obtain ⟨ad', u', rfl, _, hx', hc'⟩ := h2.at_ hlt
      obtain ⟨s, hs, rfl⟩ := strs_at hx
      obtain ⟨s', hs', rfl⟩ := strs_at hx'
      obtain rfl : s = s' := Option.some.inj (hs.symm.trans hs')
      clear h1 h2 hx hx' hs hs'
      have e1 : (s.toList == s.toList) = true := by simp
      have e2 : (s.toList != s.toList) = false := by simp
      have hki : (k : Int) < (n : Int) := by omega
      go_wp2
      go_quiet (fail)
      go_wp2
      go_roundw
      case rel => exact ⟨k + 1, q + nq, by omega, by go_num, rfl⟩
      case measure => simp [intOf]; omega
    · go_wp2
      go_ret
      exact ⟨rfl, q, rfl⟩

def marks (k n : Nat) : List ByteArray := (List.range n).map fun i => markB (k + i)
theorem marks_len (k n : Nat) : (marks k n).length = n := by simp [marks]
theorem marks_at {k n i : Nat} (h : i < n) : (marks k n)[i]? = some (markB (k + i)) := by simp [marks, h]
theorem strs_len (ss : List ByteArray) : (strs ss).length = ss.length := by simp [strs]

set_option maxHeartbeats 800000 in
theorem heldStringS_any (k n : Nat) (A : Option Addr) (c : Nat) (w : World) (hk : 1 ≤ k) (hn : k + n ≤ 4611686018427387904) (h1 : Reads w w.heap.size 1 A n (strs (marks k n))) :
    Calls Try.prog 18 #[.slice A n c, .int .i64 k] w fun e w' => e = .returned (.int .i64 ((k + n : Nat) : Int)) ∧ Below w.heap.size w w' := by
  go_enter Try.func18, Try.ntmps18
  go_wp2
  go_loopw [1, 5] (fun j i wr => ∃ m : Nat, m ≤ n ∧ i = .int .i64 m ∧ j = .int .i64 ((k + m : Nat) : Int) ∧ Below w.heap.size w wr) (fun _ i _ => n - (intOf i).toNat)
  case atStart => exact ⟨0, Nat.zero_le _, rfl, rfl, Below.refl _ _⟩
  case round =>
    obtain ⟨m, hm, rfl, rfl, hb⟩ := hrel
    by_cases hlt : m < n
    · obtain ⟨ad, u, rfl, had, hx, hc⟩ := (h1.below hb).at_ hlt
      obtain ⟨s, hs, rfl⟩ := strs_at hx
      obtain rfl : markB (k + m) = s := Option.some.inj ((marks_at hlt).symm.trans hs)
      have CM := Lib.hid fun w => markText_any (k + m) w (by omega) (by omega)
      have hadw : ad.block < wr.heap.size := by have := hb.size; omega
      have hki : (m : Int) < (n : Int) := by omega
      clear h1 hx hs
      generalize markB (k + m) = s at CM hc
      have e1 : (s.toList == s.toList) = true := by simp
      have e2 : (s.toList != s.toList) = false := by simp
      obtain ⟨z, hz⟩ : ∃ z : Nat, z = k + m := ⟨_, rfl⟩
      rw [← hz] at CM ⊢
      have HZ := Lib.hid hz
      have hz2 : z ≤ 4611686018427387904 := by omega
      clear hz
      go_wp2
      go_region_held3 (fun w' => w'.cell? (ad.add m) = some (.string s) ∧ ad.block < w'.heap.size)
        (first | exact ⟨hc, hadw⟩ | assumption | fail)
        (first
          | (go_at_call 42; (with_reducible refine (CM.out _).mono ?_); rintro e wA ⟨rfl, hbA⟩; have hcA : wA.cell? (ad.add m) = some (.string s) ∧ ad.block < wA.heap.size := ⟨(hbA.cell (by rw [block_of_add]; exact hadw)).trans hc, Nat.lt_of_lt_of_le hadw hbA.size⟩))
      all_goals
        go_wp2
        go_roundw
        case rel => exact ⟨m + 1, by omega, by go_num, by have := HZ.out; go_num, Below.trans (by first | exact hb | exact hb.drew) (hbA.mono hb.size)⟩
        case measure => simp [intOf]; omega
    · obtain rfl : m = n := by omega
      go_wp2
      go_ret
      exact ⟨rfl, hb⟩

theorem grownBy_of_below {w w' : World} (h : Below w.heap.size w w') (row : Option Nat) : w.grownBy w' row := ⟨h.os, h.tape, h.output, h.size, fun k hk _ => h.block k hk⟩
theorem grownBy_trans {w w1 w2 : World} {row : Option Nat} (h : w.grownBy w1 row) (k : w1.grownBy w2 row) : w.grownBy w2 row :=
  ⟨k.os.trans h.os, k.tape.trans h.tape, k.output.trans h.output, Nat.le_trans h.size k.size, fun i hi hr => (k.block i (Nat.lt_of_lt_of_le hi h.size) hr).trans (h.block i hi hr)⟩
theorem own_stays {W W' : World} {B e size n : Nat} {v : Value} {xs : List Value} (h : W.ownsRow B e size v n xs) (hb : Below W.heap.size W W') : W'.ownsRow B e size v n xs :=
  h.kept (row := none) ⟨hb.os, hb.tape, hb.output, hb.size, fun k hk _ => hb.block k hk⟩ (Classical.em _)
theorem marks_set (k m : Nat) (xs : List Value) (h : m < xs.length) : (strs (marks k m) ++ xs.drop m).set m (.string (markB (k + m))) = strs (marks k (m + 1)) ++ xs.drop (m + 1) := by
  have e : xs.drop m = xs[m] :: xs.drop (m + 1) := List.drop_eq_getElem_cons h
  have e2 : strs (marks k (m + 1)) = strs (marks k m) ++ [.string (markB (k + m))] := by simp [strs, marks, List.range_succ]
  have hl : (strs (marks k m)).length = m := by rw [strs_len, marks_len]
  rw [e, e2, List.append_assoc]
  have := List.set_append_right (s := strs (marks k m)) (t := xs[m] :: xs.drop (m + 1)) m (.string (markB (k + m))) (by omega)
  rw [this, hl, Nat.sub_self]
  rfl

set_option maxHeartbeats 800000 in
theorem markStringS_any (k n : Nat) (A : Option Addr) (c base : Nat) (xs : List Value) (w : World) (hk : 1 ≤ k) (hn : k + n ≤ 4611686018427387904) (h1 : w.ownsRow base 9 1 (.slice A n c) n xs) :
    Calls Try.prog 17 #[.slice A n c, .int .i64 k] w fun e w' => e = .returned (.int .i64 ((k + n : Nat) : Int)) ∧ w'.ownsRow base 9 1 (.slice A n c) n (strs (marks k n)) ∧ w.grownBy w' (Value.slice A n c).ownBlock := by
  have hxl : xs.length = n := by have := h1.1; omega
  go_enter Try.func17, Try.ntmps17
  go_wp2
  go_loopw [1, 5] (fun j i wr => ∃ m : Nat, m ≤ n ∧ i = .int .i64 m ∧ j = .int .i64 ((k + m : Nat) : Int) ∧ wr.ownsRow base 9 1 (.slice A n c) n (strs (marks k m) ++ xs.drop m) ∧ w.grownBy wr (Value.slice A n c).ownBlock) (fun _ i _ => n - (intOf i).toNat)
  case atStart => exact ⟨0, Nat.zero_le _, rfl, rfl, by simpa [marks, strs] using h1, World.grownBy.refl _ _⟩
  case round =>
    obtain ⟨m, hm, rfl, rfl, hown, hg⟩ := hrel
    by_cases hlt : m < n
    · obtain ⟨g, cap, hv, _, hgl⟩ := hown.form (by omega)
      obtain rfl : A = some ⟨g, 0, none⟩ := by injection hv
      have CM := Lib.hid fun w => markText_any (k + m) w (by omega) (by omega)
      have hset := Lib.hid (marks_set k m xs (by omega))
      generalize markB (k + m) = s at CM hset
      obtain ⟨ys, hys⟩ : ∃ ys, ys = strs (marks k m) ++ xs.drop m := ⟨_, rfl⟩
      rw [← hys] at hown hset
      have hyl : ys.length = n := by have := hown.1; omega
      have HY := Lib.hid hyl
      have hki : (m : Int) < (n : Int) := by omega
      obtain ⟨z, hz⟩ : ∃ z : Nat, z = k + m := ⟨_, rfl⟩
      rw [← hz] at CM ⊢
      have HZ := Lib.hid hz
      have hz2 : z ≤ 4611686018427387904 := by omega
      clear hz hys hyl hv h1 hxl
      go_wp2_with fail
      refine (CM.out _).mono ?_
      rintro e wA ⟨rfl, hbA⟩
      have hownA := own_stays hown hbA
      have hcA := hownA.cellAt m (by omega)
      rw [List.getElem?_eq_getElem (by have := HY.out; omega)] at hcA
      have hfA := hownA.frozenAt m
      go_wp2
      go_roundw
      case rel =>
        have hst := hownA.stored m (.string s)
        rw [hset.out] at hst
        exact ⟨m + 1, by omega, by go_num, by have := HZ.out; go_num, hst.1, grownBy_trans (grownBy_trans hg (grownBy_of_below hbA _)) hst.2⟩
      case measure => simp [intOf]; omega
    · obtain rfl : m = n := by omega
      go_wp2
      go_ret
      rw [List.drop_of_length_le (by omega), List.append_nil] at hown
      exact ⟨rfl, hown, hg⟩
end Go.Proofs.Ytaphkogdcmnnbaa
