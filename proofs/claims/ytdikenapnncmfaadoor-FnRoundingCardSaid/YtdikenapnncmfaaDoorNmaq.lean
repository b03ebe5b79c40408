/- Walks: tables of names: StateName, HintName and StateNamed, both sides; the laws, over the table. -/
import Derived.Test.YtdikenapnncmfaaDoorAw
namespace Go.Proofs.YtdikenapnncmfaaDoor.Nam
open Go.RowKit
set_option linter.unusedVariables false
/-- A variable that is an array of these names. -/
def TabN (nms : List ByteArray) (g : Nat) (w : World) : Prop := g < w.heap.size ∧ ∀ (k : Nat) v, nms[k]? = some v → w.cell? ⟨g, k, none⟩ = some (.string v)
theorem TabN.below {nms : List ByteArray} {g : Nat} {w w' : World} (h : TabN nms g w) (hb : Below w.heap.size w w') : TabN nms g w' :=
  ⟨Nat.lt_of_lt_of_le h.1 hb.size, fun k v hv => (hb.cell (p := ⟨g, k, none⟩) h.1).trans (h.2 k v hv)⟩
def nmAt (nms : List ByteArray) (n : Int) : ByteArray := if 0 ≤ n then (nms[n.toNat]?).getD ⟨#[]⟩ else ⟨#[]⟩
theorem nmAt_in {nms : List ByteArray} {k : Nat} {v : ByteArray} (h : nms[k]? = some v) : nmAt nms (k : Int) = v := by
  unfold nmAt; rw [if_pos (by omega), Int.toNat_natCast, h]; rfl
theorem nmAt_out {nms : List ByteArray} {n : Int} (h : n < 0 ∨ (nms.length : Int) ≤ n) : nmAt nms n = ⟨#[]⟩ := by
  unfold nmAt
  split
  · rw [List.getElem?_eq_none (by omega)]; rfl
  · rfl
def nmG : List ByteArray → Nat → ByteArray → Int
  | [], _, _ => -1
  | v :: r, k, s => if (v.toList == s.toList) = true then (k : Int) else nmG r (k + 1) s
def nmI (nms : List ByteArray) (s : ByteArray) : Int := nmG nms 0 s
theorem nmG_hit {nms : List ByteArray} {k : Nat} {v s : ByteArray} (h : nms[k]? = some v) (he : (v.toList == s.toList) = true) : nmG (nms.drop k) k s = k := by
  obtain ⟨hk, rfl⟩ := List.getElem?_eq_some_iff.1 h
  rw [List.drop_eq_getElem_cons hk]; simp only [nmG]; rw [if_pos he]
theorem nmG_miss {nms : List ByteArray} {k : Nat} {v s : ByteArray} (h : nms[k]? = some v) (he : ¬ (v.toList == s.toList) = true) : nmG (nms.drop k) k s = nmG (nms.drop (k + 1)) (k + 1) s := by
  obtain ⟨hk, rfl⟩ := List.getElem?_eq_some_iff.1 h
  rw [List.drop_eq_getElem_cons hk]; simp only [nmG]; rw [if_neg he]
theorem nmG_end {nms : List ByteArray} {k : Nat} {s : ByteArray} (h : nms.length ≤ k) : nmG (nms.drop k) k s = -1 := by
  rw [List.drop_of_length_le h]; rfl
theorem ret_s {a b : ByteArray} (h : a = b) : Ending.returned (.string a) = .returned (.string b) := by rw [h]
theorem ret_n {a b : Int} (h : a = b) : Ending.returned (.int .i64 a) = .returned (.int .i64 b) := by rw [h]
theorem names_cell {nms : List ByteArray} {w : World} {t : TypeId} {k : Nat} {v : ByteArray} (h : nms[k]? = some v) : (w.alloc (.cells (nms.map Value.string).toArray t)).cell? ⟨w.heap.size, k, none⟩ = some (.string v) :=
  (Blk.new w t (nms.map Value.string).toArray).cell k (by simp [h])
def stNm : List ByteArray := [⟨#[111, 102, 102]⟩, ⟨#[103, 114, 105, 100]⟩, ⟨#[104, 97, 108, 102]⟩, ⟨#[100, 111, 117, 98, 108, 101]⟩, ⟨#[100, 111, 119, 110]⟩, ⟨#[117, 112]⟩]
theorem stNm_len : stNm.length = 6 := rfl
def htNm : List ByteArray := [⟨#[115, 116, 111, 112]⟩, ⟨#[112, 111, 112]⟩, ⟨#[100, 117, 112]⟩, ⟨#[115, 119, 97, 112]⟩, ⟨#[97, 100, 100]⟩, ⟨#[115, 117, 98]⟩, ⟨#[109, 117, 108]⟩, ⟨#[100, 105, 118]⟩, ⟨#[110, 101, 103]⟩, ⟨#[97, 98, 115]⟩, ⟨#[109, 105, 110]⟩, ⟨#[109, 97, 120]⟩, ⟨#[108, 101, 115, 115]⟩, ⟨#[101, 113, 117, 97, 108]⟩, ⟨#[110, 111, 116]⟩, ⟨#[114, 111, 117, 110, 100]⟩, ⟨#[97, 120, 105, 115, 120]⟩, ⟨#[97, 120, 105, 115, 121]⟩, ⟨#[114, 101, 102]⟩, ⟨#[103, 101, 116]⟩, ⟨#[111, 114, 105, 103]⟩, ⟨#[112, 117, 116]⟩, ⟨#[115, 104, 105, 102, 116]⟩, ⟨#[103, 114, 105, 100]⟩, ⟨#[108, 105, 110, 107]⟩, ⟨#[115, 116, 101, 109]⟩, ⟨#[101, 118, 101, 110]⟩, ⟨#[115, 109, 111, 111, 116, 104]⟩, ⟨#[116, 111, 117, 99, 104]⟩, ⟨#[102, 114, 101, 101]⟩, ⟨#[118, 97, 108, 117, 101]⟩, ⟨#[115, 116, 111, 114, 101]⟩, ⟨#[115, 105, 122, 101]⟩, ⟨#[99, 111, 117, 110, 116]⟩, ⟨#[100, 101, 108, 116, 97]⟩, ⟨#[105, 102]⟩, ⟨#[101, 108, 115, 101]⟩, ⟨#[101, 110, 100]⟩, ⟨#[97, 103, 97, 105, 110]⟩, ⟨#[112, 117, 115, 104]⟩, ⟨#[119, 111, 114, 100]⟩, ⟨#[115, 116, 97, 116, 101]⟩, ⟨#[99, 117, 116]⟩, ⟨#[108, 101, 97, 115, 116]⟩, ⟨#[114, 101, 112, 101, 97, 116]⟩]
theorem htNm_len : htNm.length = 45 := rfl
set_option maxHeartbeats 800000 in
theorem isState_yes (c : Int) (w : World) (h : 0 ≤ c ∧ c ≤ 5) :
    Calls Tryd.prog 27 #[.int .i64 c] w fun e w' => e = .returned (.bool true) ∧ w = w' := by
  obtain ⟨h1, h2⟩ := h
  go_enter Tryd.func27, Tryd.ntmps27
  go_wp2_with (fail)
  go_ret
  exact ⟨rfl, rfl⟩
set_option maxHeartbeats 800000 in
theorem isState_no (c : Int) (w : World) (h : c < 0 ∨ 5 < c) :
    Calls Tryd.prog 27 #[.int .i64 c] w fun e w' => e = .returned (.bool false) ∧ w = w' := by
  by_cases h1 : 0 ≤ c
  · have h3 : decide (c ≤ 5) = false := by simp; omega
    clear h
    go_enter Tryd.func27, Tryd.ntmps27
    go_wp2_with (fail)
    go_ret
    exact ⟨rfl, rfl⟩
  · have h3 : decide (0 ≤ c) = false := by simp; omega
    clear h
    go_enter Tryd.func27, Tryd.ntmps27
    go_wp2_with (fail)
    go_ret
    exact ⟨rfl, rfl⟩
set_option maxHeartbeats 1600000 in
theorem implStateName_any (n : Int) (w : World) (hT : TabN stNm 0 w) :
    Calls Tryd.prog 11 #[.int .i64 n] w fun e w' => e = .returned (.string (nmAt stNm n)) ∧ Below w.heap.size w w' := by
  by_cases h : 0 ≤ n ∧ n ≤ 5
  case neg =>
    clear hT
    rw [nmAt_out (by rw [stNm_len]; omega)]
    have h1 : n < 0 ∨ 5 < n := by omega
    clear h
    go_enter Tryd.func11, Tryd.ntmps11
    go_wp2_with ((go_at_call 27; first | (refine (isState_yes _ _ (by omega)).mono ?_; rintro e w1 ⟨rfl, rfl⟩) | (refine (isState_no _ _ (by omega)).mono ?_; rintro e w1 ⟨rfl, rfl⟩)))
    go_ret
    exact ⟨rfl, by repeat' (first | with_reducible assumption | with_reducible exact Below.refl _ _ | (with_reducible refine Below.setCell ?_ ?_ _) | (with_reducible refine Below.alloc ?_ ?_ _) | (with_reducible refine Below.drew ?_) | (with_reducible refine below_dr ?_ _) | (with_reducible refine Below.trans ?_ (Below.mono (by with_reducible assumption) ?_)) | omega | (simp; done) | (simp; omega))⟩
  case pos =>
    obtain ⟨k, rfl⟩ : ∃ k : Nat, n = (k : Int) := ⟨n.toNat, by omega⟩
    obtain ⟨v, hv⟩ : ∃ v, stNm[k]? = some v := ⟨stNm[k]'(by rw [stNm_len]; omega), List.getElem?_eq_getElem (by rw [stNm_len]; omega)⟩
    rw [nmAt_in hv]
    obtain ⟨h1, h2⟩ := h
    have y := hT.2 k v hv
    clear hT hv
    have hk : (k : Int) < 6 := by omega
    go_enter Tryd.func11, Tryd.ntmps11
    go_wp2_with ((go_at_call 27; first | (refine (isState_yes _ _ (by omega)).mono ?_; rintro e w1 ⟨rfl, rfl⟩) | (refine (isState_no _ _ (by omega)).mono ?_; rintro e w1 ⟨rfl, rfl⟩)))
    go_ret
    exact ⟨rfl, by repeat' (first | with_reducible assumption | with_reducible exact Below.refl _ _ | (with_reducible refine Below.setCell ?_ ?_ _) | (with_reducible refine Below.alloc ?_ ?_ _) | (with_reducible refine Below.drew ?_) | (with_reducible refine below_dr ?_ _) | (with_reducible refine Below.trans ?_ (Below.mono (by with_reducible assumption) ?_)) | omega | (simp; done) | (simp; omega))⟩
set_option maxHeartbeats 800000 in
theorem isHintCode_yes (c : Int) (w : World) (h : 0 ≤ c ∧ c ≤ 44) :
    Calls Tryd.prog 117 #[.int .i64 c] w fun e w' => e = .returned (.bool true) ∧ w = w' := by
  obtain ⟨h1, h2⟩ := h
  go_enter Tryd.func117, Tryd.ntmps117
  go_wp2_with (fail)
  go_ret
  exact ⟨rfl, rfl⟩
set_option maxHeartbeats 800000 in
theorem isHintCode_no (c : Int) (w : World) (h : c < 0 ∨ 44 < c) :
    Calls Tryd.prog 117 #[.int .i64 c] w fun e w' => e = .returned (.bool false) ∧ w = w' := by
  by_cases h1 : 0 ≤ c
  · have h3 : decide (c ≤ 44) = false := by simp; omega
    clear h
    go_enter Tryd.func117, Tryd.ntmps117
    go_wp2_with (fail)
    go_ret
    exact ⟨rfl, rfl⟩
  · have h3 : decide (0 ≤ c) = false := by simp; omega
    clear h
    go_enter Tryd.func117, Tryd.ntmps117
    go_wp2_with (fail)
    go_ret
    exact ⟨rfl, rfl⟩
end Go.Proofs.YtdikenapnncmfaaDoor.Nam
