/- Walks: pairs of instructions, the program's side: an instruction is begun or ends another one. -/
import Derived.Test.YtdikenapnncmfaaDoorPhe
namespace Go.Proofs.YtdikenapnncmfaaDoor
open Go.RowKit
set_option linter.unusedVariables false
def noI (l : List Int) (k : Nat) (v : Int) : Prop := ∀ (j : Nat) (x : Int), j < k → l[j]? = some x → ¬ v = x
theorem noI_end {l : List Int} {k : Nat} {v : Int} (h : noI l k v) (hk : k = l.length) : ¬ v ∈ l := by
  intro hm
  obtain ⟨j, hj⟩ := List.mem_iff_getElem?.1 hm
  exact h j v (by rw [hk]; exact (List.getElem?_eq_some_iff.1 hj).1) hj rfl
theorem noI_succ {l : List Int} {k : Nat} {v x : Int} (h : noI l k v) (hx : l[k]? = some x) (hv : ¬ v = x) : noI l (k + 1) v := fun j y hj hy => by
  rcases Nat.lt_or_ge j k with h2 | h2
  · exact h j y h2 hy
  · obtain rfl : j = k := by omega
    rw [hx] at hy; obtain rfl := Option.some.inj hy; exact hv
set_option maxHeartbeats 3200000 in
theorem index_any (l : List Int) (A : Option Addr) (c : Nat) (v : Int) (w : World) (hl : l.length ≤ 1048576) (r : Rd cInt 1 w w.heap.size A l) :
    Calls Tryd.prog 131 #[.slice A l.length c, .int .i64 v] w fun e w' => (∃ i : Int, e = .returned (.int .i64 i) ∧ decide (0 ≤ i) = decide (v ∈ l)) ∧ w = w' := by
  obtain ⟨n, hn⟩ : ∃ n, n = l.length := ⟨_, rfl⟩
  rw [← hn] at hl ⊢
  have HN := Lib.hid hn
  have HR := Lib.hid r
  clear hn r
  go_enter Tryd.func131, Tryd.ntmps131
  go_wp2_with fail
  go_loopw [5, 8] (fun u i wr => ∃ k : Nat, k ≤ n ∧ i = .int .i64 (k : Int) ∧ noI l k v ∧ wr = w) (fun u i _ => n - (intOf i).toNat)
  case atStart => exact ⟨0, Nat.zero_le _, rfl, fun j x hj => by omega, rfl⟩
  case round =>
    obtain ⟨k, hk, rfl, hno, rfl⟩ := hrel
    have HNO := Lib.hid hno
    clear hno
    by_cases hlt : k < n
    case neg =>
      obtain rfl : k = n := by omega
      have HE := Lib.hid (noI_end HNO.out HN.out)
      go_wp2_with fail
      go_ret
      exact ⟨⟨_, rfl, by rw [decide_eq_false HE.out]; rfl⟩, rfl⟩
    case pos =>
      obtain ⟨x, hx⟩ : ∃ x, l[k]? = some x := ⟨l[k]'(by have := HN.out; omega), List.getElem?_eq_getElem (by have := HN.out; omega)⟩
      obtain ⟨g, o, rfl, hg, hc⟩ := HR.out.elem hx
      have y0 : wr.cell? ⟨g, o + k, none⟩ = some (.int .i64 x) := by have h := hc 0 _ rfl; rw [Nat.mul_one] at h; exact h
      clear hc
      have HX := Lib.hid hx
      clear hx
      have hki : (k : Int) < (n : Int) := by omega
      by_cases he : v = x
      case pos =>
        have e1 : (v == x) = true := by simp [he]
        have HE := Lib.hid (show v ∈ l by rw [he]; exact List.mem_of_getElem? HX.out)
        clear he
        go_wp2_with fail
        go_ret
        exact ⟨⟨_, rfl, by rw [decide_eq_true HE.out]; simp⟩, by first | rfl | trivial⟩
      case neg =>
        have e1 : (v == x) = false := beq_eq_false_iff_ne.2 he
        have HE := Lib.hid he
        clear he
        go_wp2_with fail
        go_roundw
        case rel => exact ⟨k + 1, by omega, by go_num, noI_succ HNO.out HX.out HE.out, by first | rfl | trivial⟩
        case measure => simp [intOf]; omega
set_option maxHeartbeats 3200000 in
theorem contains_any (l : List Int) (A : Option Addr) (c : Nat) (v : Int) (w : World) (hl : l.length ≤ 1048576) (r : Rd cInt 1 w w.heap.size A l) :
    Calls Tryd.prog 129 #[.slice A l.length c, .int .i64 v] w fun e w' => e = .returned (.bool (decide (v ∈ l))) ∧ w = w' := by
  have N := Lib.hid (index_any l A c v w hl r)
  clear r hl
  generalize l.length = n at *
  generalize decide (v ∈ l) = d at *
  go_enter Tryd.func129, Tryd.ntmps129
  go_wp2_with fail
  refine N.out.mono ?_
  rintro e w1 ⟨⟨i, rfl, hi⟩, rfl⟩
  go_wp2
  go_ret
  exact ⟨rfl, rfl⟩
set_option maxRecDepth 100000 in
set_option maxHeartbeats 6400000 in
theorem begin_any (A0 A' : Option Addr) (n c0 P N c' B base i : Nat) (es : List Int) (w : World) (bk : Blk w B 126 #[.slice A0 n c0, .slice (some ⟨P, 0, none⟩) n n, .slice A' N c']) (ow : OwI 3 w base A' N c' es) (hB : B < base) (hbs : base ≤ w.heap.size) (hN : N ≤ 6) :
    Calls Tryd.prog 118 #[.pointer (some ⟨B, 0, none⟩), .int .i64 (i : Int)] w fun e w' => ∃ (A2 : Option Addr) (c2 : Nat), e = .returned (.bool (decide (N + 1 ≤ 6))) ∧ Blk w' B 126 #[.slice A0 n c0, .slice (some ⟨P, 0, none⟩) n n, .slice A2 (N + 1) c2] ∧ OwI 3 w' base A2 (N + 1) c2 (es ++ [(i : Int)]) ∧ Below B w w' := by
  obtain ⟨i0, hi0, hz0', hz1', hz2'⟩ := oinfo_parts infoInt
  have y2 := bk.cell 2 rfl
  have lB := bk.lt
  have BK := Lib.hid bk
  have HOW := Lib.hid ow
  clear bk ow
  have HMX := Lib.hid (show N + 1 ≤ maxLen by unfold maxLen; omega)
  have HBY := Lib.hid (show (N + 1) * 8 ≤ 140737488355328 by omega)
  have HRD := Lib.hid (ireads_new w (i : Int) 3)
  have HOW9 := Lib.hid (show (w.alloc (.cells #[.int .i64 (i : Int)] 3)).ownsRow base 3 1 (.slice A' N c') N _ from (HOW.out.alloc _).2)
  have HRB := Lib.hid HOW.out.block
  have HBS := Lib.hid (show base ≤ (w.alloc (.cells #[.int .i64 (i : Int)] 3)).heap.size by simp; omega)
  have HZ := Lib.hid (And.intro hi0 (And.intro hz0' (And.intro hz1' hz2')))
  clear hi0 hz0' hz1' hz2'
  go_enter Tryd.func118, Tryd.ntmps118
  go_wp2_with (at_builtin; refine wpList_append_any _ rfl (.tmp 9) (.tmp 11) _ rfl base 3 i0 _ 1 8 Tryd.underlying124 HZ.out.1 HZ.out.2.1 HZ.out.2.2.1 HZ.out.2.2.2 rfl (by omega) (.slice A' N c') N _ rfl HOW9.out _ (some ⟨w.heap.size, 0, none⟩) 1 1 [.int .i64 (i : Int)] rfl HRD.out (cInt_one (i : Int)) HMX.out HBY.out HBS.out ?_; intro v9 w9 hown9 hg9 hat9; obtain ⟨g9, cap9, rfl, _, _⟩ := hown9.form (by omega); have HOWN9 := Lib.hid hown9; have HG9 := Lib.hid hg9; have bk9 := (BK.out.alloc (.cells #[.int .i64 (i : Int)] 3)).grown hg9 (fun q hq e => by have := HRB.out q hq; omega); have y9 := bk9.cell 2 rfl; have yf9 := bk9.frozen 2; clear hown9 hg9 hat9)
  by_cases h6 : N + 1 ≤ 6
  case pos =>
    have h6i : (N : Int) + 1 ≤ 6 := by omega
    have h6j : N ≤ 5 := by omega
    go_wp2_with fail
    go_ret
    have hg9b : Below B w w9 := below_of_grown (show Below B w (w.alloc (.cells #[.int .i64 (i : Int)] 3)) by (with_reducible refine Below.alloc ?_ ?_ _) <;> first | exact Below.refl _ _ | omega) HG9.out (by simp; omega) (fun q hq => by have := HRB.out q hq; omega)
    have ow9 : OwI 3 w9 base (some ⟨g9, 0, none⟩) (N + 1) cap9 (es ++ [(i : Int)]) := OwI.grown (by have := HOW.out.1; simp only [List.length_cons, List.length_nil]; omega) HOWN9.out
    have hgb : base ≤ g9 := (ow9.block g9 rfl).1
    refine ⟨_, _, by first | rfl | exact ret_bool (by simp; omega) | (simp [h6]; omega), ?_, ow9.far (fun q hq => by have := (ow9.block q hq).1; omega) _ _, hg9b.setCell (p := ⟨B, 2, none⟩) (Nat.le_refl _) _⟩
    have h := bk9.set_ 2 (.slice (some ⟨g9, 0, none⟩) (N + 1) cap9)
    exact h
  case neg =>
    have h6i : 6 < (N : Int) + 1 := by omega
    have h6j : 5 < N := by omega
    go_wp2_with fail
    go_ret
    have hg9b : Below B w w9 := below_of_grown (show Below B w (w.alloc (.cells #[.int .i64 (i : Int)] 3)) by (with_reducible refine Below.alloc ?_ ?_ _) <;> first | exact Below.refl _ _ | omega) HG9.out (by simp; omega) (fun q hq => by have := HRB.out q hq; omega)
    have ow9 : OwI 3 w9 base (some ⟨g9, 0, none⟩) (N + 1) cap9 (es ++ [(i : Int)]) := OwI.grown (by have := HOW.out.1; simp only [List.length_cons, List.length_nil]; omega) HOWN9.out
    have hgb : base ≤ g9 := (ow9.block g9 rfl).1
    refine ⟨_, _, by first | rfl | exact ret_bool (by simp; omega) | (simp [h6]; omega), ?_, ow9.far (fun q hq => by have := (ow9.block q hq).1; omega) _ _, hg9b.setCell (p := ⟨B, 2, none⟩) (Nat.le_refl _) _⟩
    have h := bk9.set_ 2 (.slice (some ⟨g9, 0, none⟩) (N + 1) cap9)
    exact h
end Go.Proofs.YtdikenapnncmfaaDoor
