/- Walks: which states of the machine are valid: numbers and points that are small; the reference's side. -/
import Derived.Test.YtdikenapnncmfaaHza
import Derived.Test.YtdikenapnncmfaaPa
import Derived.Test.YtdikenapnncmfaaPc
namespace Go.Proofs.Ytdikenapnncmfaa
open Go.RowKit
set_option linter.unusedVariables false
def rngB (x lo hi : Int) : Bool := decide (lo ≤ x ∧ x ≤ hi)
theorem rngB_yes {x lo hi : Int} (h1 : lo ≤ x) (h2 : x ≤ hi) : rngB x lo hi = true := decide_eq_true ⟨h1, h2⟩
theorem rngB_lo {x lo hi : Int} (h1 : x < lo) : rngB x lo hi = false := decide_eq_false (fun h => by omega)
theorem rngB_hi {x lo hi : Int} (h1 : hi < x) : rngB x lo hi = false := decide_eq_false (fun h => by omega)
theorem l00In_rng (x lo hi : Int) (w : World) : Calls Try.prog 120 #[.int .i64 x, .int .i64 lo, .int .i64 hi] w fun e w' => e = .returned (.bool (rngB x lo hi)) ∧ w = w' := by
  by_cases h1 : lo ≤ x
  · by_cases h2 : x ≤ hi
    · rw [rngB_yes h1 h2]; exact l00In_yes x lo hi w h1 h2
    · rw [rngB_hi (by omega)]; exact l00In_no x lo hi w (by omega)
  · rw [rngB_lo (by omega)]; exact l00In_no x lo hi w (by omega)
abbrev smB (x : Int) : Bool := rngB x (-1073741824) 1073741824
def pS (a : DPt) : Bool := smB a.1 && smB a.2
def nS (a : DInt64) : Bool := smB a
def enF : Int → List Int → Option Int
  | v, [] => some v
  | v, x :: r => if x ≤ v then none else enF x r
theorem enF_no {v x : Int} {l : List Int} {k : Nat} (h : enF 0 l = enF v (l.drop k)) (ha : l[k]? = some x) (hx : x ≤ v) : enF 0 l = none := by
  obtain ⟨hk, he⟩ := List.getElem?_eq_some_iff.1 ha
  rw [h, List.drop_eq_getElem_cons hk, he, enF, if_pos hx]
theorem enF_yes {v x : Int} {l : List Int} {k : Nat} (h : enF 0 l = enF v (l.drop k)) (ha : l[k]? = some x) (hx : ¬ x ≤ v) : enF 0 l = enF x (l.drop (k + 1)) := by
  obtain ⟨hk, he⟩ := List.getElem?_eq_some_iff.1 ha
  rw [h, List.drop_eq_getElem_cons hk, he, enF, if_neg hx]
theorem enF_end {v : Int} {l : List Int} (h : enF 0 l = enF v (l.drop l.length)) : enF 0 l = some v := by rw [h, List.drop_length]; rfl
section
variable {α : Type} {l : List α} {p : α → Bool} {k : Nat} {a : α}
def alU (p : α → Bool) (l : List α) (k : Nat) : Prop := ∀ j x, j < k → l[j]? = some x → p x = true
theorem alU_zero : alU p l 0 := fun j x h _ => absurd h (Nat.not_lt_zero _)
theorem alU_succ (h : alU p l k) (ha : l[k]? = some a) (hp : p a = true) : alU p l (k + 1) := fun j x hj hx => by
  rcases Nat.lt_or_ge j k with h2 | h2
  · exact h j x h2 hx
  · obtain rfl : j = k := by omega
    rw [ha] at hx; obtain rfl := Option.some.inj hx; exact hp
theorem all_no (ha : l[k]? = some a) (hp : p a = false) : l.all p = false := by
  rw [List.all_eq_false]; exact ⟨a, List.mem_of_getElem? ha, by simp [hp]⟩
theorem all_yes (h : alU p l l.length) : l.all p = true := by
  rw [List.all_eq_true]; intro x hx
  obtain ⟨j, hj⟩ := List.getElem?_of_mem hx
  exact h j x (List.getElem?_eq_some_iff.1 hj).1 hj
end
set_option maxHeartbeats 3200000 in
theorem l20Small_any (l : List DInt64) (A : Option Addr) (c B : Nat) (w : World) (hl : l.length ≤ 1048576) (r : Row RvInt64 1 w B A l) :
    Calls Try.prog 149 #[.slice A l.length c] w fun e w' => e = .returned (.bool (l.all nS)) ∧ w = w' := by
  obtain ⟨n, hn⟩ : ∃ n, n = l.length := ⟨_, rfl⟩
  rw [← hn] at hl ⊢
  have HN := Lib.hid hn
  clear hn
  go_enter Try.func149, Try.ntmps149
  go_wp2_with fail
  go_loopw [3] (fun i wr => ∃ k : Nat, k ≤ n ∧ i = .int .i64 k ∧ alU nS l k ∧ wr = w) (fun i _ => n - (intOf i).toNat)
  case atStart => exact ⟨0, Nat.zero_le _, rfl, alU_zero, rfl⟩
  case round =>
    obtain ⟨k, hk, rfl, hyes, rfl⟩ := hrel
    have HY := Lib.hid hyes
    clear hyes
    by_cases hlt : k < n
    case pos =>
      obtain ⟨x0, ha⟩ : ∃ a, l[k]? = some a := ⟨l[k]'(by have := HN.out; omega), List.getElem?_eq_getElem (by have := HN.out; omega)⟩
      obtain ⟨g, o, rowc, rfl, hg, hRc, hcc⟩ := (r).elem ha
      obtain rfl := hRc
      have c0 : wr.cell? ⟨g, o + k, none⟩ = some (.int .i64 x0) := by have h := hcc 0 _ rfl; rw [Nat.mul_one] at h; exact h
      clear hcc
      have HA := Lib.hid ha
      clear ha r
      have hki : (k : Int) < (n : Int) := by omega
      have C := l00In_rng x0 (-1073741824) 1073741824 wr
      rcases hv : rngB x0 (-1073741824) 1073741824 with _ | _
      case false =>
        rw [hv] at C
        have HP := Lib.hid (show nS x0 = false from hv)
        have CC := Lib.hid C
        clear hv C
        go_wp2_with (go_at_call 120; refine CC.out.mono ?_; rintro e w1 ⟨rfl, rfl⟩)
        go_ret
        exact ⟨ret_bool (all_no HA.out HP.out).symm, rfl⟩
      case true =>
        rw [hv] at C
        have HP := Lib.hid (show nS x0 = true from hv)
        have CC := Lib.hid C
        clear hv C
        go_wp2_with (go_at_call 120; refine CC.out.mono ?_; rintro e w1 ⟨rfl, rfl⟩)
        go_roundw
        case rel => exact ⟨k + 1, by omega, by go_num, alU_succ HY.out HA.out HP.out, by first | trivial | rfl⟩
        case measure => simp [intOf]; omega
    case neg =>
      obtain rfl : k = n := by omega
      go_wp2_with fail
      go_ret
      exact ⟨ret_bool (all_yes (by rw [← HN.out]; exact HY.out)).symm, rfl⟩
set_option maxHeartbeats 3200000 in
theorem l20Points_any (l : List DPt) (A : Option Addr) (c B : Nat) (w : World) (hl : l.length ≤ 1048576) (r : Row RvPt 2 w B A l) :
    Calls Try.prog 148 #[.slice A l.length c] w fun e w' => e = .returned (.bool (l.all pS)) ∧ w = w' := by
  obtain ⟨n, hn⟩ : ∃ n, n = l.length := ⟨_, rfl⟩
  rw [← hn] at hl ⊢
  have HN := Lib.hid hn
  clear hn
  go_enter Try.func148, Try.ntmps148
  go_wp2_with fail
  go_loopw [3] (fun i wr => ∃ k : Nat, k ≤ n ∧ i = .int .i64 k ∧ alU pS l k ∧ wr = w) (fun i _ => n - (intOf i).toNat)
  case atStart => exact ⟨0, Nat.zero_le _, rfl, alU_zero, rfl⟩
  case round =>
    obtain ⟨k, hk, rfl, hyes, rfl⟩ := hrel
    have HY := Lib.hid hyes
    clear hyes
    by_cases hlt : k < n
    case pos =>
      obtain ⟨⟨x0, x1⟩, ha⟩ : ∃ a, l[k]? = some a := ⟨l[k]'(by have := HN.out; omega), List.getElem?_eq_getElem (by have := HN.out; omega)⟩
      obtain ⟨g, o, rowc, rfl, hg, hRc, hcc⟩ := (r).elem ha
      obtain rfl := hRc
      have c0 : wr.cell? ⟨g, o + k * 2, none⟩ = some (.int .i64 x0) := hcc 0 _ rfl
      have c1 : wr.cell? ⟨g, o + k * 2 + 1, none⟩ = some (.int .i64 x1) := hcc 1 _ rfl
      clear hcc
      have HA := Lib.hid ha
      clear ha r
      have hki : (k : Int) < (n : Int) := by omega
      have C0 := l00In_rng x0 (-1073741824) 1073741824 wr
      have C1 := l00In_rng x1 (-1073741824) 1073741824 wr
      rcases h0 : rngB x0 (-1073741824) 1073741824 with _ | _
      case false =>
        have HP := Lib.hid (show pS (x0, x1) = false from by show (smB x0 && smB x1) = _; unfold smB; rw [h0]; rfl)
        have HP := Lib.hid (show pS (x0, x1) = false from by show (smB x0 && smB x1) = _; unfold smB; rw [h0]; rfl)
        rw [h0] at C0
        have D0 := Lib.hid C0
        clear h0 C0 C1
        go_wp2_with (go_at_call 120; first | (with_reducible refine D0.out.mono ?_; rintro e w1 ⟨rfl, rfl⟩))
        go_ret
        exact ⟨ret_bool (all_no HA.out HP.out).symm, rfl⟩
      case true =>
        rcases h1 : rngB x1 (-1073741824) 1073741824 with _ | _
        case false =>
          have HP := Lib.hid (show pS (x0, x1) = false from by show (smB x0 && smB x1) = _; unfold smB; rw [h0, h1]; rfl)
          rw [h0] at C0
          rw [h1] at C1
          have D0 := Lib.hid C0
          have D1 := Lib.hid C1
          clear h0 h1 C0 C1
          go_wp2_with (go_at_call 120; first | (with_reducible refine D0.out.mono ?_; rintro e w1 ⟨rfl, rfl⟩) | (with_reducible refine D1.out.mono ?_; rintro e w1 ⟨rfl, rfl⟩))
          go_ret
          exact ⟨ret_bool (all_no HA.out HP.out).symm, rfl⟩
        case true =>
          have HP := Lib.hid (show pS (x0, x1) = true from by show (smB x0 && smB x1) = _; unfold smB; rw [h0, h1]; rfl)
          rw [h0] at C0
          rw [h1] at C1
          have D0 := Lib.hid C0
          have D1 := Lib.hid C1
          clear h0 h1 C0 C1
          go_wp2_with (go_at_call 120; first | (with_reducible refine D0.out.mono ?_; rintro e w1 ⟨rfl, rfl⟩) | (with_reducible refine D1.out.mono ?_; rintro e w1 ⟨rfl, rfl⟩))
          go_roundw
          case rel => exact ⟨k + 1, by omega, by go_num, alU_succ HY.out HA.out HP.out, by first | trivial | rfl⟩
          case measure => simp [intOf]; omega
    case neg =>
      obtain rfl : k = n := by omega
      go_wp2_with fail
      go_ret
      exact ⟨ret_bool (all_yes (by rw [← HN.out]; exact HY.out)).symm, rfl⟩
def vH : DHinter → Bool := fun ⟨a0, a1l, a2l, a3l, a4l, a5l, a6l, a7l, a8, a9, a10, a11, a12⟩ => decide ((2 ≤ a1l.length ∧ a1l.length ≤ 242) ∧ a2l.length = a1l.length ∧ a3l.length = a1l.length ∧ a4l.length = a1l.length) && (decide (enF 0 a5l = some ((a1l.length : Int) - 2)) && (decide (a7l.length ≤ 32 ∧ a6l.length ≤ 16) && (a1l.all pS && (a2l.all pS && (a7l.all nS && (a6l.all nS && (rngB a0 1 128 && (rngB a9 0 ((a1l.length : Int) - 1) && (rngB a10 0 5 && (rngB a11 0 32767 && (rngB a12 0 32767)))))))))))
theorem vH_eq (a0 : Int) (a1l : List DPt) (a2l : List DPt) (a3l : List DBool) (a4l : List DBool) (a5l : List DInt64) (a6l : List DInt64) (a7l : List DInt64) (a8 : Bool) (a9 : Int) (a10 : Int) (a11 : Int) (a12 : Int) : vH (a0, a1l, a2l, a3l, a4l, a5l, a6l, a7l, a8, a9, a10, a11, a12) = (decide ((2 ≤ a1l.length ∧ a1l.length ≤ 242) ∧ a2l.length = a1l.length ∧ a3l.length = a1l.length ∧ a4l.length = a1l.length) && (decide (enF 0 a5l = some ((a1l.length : Int) - 2)) && (decide (a7l.length ≤ 32 ∧ a6l.length ≤ 16) && (a1l.all pS && (a2l.all pS && (a7l.all nS && (a6l.all nS && (rngB a0 1 128 && (rngB a9 0 ((a1l.length : Int) - 1) && (rngB a10 0 5 && (rngB a11 0 32767 && (rngB a12 0 32767)))))))))))) := rfl
set_option maxRecDepth 100000 in
set_option maxHeartbeats 12800000 in
theorem l20Ok_any (a0 : Int) (a1A : Option Addr) (a1c : Nat) (a1l : List DPt) (a2A : Option Addr) (a2c : Nat) (a2l : List DPt) (a3A : Option Addr) (a3c : Nat) (a3l : List DBool) (a4A : Option Addr) (a4c : Nat) (a4l : List DBool) (a5A : Option Addr) (a5c : Nat) (a5l : List DInt64) (a6A : Option Addr) (a6c : Nat) (a6l : List DInt64) (a7A : Option Addr) (a7c : Nat) (a7l : List DInt64) (a8 : Bool) (a9 : Int) (a10 : Int) (a11 : Int) (a12 : Int) (b B : Nat) (w : World) (h_a : totHinter (a0, a1l, a2l, a3l, a4l, a5l, a6l, a7l, a8, a9, a10, a11, a12) ≤ 1048576) (s0 : w.cell? ⟨b, 0, none⟩ = some (.int .i64 a0)) (s1 : w.cell? ⟨b, 1, none⟩ = some (.slice a1A a1l.length a1c)) (s2 : w.cell? ⟨b, 2, none⟩ = some (.slice a2A a2l.length a2c)) (s3 : w.cell? ⟨b, 3, none⟩ = some (.slice a3A a3l.length a3c)) (s4 : w.cell? ⟨b, 4, none⟩ = some (.slice a4A a4l.length a4c)) (s5 : w.cell? ⟨b, 5, none⟩ = some (.slice a5A a5l.length a5c)) (s6 : w.cell? ⟨b, 6, none⟩ = some (.slice a6A a6l.length a6c)) (s7 : w.cell? ⟨b, 7, none⟩ = some (.slice a7A a7l.length a7c)) (s8 : w.cell? ⟨b, 8, none⟩ = some (.bool a8)) (s9 : w.cell? ⟨b, 9, none⟩ = some (.int .i64 a9)) (s10 : w.cell? ⟨b, 10, none⟩ = some (.int .i64 a10)) (s11 : w.cell? ⟨b, 11, none⟩ = some (.int .i64 a11)) (s12 : w.cell? ⟨b, 12, none⟩ = some (.int .i64 a12)) (r_a1 : Row RvPt 2 w B a1A a1l) (r_a2 : Row RvPt 2 w B a2A a2l) (r_a3 : Row RvBool 1 w B a3A a3l) (r_a4 : Row RvBool 1 w B a4A a4l) (r_a5 : Row RvInt64 1 w B a5A a5l) (r_a6 : Row RvInt64 1 w B a6A a6l) (r_a7 : Row RvInt64 1 w B a7A a7l) :
    Calls Try.prog 100 #[.pointer (some ⟨b, 0, none⟩)] w fun e w' => e = .returned (.bool (vH (a0, a1l, a2l, a3l, a4l, a5l, a6l, a7l, a8, a9, a10, a11, a12))) ∧ w = w' := by
  simp only [totHinter] at h_a
  have hl_a1 : a1l.length ≤ 1048576 := Nat.le_trans (totRow_len totPt _) (by omega)
  have hl_a2 : a2l.length ≤ 1048576 := Nat.le_trans (totRow_len totPt _) (by omega)
  have hl_a3 : a3l.length ≤ 1048576 := Nat.le_trans (totRow_len totBool _) (by omega)
  have hl_a4 : a4l.length ≤ 1048576 := Nat.le_trans (totRow_len totBool _) (by omega)
  have hl_a5 : a5l.length ≤ 1048576 := Nat.le_trans (totRow_len totInt64 _) (by omega)
  have hl_a6 : a6l.length ≤ 1048576 := Nat.le_trans (totRow_len totInt64 _) (by omega)
  have hl_a7 : a7l.length ≤ 1048576 := Nat.le_trans (totRow_len totInt64 _) (by omega)
  clear h_a
  rw [vH_eq]
  have CO := Lib.hid (l20Points_any a1l a1A a1c B w hl_a1 r_a1)
  have CN := Lib.hid (l20Points_any a2l a2A a2c B w hl_a2 r_a2)
  have CS := Lib.hid (l20Small_any a7l a7A a7c B w hl_a7 r_a7)
  have CV := Lib.hid (l20Small_any a6l a6A a6c B w hl_a6 r_a6)
  generalize a1l.all pS = v3 at CO ⊢
  generalize a2l.all pS = v4 at CN ⊢
  generalize a7l.all nS = v5 at CS ⊢
  generalize a6l.all nS = v6 at CV ⊢
  have R7 := Lib.hid (fun w1 => l00In_rng a0 1 128 w1)
  generalize rngB a0 1 128 = v7 at R7 ⊢
  have R9 := Lib.hid (fun w1 => l00In_rng a10 0 5 w1)
  generalize rngB a10 0 5 = v9 at R9 ⊢
  have R10 := Lib.hid (fun w1 => l00In_rng a11 0 32767 w1)
  generalize rngB a11 0 32767 = v10 at R10 ⊢
  have R11 := Lib.hid (fun w1 => l00In_rng a12 0 32767 w1)
  generalize rngB a12 0 32767 = v11 at R11 ⊢
  have R8 := Lib.hid (fun w1 => l00In_rng a9 0 ((a1l.length : Int) - 1) w1)
  generalize rngB a9 0 ((a1l.length : Int) - 1) = v8 at R8 ⊢
  obtain ⟨n1, hn1⟩ : ∃ n, n = a1l.length := ⟨_, rfl⟩
  rw [← hn1] at hl_a1 s1 ⊢
  obtain ⟨n2, hn2⟩ : ∃ n, n = a2l.length := ⟨_, rfl⟩
  rw [← hn2] at hl_a2 s2 ⊢
  obtain ⟨n3, hn3⟩ : ∃ n, n = a3l.length := ⟨_, rfl⟩
  rw [← hn3] at hl_a3 s3 ⊢
  obtain ⟨n4, hn4⟩ : ∃ n, n = a4l.length := ⟨_, rfl⟩
  rw [← hn4] at hl_a4 s4 ⊢
  obtain ⟨n5, hn5⟩ : ∃ n, n = a5l.length := ⟨_, rfl⟩
  rw [← hn5] at hl_a5 s5
  obtain ⟨n6, hn6⟩ : ∃ n, n = a6l.length := ⟨_, rfl⟩
  rw [← hn6] at hl_a6 s6 ⊢
  obtain ⟨n7, hn7⟩ : ∃ n, n = a7l.length := ⟨_, rfl⟩
  rw [← hn7] at hl_a7 s7 ⊢
  rw [← hn1] at CO R8
  rw [← hn2] at CN
  rw [← hn7] at CS
  rw [← hn6] at CV
  have HN5 := Lib.hid hn5
  clear hn1 hn2 hn3 hn4 hn5 hn6 hn7
  obtain ⟨F, hF⟩ : ∃ F, F = enF 0 a5l := ⟨_, rfl⟩
  rw [← hF]
  have HF := Lib.hid hF
  clear hF
  obtain ⟨d1, hd1⟩ : ∃ d, d = decide ((2 ≤ n1 ∧ n1 ≤ 242) ∧ n2 = n1 ∧ n3 = n1 ∧ n4 = n1) := ⟨_, rfl⟩
  rw [← hd1]
  have HD1 := Lib.hid hd1
  clear hd1
  obtain ⟨d2, hd2⟩ : ∃ d, d = decide (F = some ((n1 : Int) - 2)) := ⟨_, rfl⟩
  rw [← hd2]
  have HD2 := Lib.hid hd2
  clear hd2
  obtain ⟨d3, hd3⟩ : ∃ d, d = decide (n7 ≤ 32 ∧ n6 ≤ 16) := ⟨_, rfl⟩
  rw [← hd3]
  have HD3 := Lib.hid hd3
  clear hd3
  clear r_a1 r_a2 r_a3 r_a4 r_a6 r_a7
  by_cases g0 : (n2 : Int) < 2
  case pos =>
    have H := Lib.hid (show d1 = false from HD1.out.trans (decide_eq_false (by omega)))
    have t0 : decide ((n2 : Int) < 2) = true := decide_eq_true (by omega)
    go_enter Try.func100, Try.ntmps100
    go_wp2_with fail
    go_ret
    exact ⟨ret_bool (by rw [H.out]; rfl), rfl⟩
  case neg =>
    have t0 : decide ((n2 : Int) < 2) = false := decide_eq_false (by omega)
    by_cases g1 : (242 : Int) < (n2 : Int)
    case pos =>
      have H := Lib.hid (show d1 = false from HD1.out.trans (decide_eq_false (by omega)))
      have t1 : decide ((242 : Int) < (n2 : Int)) = true := decide_eq_true (by omega)
      go_enter Try.func100, Try.ntmps100
      go_wp2_with fail
      go_ret
      exact ⟨ret_bool (by rw [H.out]; rfl), rfl⟩
    case neg =>
      have t1 : decide ((242 : Int) < (n2 : Int)) = false := decide_eq_false (by omega)
      by_cases g2 : (n1 : Int) ≠ (n2 : Int)
      case pos =>
        have H := Lib.hid (show d1 = false from HD1.out.trans (decide_eq_false (by omega)))
        have t2 : ((n1 : Int) != (n2 : Int)) = true := by rw [bne_iff_ne]; omega
        go_enter Try.func100, Try.ntmps100
        go_wp2_with fail
        go_ret
        exact ⟨ret_bool (by rw [H.out]; rfl), rfl⟩
      case neg =>
        have t2 : ((n1 : Int) != (n2 : Int)) = false := by rw [bne_eq_false_iff_eq]; omega
        by_cases g3 : (n3 : Int) ≠ (n2 : Int)
        case pos =>
          have H := Lib.hid (show d1 = false from HD1.out.trans (decide_eq_false (by omega)))
          have t3 : ((n3 : Int) != (n2 : Int)) = true := by rw [bne_iff_ne]; omega
          go_enter Try.func100, Try.ntmps100
          go_wp2_with fail
          go_ret
          exact ⟨ret_bool (by rw [H.out]; rfl), rfl⟩
        case neg =>
          have t3 : ((n3 : Int) != (n2 : Int)) = false := by rw [bne_eq_false_iff_eq]; omega
          by_cases g4 : (n4 : Int) ≠ (n2 : Int)
          case pos =>
            have H := Lib.hid (show d1 = false from HD1.out.trans (decide_eq_false (by omega)))
            have t4 : ((n4 : Int) != (n2 : Int)) = true := by rw [bne_iff_ne]; omega
            go_enter Try.func100, Try.ntmps100
            go_wp2_with fail
            go_ret
            exact ⟨ret_bool (by rw [H.out]; rfl), rfl⟩
          case neg =>
            have t4 : ((n4 : Int) != (n2 : Int)) = false := by rw [bne_eq_false_iff_eq]; omega
            have G := Lib.hid (show d1 = true from HD1.out.trans (decide_eq_true (by omega)))
            have hn : 2 ≤ n2 ∧ n2 ≤ 242 := by omega
            obtain rfl : n1 = n2 := by omega
            clear g0 g1 g2 g3 g4
            obtain ⟨hnl, hnh⟩ := hn
            go_enter Try.func100, Try.ntmps100
            go_wp2_with fail
            clear t0 t1 t2 t3 t4
            go_loopw [4, 5] (fun u i wr => ∃ (k : Nat) (v : Int), k ≤ n5 ∧ i = .int .i64 k ∧ u = .int .i64 v ∧ enF 0 a5l = enF v (a5l.drop k) ∧ wr = w) (fun _ i _ => n5 - (intOf i).toNat)
            case atStart => exact ⟨0, 0, Nat.zero_le _, rfl, rfl, rfl, rfl⟩
            case round =>
              obtain ⟨k, v, hk, rfl, rfl, he, rfl⟩ := hrel
              have HE := Lib.hid he
              clear he
              by_cases hlt : k < n5
              case pos =>
                obtain ⟨x0, ha⟩ : ∃ a, a5l[k]? = some a := ⟨a5l[k]'(by have := HN5.out; omega), List.getElem?_eq_getElem (by have := HN5.out; omega)⟩
                obtain ⟨g, o, rowc, rfl, hg, hRc, hcc⟩ := (r_a5).elem ha
                obtain rfl := hRc
                have c0 : wr.cell? ⟨g, o + k, none⟩ = some (.int .i64 x0) := by have h := hcc 0 _ rfl; rw [Nat.mul_one] at h; exact h
                clear hcc
                have HA := Lib.hid ha
                clear ha r_a5
                have hki : (k : Int) < (n5 : Int) := by omega
                by_cases hx : x0 ≤ v
                case pos =>
                  have hd : decide (x0 ≤ v) = true := decide_eq_true hx
                  have H := Lib.hid (show d2 = false from HD2.out.trans (by rw [HF.out, enF_no HE.out HA.out hx]; rfl))
                  clear hx
                  go_wp2_with fail
                  go_ret
                  exact ⟨ret_bool (by rw [H.out]; simp), rfl⟩
                case neg =>
                  have hd : decide (x0 ≤ v) = false := decide_eq_false hx
                  have H := Lib.hid (enF_yes HE.out HA.out hx)
                  clear hx
                  go_wp2_with fail
                  go_roundw
                  case rel => exact ⟨k + 1, x0, by omega, by go_num, rfl, H.out, by first | trivial | rfl⟩
                  case measure => simp [intOf]; omega
              case neg =>
                obtain rfl : n5 = k := by omega
                have HV := Lib.hid (show F = some v from HF.out.trans (enF_end (by rw [← HN5.out]; exact HE.out)))
                clear r_a5
                have hw2 : IntKind.i64.wrap ((n1 : Int) - 2) = (n1 : Int) - 2 := IntWalk.i64_in _ (by omega)
                have hw1 : IntKind.i64.wrap ((n1 : Int) - 1) = (n1 : Int) - 1 := IntWalk.i64_in _ (by omega)
                by_cases e0 : v = (n1 : Int) - 2
                case neg =>
                  have t0 : (v != (n1 : Int) - 2) = true := by rw [bne_iff_ne]; exact e0
                  have H := Lib.hid (show d2 = false from HD2.out.trans (decide_eq_false (by rw [HV.out]; intro h; exact e0 (Option.some.inj h))))
                  clear e0
                  go_wp2_with fail
                  go_ret
                  exact ⟨ret_bool (by rw [H.out]; simp), rfl⟩
                case pos =>
                  have t0 : (v != (n1 : Int) - 2) = false := by rw [bne_eq_false_iff_eq]; exact e0
                  have HB := Lib.hid (show d2 = true from HD2.out.trans (decide_eq_true (by rw [HV.out, e0])))
                  clear e0
                  by_cases e1 : (32 : Int) < (n7 : Int)
                  case pos =>
                    have t1 : decide ((32 : Int) < (n7 : Int)) = true := decide_eq_true e1
                    have H := Lib.hid (show d3 = false from HD3.out.trans (decide_eq_false (by omega)))
                    go_wp2_with fail
                    go_ret
                    exact ⟨ret_bool (by rw [H.out]; simp), rfl⟩
                  case neg =>
                    have t1 : decide ((32 : Int) < (n7 : Int)) = false := decide_eq_false e1
                    by_cases e2 : (16 : Int) < (n6 : Int)
                    case pos =>
                      have t2 : decide ((16 : Int) < (n6 : Int)) = true := decide_eq_true e2
                      have H := Lib.hid (show d3 = false from HD3.out.trans (decide_eq_false (by omega)))
                      go_wp2_with fail
                      go_ret
                      exact ⟨ret_bool (by rw [H.out]; simp), rfl⟩
                    case neg =>
                      have t2 : decide ((16 : Int) < (n6 : Int)) = false := decide_eq_false e2
                      have HC := Lib.hid (show d3 = true from HD3.out.trans (decide_eq_true (by omega)))
                      clear e1 e2
                      go_wp2_with fail
                      refine CO.out.mono ?_
                      rintro e w1 ⟨rfl, rfl⟩
                      cases v3
                      case false =>
                        go_wp2_with fail
                        go_ret
                        exact ⟨ret_bool (by rw [G.out, HB.out, HC.out]; simp), rfl⟩
                      case true =>
                        go_wp2_with fail
                        refine CN.out.mono ?_
                        rintro e w1 ⟨rfl, rfl⟩
                        cases v4
                        case false =>
                          go_wp2_with fail
                          go_ret
                          exact ⟨ret_bool (by rw [G.out, HB.out, HC.out]; simp), rfl⟩
                        case true =>
                          go_wp2_with fail
                          refine CS.out.mono ?_
                          rintro e w1 ⟨rfl, rfl⟩
                          cases v5
                          case false =>
                            go_wp2_with fail
                            go_ret
                            exact ⟨ret_bool (by rw [G.out, HB.out, HC.out]; simp), rfl⟩
                          case true =>
                            go_wp2_with fail
                            refine CV.out.mono ?_
                            rintro e w1 ⟨rfl, rfl⟩
                            cases v6
                            case false =>
                              go_wp2_with fail
                              go_ret
                              exact ⟨ret_bool (by rw [G.out, HB.out, HC.out]; simp), rfl⟩
                            case true =>
                              go_wp2_with fail
                              refine (R7.out _).mono ?_
                              rintro e w1 ⟨rfl, rfl⟩
                              cases v7
                              case false =>
                                go_wp2_with fail
                                go_ret
                                exact ⟨ret_bool (by rw [G.out, HB.out, HC.out]; simp), rfl⟩
                              case true =>
                                go_wp2_with fail
                                refine (R8.out _).mono ?_
                                rintro e w1 ⟨rfl, rfl⟩
                                cases v8
                                case false =>
                                  go_wp2_with fail
                                  go_ret
                                  exact ⟨ret_bool (by rw [G.out, HB.out, HC.out]; simp), rfl⟩
                                case true =>
                                  go_wp2_with fail
                                  refine (R9.out _).mono ?_
                                  rintro e w1 ⟨rfl, rfl⟩
                                  cases v9
                                  case false =>
                                    go_wp2_with fail
                                    go_ret
                                    exact ⟨ret_bool (by rw [G.out, HB.out, HC.out]; simp), rfl⟩
                                  case true =>
                                    go_wp2_with fail
                                    refine (R10.out _).mono ?_
                                    rintro e w1 ⟨rfl, rfl⟩
                                    cases v10
                                    case false =>
                                      go_wp2_with fail
                                      go_ret
                                      exact ⟨ret_bool (by rw [G.out, HB.out, HC.out]; simp), rfl⟩
                                    case true =>
                                      go_wp2_with fail
                                      refine (R11.out _).mono ?_
                                      rintro e w1 ⟨rfl, rfl⟩
                                      cases v11
                                      case false =>
                                        go_wp2_with fail
                                        go_ret
                                        exact ⟨ret_bool (by rw [G.out, HB.out, HC.out]; simp), rfl⟩
                                      case true =>
                                        go_wp2_with fail
                                        go_ret
                                        exact ⟨ret_bool (by rw [G.out, HB.out, HC.out]; rfl), rfl⟩
set_option maxHeartbeats 3200000 in
theorem specValidHinter_any (a0 : Int) (a1A : Option Addr) (a1c : Nat) (a1l : List DPt) (a2A : Option Addr) (a2c : Nat) (a2l : List DPt) (a3A : Option Addr) (a3c : Nat) (a3l : List DBool) (a4A : Option Addr) (a4c : Nat) (a4l : List DBool) (a5A : Option Addr) (a5c : Nat) (a5l : List DInt64) (a6A : Option Addr) (a6c : Nat) (a6l : List DInt64) (a7A : Option Addr) (a7c : Nat) (a7l : List DInt64) (a8 : Bool) (a9 : Int) (a10 : Int) (a11 : Int) (a12 : Int) (w : World) (h_a : totHinter (a0, a1l, a2l, a3l, a4l, a5l, a6l, a7l, a8, a9, a10, a11, a12) ≤ 1048576) (r_a1 : Row RvPt 2 w w.heap.size a1A a1l) (r_a2 : Row RvPt 2 w w.heap.size a2A a2l) (r_a3 : Row RvBool 1 w w.heap.size a3A a3l) (r_a4 : Row RvBool 1 w w.heap.size a4A a4l) (r_a5 : Row RvInt64 1 w w.heap.size a5A a5l) (r_a6 : Row RvInt64 1 w w.heap.size a6A a6l) (r_a7 : Row RvInt64 1 w w.heap.size a7A a7l) :
    Calls Try.prog 45 #[.agg #[.int .i64 a0, .slice a1A a1l.length a1c, .slice a2A a2l.length a2c, .slice a3A a3l.length a3c, .slice a4A a4l.length a4c, .slice a5A a5l.length a5c, .slice a6A a6l.length a6c, .slice a7A a7l.length a7c, .bool a8, .int .i64 a9, .int .i64 a10, .int .i64 a11, .int .i64 a12]] w fun e w' => e = .returned (.bool (vH (a0, a1l, a2l, a3l, a4l, a5l, a6l, a7l, a8, a9, a10, a11, a12))) ∧ Below w.heap.size w w' := by
  have C := Lib.hid (fun w1 z0 z1 z2 z3 z4 z5 z6 z7 z8 z9 z10 z11 z12 q_a1 q_a2 q_a3 q_a4 q_a5 q_a6 q_a7 => l20Ok_any a0 a1A a1c a1l a2A a2c a2l a3A a3c a3l a4A a4c a4l a5A a5c a5l a6A a6c a6l a7A a7c a7l a8 a9 a10 a11 a12 w.heap.size w.heap.size w1 h_a z0 z1 z2 z3 z4 z5 z6 z7 z8 z9 z10 z11 z12 q_a1 q_a2 q_a3 q_a4 q_a5 q_a6 q_a7)
  generalize vH (a0, a1l, a2l, a3l, a4l, a5l, a6l, a7l, a8, a9, a10, a11, a12) = v at C ⊢
  go_enter Try.func45, Try.ntmps45
  go_wp2_with fail
  refine (C.out _ (by simp [go_sem]) (by simp [go_sem]) (by simp [go_sem]) (by simp [go_sem]) (by simp [go_sem]) (by simp [go_sem]) (by simp [go_sem]) (by simp [go_sem]) (by simp [go_sem]) (by simp [go_sem]) (by simp [go_sem]) (by simp [go_sem]) (by simp [go_sem]) (Row.carry (w' := _) r_a1 (by repeat' (first | with_reducible assumption | with_reducible exact Below.refl _ _ | (with_reducible refine Below.setCell ?_ ?_ _) | (with_reducible refine Below.alloc ?_ ?_ _) | (with_reducible refine Below.drew ?_) | (with_reducible refine below_dr ?_ _) | (with_reducible refine Below.trans ?_ (Below.mono (by with_reducible assumption) ?_)) | omega | (simp; done) | (simp; omega))) (Nat.le_refl _)) (Row.carry (w' := _) r_a2 (by repeat' (first | with_reducible assumption | with_reducible exact Below.refl _ _ | (with_reducible refine Below.setCell ?_ ?_ _) | (with_reducible refine Below.alloc ?_ ?_ _) | (with_reducible refine Below.drew ?_) | (with_reducible refine below_dr ?_ _) | (with_reducible refine Below.trans ?_ (Below.mono (by with_reducible assumption) ?_)) | omega | (simp; done) | (simp; omega))) (Nat.le_refl _)) (Row.carry (w' := _) r_a3 (by repeat' (first | with_reducible assumption | with_reducible exact Below.refl _ _ | (with_reducible refine Below.setCell ?_ ?_ _) | (with_reducible refine Below.alloc ?_ ?_ _) | (with_reducible refine Below.drew ?_) | (with_reducible refine below_dr ?_ _) | (with_reducible refine Below.trans ?_ (Below.mono (by with_reducible assumption) ?_)) | omega | (simp; done) | (simp; omega))) (Nat.le_refl _)) (Row.carry (w' := _) r_a4 (by repeat' (first | with_reducible assumption | with_reducible exact Below.refl _ _ | (with_reducible refine Below.setCell ?_ ?_ _) | (with_reducible refine Below.alloc ?_ ?_ _) | (with_reducible refine Below.drew ?_) | (with_reducible refine below_dr ?_ _) | (with_reducible refine Below.trans ?_ (Below.mono (by with_reducible assumption) ?_)) | omega | (simp; done) | (simp; omega))) (Nat.le_refl _)) (Row.carry (w' := _) r_a5 (by repeat' (first | with_reducible assumption | with_reducible exact Below.refl _ _ | (with_reducible refine Below.setCell ?_ ?_ _) | (with_reducible refine Below.alloc ?_ ?_ _) | (with_reducible refine Below.drew ?_) | (with_reducible refine below_dr ?_ _) | (with_reducible refine Below.trans ?_ (Below.mono (by with_reducible assumption) ?_)) | omega | (simp; done) | (simp; omega))) (Nat.le_refl _)) (Row.carry (w' := _) r_a6 (by repeat' (first | with_reducible assumption | with_reducible exact Below.refl _ _ | (with_reducible refine Below.setCell ?_ ?_ _) | (with_reducible refine Below.alloc ?_ ?_ _) | (with_reducible refine Below.drew ?_) | (with_reducible refine below_dr ?_ _) | (with_reducible refine Below.trans ?_ (Below.mono (by with_reducible assumption) ?_)) | omega | (simp; done) | (simp; omega))) (Nat.le_refl _)) (Row.carry (w' := _) r_a7 (by repeat' (first | with_reducible assumption | with_reducible exact Below.refl _ _ | (with_reducible refine Below.setCell ?_ ?_ _) | (with_reducible refine Below.alloc ?_ ?_ _) | (with_reducible refine Below.drew ?_) | (with_reducible refine below_dr ?_ _) | (with_reducible refine Below.trans ?_ (Below.mono (by with_reducible assumption) ?_)) | omega | (simp; done) | (simp; omega))) (Nat.le_refl _))).mono ?_
  rintro e w1 ⟨rfl, rfl⟩
  go_wp2_with fail
  go_ret
  exact ⟨rfl, by repeat' (first | with_reducible assumption | with_reducible exact Below.refl _ _ | (with_reducible refine Below.setCell ?_ ?_ _) | (with_reducible refine Below.alloc ?_ ?_ _) | (with_reducible refine Below.drew ?_) | (with_reducible refine below_dr ?_ _) | (with_reducible refine Below.trans ?_ (Below.mono (by with_reducible assumption) ?_)) | omega | (simp; done) | (simp; omega))⟩
end Go.Proofs.Ytdikenapnncmfaa
