/- Walks: the corners of the box of points, on both sides. -/
import Derived.Test.YtdeemhfhmgnbgaaVp
import Derived.StillTailTactics
namespace Go.Proofs.Ytdeemhfhmgnbgaa
open Go.RowKit
set_option linter.unusedVariables false
def mnI (a b : Int) : Int := min a b
def mxI (a b : Int) : Int := max a b
set_option maxHeartbeats 400000 in
theorem l00Min_any0 (a b : Int) (w : World) :
    Calls Try.prog 71 #[.int .i64 a, .int .i64 b] w fun e w' => e = .returned (.int .i64 (min a b)) ∧ w = w' := by
  by_cases h : a < b
  · have H := Lib.hid (show a = min a b by omega)
    go_enter Try.func71, Try.ntmps71
    go_wp2
    go_ret
    exact ⟨ret_i64 H.out, rfl⟩
  · have H := Lib.hid (show b = min a b by omega)
    have h2 : decide (a < b) = false := by simpa using h
    go_enter Try.func71, Try.ntmps71
    go_wp2
    go_ret
    exact ⟨ret_i64 H.out, rfl⟩
theorem l00Min_any (a b : Int) (w : World) :
    Calls Try.prog 71 #[.int .i64 a, .int .i64 b] w fun e w' => e = .returned (.int .i64 (mnI a b)) ∧ w = w' := l00Min_any0 a b w
set_option maxHeartbeats 400000 in
theorem l00Max_any0 (a b : Int) (w : World) :
    Calls Try.prog 72 #[.int .i64 a, .int .i64 b] w fun e w' => e = .returned (.int .i64 (max a b)) ∧ w = w' := by
  by_cases h : b < a
  · have H := Lib.hid (show a = max a b by omega)
    go_enter Try.func72, Try.ntmps72
    go_wp2
    go_ret
    exact ⟨ret_i64 H.out, rfl⟩
  · have H := Lib.hid (show b = max a b by omega)
    have h2 : decide (b < a) = false := by simpa using h
    go_enter Try.func72, Try.ntmps72
    go_wp2
    go_ret
    exact ⟨ret_i64 H.out, rfl⟩
theorem l00MaxI_any (a b : Int) (w : World) :
    Calls Try.prog 72 #[.int .i64 a, .int .i64 b] w fun e w' => e = .returned (.int .i64 (mxI a b)) ∧ w = w' := l00Max_any0 a b w
theorem run_min2 {P : Program} (w : World) (ts : Array TypeId) (t : TypeId) (x y : Int) :
    (Builtin.min_ ts t #[.int .i64 x, .int .i64 y]).run P w = .ok (.int .i64 (mnI x y)) w := by
  have e : ∀ a b : Int, (if b < a then b else a) = mnI a b := by
    intro a b; unfold mnI; rw [Int.min_def]; split <;> split <;> omega
  simp [Builtin.min_, Builtin.min2, e]
theorem run_max2 {P : Program} (w : World) (ts : Array TypeId) (t : TypeId) (x y : Int) :
    (Builtin.max_ ts t #[.int .i64 x, .int .i64 y]).run P w = .ok (.int .i64 (mxI x y)) w := by
  have e : ∀ a b : Int, (if b > a then b else a) = mxI a b := by
    intro a b; unfold mxI; rw [Int.max_def]; split <;> split <;> omega
  simp [Builtin.max_, Builtin.max2, e]
/-- What a fold over the first k points gives, beginning at the first point. -/
def bxs (f : Int → Int → Int) (g : APt → Int) (l : List APt) : Nat → Int
  | 0 => match l[0]? with | some a => g a | none => 0
  | k + 1 => match l[k]? with | some a => f (bxs f g l k) (g a) | none => bxs f g l k
def bX1 (l : List APt) (k : Nat) : Int := bxs mnI (·.1) l k
def bY1 (l : List APt) (k : Nat) : Int := bxs mnI (·.2) l k
def bX2 (l : List APt) (k : Nat) : Int := bxs mxI (·.1) l k
def bY2 (l : List APt) (k : Nat) : Int := bxs mxI (·.2) l k
theorem box_zero {l : List APt} {x y : Int} (h : l[0]? = some (x, y)) : (x = bX1 l 0 ∧ y = bY1 l 0) ∧ x = bX2 l 0 ∧ y = bY2 l 0 := by
  unfold bX1 bY1 bX2 bY2 bxs; rw [h]; exact ⟨⟨rfl, rfl⟩, rfl, rfl⟩
theorem box_one {l : List APt} {x y : Int} (h : l[0]? = some (x, y)) : (x = bX1 l 1 ∧ y = bY1 l 1) ∧ x = bX2 l 1 ∧ y = bY2 l 1 := by
  unfold bX1 bY1 bX2 bY2 bxs bxs; rw [h]; simp only [mnI, mxI]; omega
theorem box_succ {l : List APt} {k : Nat} {x y : Int} (h : l[k]? = some (x, y)) : (mnI (bX1 l k) x = bX1 l (k + 1) ∧ mnI (bY1 l k) y = bY1 l (k + 1)) ∧ mxI (bX2 l k) x = bX2 l (k + 1) ∧ mxI (bY2 l k) y = bY2 l (k + 1) := by
  unfold bX1 bY1 bX2 bY2
  rw [bxs, bxs, bxs, bxs, h]; exact ⟨⟨rfl, rfl⟩, rfl, rfl⟩
theorem Blk.eq2 {w : World} {g : Nat} {t : TypeId} {x y a b : Int} (h : Blk w g t #[.int .i64 x, .int .i64 y]) (e1 : x = a) (e2 : y = b) : Blk w g t #[.int .i64 a, .int .i64 b] := by subst e1 e2; exact h
theorem pt_at {w : World} {B g o : Nat} {l : List APt} {k : Nat} {u v : Int} (r : Rd cPt 2 w B (some ⟨g, o, none⟩) l) (ha : l[k]? = some (u, v)) :
    w.cell? ⟨g, o + k * 2, none⟩ = some (.int .i64 u) ∧ w.cell? ⟨g, o + k * 2 + 1, none⟩ = some (.int .i64 v) := by
  obtain ⟨g', o', hgo, hg', hc⟩ := r.elem ha
  obtain ⟨rfl, rfl⟩ : g = g' ∧ o = o' := by injection hgo with h; injection h with h1 h2; exact ⟨h1, h2⟩
  exact ⟨hc 0 _ rfl, hc 1 _ rfl⟩
theorem Blk.set2P {w : World} {g : Nat} {t : TypeId} {x y a b : Value} (h : Blk w g t #[x, y]) : Blk ((w.setCell ⟨g, 0, none⟩ a).setCell ⟨g, 1, none⟩ b) g t #[a, b] := (h.set_ 0 a).set_ 1 b
set_option maxRecDepth 100000 in
set_option maxHeartbeats 6400000 in
theorem boundsOf_rd (l : List APt) (A : Option Addr) (c : Nat) (w : World) (h1 : 1 ≤ l.length) (hl : l.length ≤ 1048576) (r : Rd cPt 2 w w.heap.size A l) :
    Calls Try.prog 40 #[.slice A l.length c] w fun e w' => e = .returned (.tuple #[.agg #[.int .i64 (bX1 l l.length), .int .i64 (bY1 l l.length)], .agg #[.int .i64 (bX2 l l.length), .int .i64 (bY2 l l.length)]]) ∧ Below w.heap.size w w' := by
  obtain ⟨⟨x0, x1⟩, ha⟩ : ∃ a, l[0]? = some a := ⟨l[0]'(by omega), List.getElem?_eq_getElem (by omega)⟩
  have HB := Lib.hid (box_zero ha)
  obtain ⟨n, hn⟩ : ∃ n, n = l.length := ⟨_, rfl⟩
  rw [← hn] at h1 hl ⊢
  have HN := Lib.hid hn
  clear hn
  obtain ⟨g, o, rfl, hg, hc⟩ := r.elem ha
  have p0 : w.cell? ⟨g, o + 0 * 2 + 0, none⟩ = some (.int .i64 x0) := hc 0 _ rfl
  have p1 : w.cell? ⟨g, o + 0 * 2 + 1, none⟩ = some (.int .i64 x1) := hc 1 _ rfl
  simp only [Nat.zero_mul, Nat.add_zero] at p0 p1
  have hn0 : (0 : Int) < (n : Int) := by omega
  have hgW1 : ¬ g = w.heap.size := by omega
  have hgW2 : ¬ g = w.heap.size + 1 := by omega
  have hgW3 : ¬ g = w.heap.size + 2 := by omega
  have hgW4 : ¬ g = w.heap.size + 3 := by omega
  clear hc ha
  have p03 : ∀ o1 o2 o3, (((w.alloc o1).alloc o2).alloc o3).cell? ⟨g, o, none⟩ = some (.int .i64 x0) := fun o1 o2 o3 => (Below.cell (B := w.heap.size) (w := w) (by repeat' (first | with_reducible assumption | with_reducible exact Below.refl _ _ | (with_reducible refine Below.setCell ?_ ?_ _) | (with_reducible refine Below.alloc ?_ ?_ _) | (with_reducible refine Below.drew ?_) | (with_reducible refine below_dr ?_ _) | (with_reducible refine Below.trans ?_ (Below.mono (by with_reducible assumption) ?_)) | omega | (simp; done) | (simp; omega))) (p := ⟨g, o, none⟩) hg).trans p0
  have p13 : ∀ o1 o2 o3, (((w.alloc o1).alloc o2).alloc o3).cell? ⟨g, o + 1, none⟩ = some (.int .i64 x1) := fun o1 o2 o3 => (Below.cell (B := w.heap.size) (w := w) (by repeat' (first | with_reducible assumption | with_reducible exact Below.refl _ _ | (with_reducible refine Below.setCell ?_ ?_ _) | (with_reducible refine Below.alloc ?_ ?_ _) | (with_reducible refine Below.drew ?_) | (with_reducible refine below_dr ?_ _) | (with_reducible refine Below.trans ?_ (Below.mono (by with_reducible assumption) ?_)) | omega | (simp; done) | (simp; omega))) (p := ⟨g, o + 1, none⟩) hg).trans p1
  have p04 : ∀ o1 o2 o3 o4, ((((w.alloc o1).alloc o2).alloc o3).alloc o4).cell? ⟨g, o, none⟩ = some (.int .i64 x0) := fun o1 o2 o3 o4 => (Below.cell (B := w.heap.size) (w := w) (by repeat' (first | with_reducible assumption | with_reducible exact Below.refl _ _ | (with_reducible refine Below.setCell ?_ ?_ _) | (with_reducible refine Below.alloc ?_ ?_ _) | (with_reducible refine Below.drew ?_) | (with_reducible refine below_dr ?_ _) | (with_reducible refine Below.trans ?_ (Below.mono (by with_reducible assumption) ?_)) | omega | (simp; done) | (simp; omega))) (p := ⟨g, o, none⟩) hg).trans p0
  have p14 : ∀ o1 o2 o3 o4, ((((w.alloc o1).alloc o2).alloc o3).alloc o4).cell? ⟨g, o + 1, none⟩ = some (.int .i64 x1) := fun o1 o2 o3 o4 => (Below.cell (B := w.heap.size) (w := w) (by repeat' (first | with_reducible assumption | with_reducible exact Below.refl _ _ | (with_reducible refine Below.setCell ?_ ?_ _) | (with_reducible refine Below.alloc ?_ ?_ _) | (with_reducible refine Below.drew ?_) | (with_reducible refine below_dr ?_ _) | (with_reducible refine Below.trans ?_ (Below.mono (by with_reducible assumption) ?_)) | omega | (simp; done) | (simp; omega))) (p := ⟨g, o + 1, none⟩) hg).trans p1
  have RR := Lib.hid (fun (wr : World) (hbl : Below w.heap.size w wr) => r.below hbl)
  clear r
  have mn2 := fun w ts t x y => @run_min2 Try.prog w ts t x y
  have mx2 := fun w ts t x y => @run_max2 Try.prog w ts t x y
  go_enter Try.func40, Try.ntmps40
  go_upto_region 1 with fail
  go_cut [4, 5] (fun sA sB wx => ∃ q s : Nat, sA = .pointer (some ⟨q, 0, none⟩) ∧ sB = .pointer (some ⟨s, 0, none⟩) ∧ (¬ q = s ∧ w.heap.size + 2 ≤ q ∧ w.heap.size + 2 ≤ s) ∧ Blk wx q 26 #[.int .i64 x0, .int .i64 x1] ∧ Blk wx s 26 #[.int .i64 x0, .int .i64 x1] ∧ Blk wx w.heap.size 26 #[.int .i64 0, .int .i64 0] ∧ Blk wx (w.heap.size + 1) 26 #[.int .i64 0, .int .i64 0] ∧ Below w.heap.size w wx)
  case first =>
    go_region
    all_goals
      go_wp2_with fail
      go_meet
    all_goals exact ⟨_, _, rfl, rfl, by first | (simp; done) | (simp; omega), by repeat' (first | with_reducible assumption | with_reducible exact Blk.new _ _ _ | ((with_reducible refine Blk.newAt _ _ _ ?_); (first | rfl | (simp; done) | (simp; omega))) | (with_reducible apply Blk.set2P) | (with_reducible refine Blk.drew ?_) | (with_reducible refine Blk.alloc ?_ _) | (with_reducible refine Blk.far ?_ (by first | omega | (simp; done) | (simp; omega)) _)), by repeat' (first | with_reducible assumption | with_reducible exact Blk.new _ _ _ | ((with_reducible refine Blk.newAt _ _ _ ?_); (first | rfl | (simp; done) | (simp; omega))) | (with_reducible apply Blk.set2P) | (with_reducible refine Blk.drew ?_) | (with_reducible refine Blk.alloc ?_ _) | (with_reducible refine Blk.far ?_ (by first | omega | (simp; done) | (simp; omega)) _)), by repeat' (first | with_reducible assumption | with_reducible exact Blk.new _ _ _ | ((with_reducible refine Blk.newAt _ _ _ ?_); (first | rfl | (simp; done) | (simp; omega))) | (with_reducible apply Blk.set2P) | (with_reducible refine Blk.drew ?_) | (with_reducible refine Blk.alloc ?_ _) | (with_reducible refine Blk.far ?_ (by first | omega | (simp; done) | (simp; omega)) _)), by repeat' (first | with_reducible assumption | with_reducible exact Blk.new _ _ _ | ((with_reducible refine Blk.newAt _ _ _ ?_); (first | rfl | (simp; done) | (simp; omega))) | (with_reducible apply Blk.set2P) | (with_reducible refine Blk.drew ?_) | (with_reducible refine Blk.alloc ?_ _) | (with_reducible refine Blk.far ?_ (by first | omega | (simp; done) | (simp; omega)) _)), by repeat' (first | with_reducible assumption | with_reducible exact Below.refl _ _ | (with_reducible refine Below.setCell ?_ ?_ _) | (with_reducible refine Below.alloc ?_ ?_ _) | (with_reducible refine Below.drew ?_) | (with_reducible refine below_dr ?_ _) | (with_reducible refine Below.trans ?_ (Below.mono (by with_reducible assumption) ?_)) | omega | (simp; done) | (simp; omega))⟩
  case rest =>
    clear p0 p1
    obtain ⟨q, s, rfl, rfl, ⟨hqs, hq, hs⟩, b2, b3, b0, b1, g1⟩ := hcut
    replace b2 := b2.eq2 HB.out.1.1 HB.out.1.2
    replace b3 := b3.eq2 HB.out.2.1 HB.out.2.2
    clear HB
    go_wp2_with fail
    go_loopw [16] (fun i wr => ∃ k : Nat, k ≤ n ∧ i = .int .i64 (k : Int) ∧ Blk wr q 26 #[.int .i64 (bX1 l k), .int .i64 (bY1 l k)] ∧ Blk wr s 26 #[.int .i64 (bX2 l k), .int .i64 (bY2 l k)] ∧ Blk wr w.heap.size 26 #[.int .i64 0, .int .i64 0] ∧ Blk wr (w.heap.size + 1) 26 #[.int .i64 0, .int .i64 0] ∧ Below w.heap.size w wr) (fun i _ => n - (intOf i).toNat)
    case atStart => exact ⟨0, Nat.zero_le _, rfl, b2, b3, b0, b1, g1⟩
    case round =>
      clear b0 b1 b2 b3 g1
      obtain ⟨k, hk, rfl, b2, b3, b0, b1, hbl⟩ := hrel
      have zr := hbl.size
      have l2 := b2.lt
      have l3 := b3.lt
      by_cases hlt : k < n
      case pos =>
        obtain ⟨⟨u, v⟩, ha⟩ : ∃ a, l[k]? = some a := ⟨l[k]'(by have := HN.out; omega), List.getElem?_eq_getElem (by have := HN.out; omega)⟩
        have HS := Lib.hid (box_succ ha)
        obtain ⟨g', o', hgo, hg', hc⟩ := (RR.out _ hbl).elem ha
        obtain ⟨rfl, rfl⟩ : g = g' ∧ o = o' := by injection hgo with h; injection h with h1 h2; exact ⟨h1, h2⟩
        have p0 : wr.cell? ⟨g, o + k * 2, none⟩ = some (.int .i64 u) := hc 0 _ rfl
        have p1 : wr.cell? ⟨g, o + k * 2 + 1, none⟩ = some (.int .i64 v) := hc 1 _ rfl
        clear hc hgo ha
        have hki : (k : Int) < (n : Int) := by omega
        have yq0 : wr.cell? ⟨q, 0, none⟩ = some (.int .i64 (bX1 l k)) := b2.cell 0 rfl
        have yq1 : wr.cell? ⟨q, 1, none⟩ = some (.int .i64 (bY1 l k)) := b2.cell 1 rfl
        have fq0 := b2.frozen 0
        have fq1 := b2.frozen 1
        have ys0 : wr.cell? ⟨s, 0, none⟩ = some (.int .i64 (bX2 l k)) := b3.cell 0 rfl
        have ys1 : wr.cell? ⟨s, 1, none⟩ = some (.int .i64 (bY2 l k)) := b3.cell 1 rfl
        have fs0 := b3.frozen 0
        have fs1 := b3.frozen 1
        go_wp2_with fail
        go_roundw
        case rel => exact ⟨k + 1, by omega, by go_num, by rw [← HS.out.1.1, ← HS.out.1.2]; repeat' (first | with_reducible assumption | with_reducible exact Blk.new _ _ _ | ((with_reducible refine Blk.newAt _ _ _ ?_); (first | rfl | (simp; done) | (simp; omega))) | (with_reducible apply Blk.set2P) | (with_reducible refine Blk.drew ?_) | (with_reducible refine Blk.alloc ?_ _) | (with_reducible refine Blk.far ?_ (by first | omega | (simp; done) | (simp; omega)) _)), by rw [← HS.out.2.1, ← HS.out.2.2]; repeat' (first | with_reducible assumption | with_reducible exact Blk.new _ _ _ | ((with_reducible refine Blk.newAt _ _ _ ?_); (first | rfl | (simp; done) | (simp; omega))) | (with_reducible apply Blk.set2P) | (with_reducible refine Blk.drew ?_) | (with_reducible refine Blk.alloc ?_ _) | (with_reducible refine Blk.far ?_ (by first | omega | (simp; done) | (simp; omega)) _)), by repeat' (first | with_reducible assumption | with_reducible exact Blk.new _ _ _ | ((with_reducible refine Blk.newAt _ _ _ ?_); (first | rfl | (simp; done) | (simp; omega))) | (with_reducible apply Blk.set2P) | (with_reducible refine Blk.drew ?_) | (with_reducible refine Blk.alloc ?_ _) | (with_reducible refine Blk.far ?_ (by first | omega | (simp; done) | (simp; omega)) _)), by repeat' (first | with_reducible assumption | with_reducible exact Blk.new _ _ _ | ((with_reducible refine Blk.newAt _ _ _ ?_); (first | rfl | (simp; done) | (simp; omega))) | (with_reducible apply Blk.set2P) | (with_reducible refine Blk.drew ?_) | (with_reducible refine Blk.alloc ?_ _) | (with_reducible refine Blk.far ?_ (by first | omega | (simp; done) | (simp; omega)) _)), by repeat' (first | with_reducible assumption | with_reducible exact Below.refl _ _ | (with_reducible refine Below.setCell ?_ ?_ _) | (with_reducible refine Below.alloc ?_ ?_ _) | (with_reducible refine Below.drew ?_) | (with_reducible refine below_dr ?_ _) | (with_reducible refine Below.trans ?_ (Below.mono (by with_reducible assumption) ?_)) | omega | (simp; done) | (simp; omega))⟩
        case measure => simp [intOf]; omega
      case neg =>
        obtain rfl : k = n := by omega
        have yb20 : wr.cell? ⟨q, 0, none⟩ = some (.int .i64 (bX1 l k)) := b2.cell 0 rfl
        have yb21 : wr.cell? ⟨q, 1, none⟩ = some (.int .i64 (bY1 l k)) := b2.cell 1 rfl
        have fb20 := b2.frozen 0
        have fb21 := b2.frozen 1
        have yb30 : wr.cell? ⟨s, 0, none⟩ = some (.int .i64 (bX2 l k)) := b3.cell 0 rfl
        have yb31 : wr.cell? ⟨s, 1, none⟩ = some (.int .i64 (bY2 l k)) := b3.cell 1 rfl
        have fb30 := b3.frozen 0
        have fb31 := b3.frozen 1
        have yb00 : wr.cell? ⟨w.heap.size, 0, none⟩ = some (.int .i64 0) := b0.cell 0 rfl
        have yb01 : wr.cell? ⟨w.heap.size, 1, none⟩ = some (.int .i64 0) := b0.cell 1 rfl
        have fb00 := b0.frozen 0
        have fb01 := b0.frozen 1
        have yb10 : wr.cell? ⟨(w.heap.size + 1), 0, none⟩ = some (.int .i64 0) := b1.cell 0 rfl
        have yb11 : wr.cell? ⟨(w.heap.size + 1), 1, none⟩ = some (.int .i64 0) := b1.cell 1 rfl
        have fb10 := b1.frozen 0
        have fb11 := b1.frozen 1
        have l0 := b0.lt
        have l1 := b1.lt
        have HV1 := Lib.hid (show bX1 l k = bX1 l l.length ∧ bY1 l k = bY1 l l.length ∧ bX2 l k = bX2 l l.length ∧ bY2 l k = bY2 l l.length by rw [HN.out]; exact ⟨rfl, rfl, rfl, rfl⟩)
        go_wp2_with fail
        go_region
        all_goals (try go_wp2_with fail)
        all_goals
          refine bodyPost_ret (v := .tuple #[.agg #[.int .i64 (bX1 l k), .int .i64 (bY1 l k)], .agg #[.int .i64 (bX2 l k), .int .i64 (bY2 l k)]]) (by simp [results, Try.results40, go_sem, *]) rfl ⟨by rw [HV1.out.1, HV1.out.2.1, HV1.out.2.2.1, HV1.out.2.2.2], ?_⟩
          repeat' (first | with_reducible assumption | with_reducible exact Below.refl _ _ | (with_reducible refine Below.setCell ?_ ?_ _) | (with_reducible refine Below.alloc ?_ ?_ _) | (with_reducible refine Below.drew ?_) | (with_reducible refine below_dr ?_ _) | (with_reducible refine Below.trans ?_ (Below.mono (by with_reducible assumption) ?_)) | omega | (simp; done) | (simp; omega))
set_option maxRecDepth 100000 in
set_option maxHeartbeats 6400000 in
theorem l09Corners_rd (l : List APt) (A : Option Addr) (c : Nat) (w : World) (h1 : 1 ≤ l.length) (hl : l.length ≤ 1048576) (r : Rd cPt 2 w w.heap.size A l) :
    Calls Try.prog 38 #[.slice A l.length c] w fun e w' => e = .returned (.tuple #[.agg #[.int .i64 (bX1 l l.length), .int .i64 (bY1 l l.length)], .agg #[.int .i64 (bX2 l l.length), .int .i64 (bY2 l l.length)]]) ∧ Below w.heap.size w w' := by
  obtain ⟨⟨x0, x1⟩, ha⟩ : ∃ a, l[0]? = some a := ⟨l[0]'(by omega), List.getElem?_eq_getElem (by omega)⟩
  have HB := Lib.hid (box_one ha)
  obtain ⟨n, hn⟩ : ∃ n, n = l.length := ⟨_, rfl⟩
  rw [← hn] at h1 hl ⊢
  have HN := Lib.hid hn
  clear hn
  obtain ⟨g, o, rfl, hg, hc⟩ := r.elem ha
  have p0 : w.cell? ⟨g, o + 0 * 2 + 0, none⟩ = some (.int .i64 x0) := hc 0 _ rfl
  have p1 : w.cell? ⟨g, o + 0 * 2 + 1, none⟩ = some (.int .i64 x1) := hc 1 _ rfl
  simp only [Nat.zero_mul, Nat.add_zero] at p0 p1
  have hn0 : (0 : Int) < (n : Int) := by omega
  have hgW1 : ¬ g = w.heap.size := by omega
  have hgW2 : ¬ g = w.heap.size + 1 := by omega
  have hgW3 : ¬ g = w.heap.size + 2 := by omega
  have hgW4 : ¬ g = w.heap.size + 3 := by omega
  clear hc ha
  have p03 : ∀ o1 o2 o3, (((w.alloc o1).alloc o2).alloc o3).cell? ⟨g, o, none⟩ = some (.int .i64 x0) := fun o1 o2 o3 => (Below.cell (B := w.heap.size) (w := w) (by repeat' (first | with_reducible assumption | with_reducible exact Below.refl _ _ | (with_reducible refine Below.setCell ?_ ?_ _) | (with_reducible refine Below.alloc ?_ ?_ _) | (with_reducible refine Below.drew ?_) | (with_reducible refine below_dr ?_ _) | (with_reducible refine Below.trans ?_ (Below.mono (by with_reducible assumption) ?_)) | omega | (simp; done) | (simp; omega))) (p := ⟨g, o, none⟩) hg).trans p0
  have p13 : ∀ o1 o2 o3, (((w.alloc o1).alloc o2).alloc o3).cell? ⟨g, o + 1, none⟩ = some (.int .i64 x1) := fun o1 o2 o3 => (Below.cell (B := w.heap.size) (w := w) (by repeat' (first | with_reducible assumption | with_reducible exact Below.refl _ _ | (with_reducible refine Below.setCell ?_ ?_ _) | (with_reducible refine Below.alloc ?_ ?_ _) | (with_reducible refine Below.drew ?_) | (with_reducible refine below_dr ?_ _) | (with_reducible refine Below.trans ?_ (Below.mono (by with_reducible assumption) ?_)) | omega | (simp; done) | (simp; omega))) (p := ⟨g, o + 1, none⟩) hg).trans p1
  have p04 : ∀ o1 o2 o3 o4, ((((w.alloc o1).alloc o2).alloc o3).alloc o4).cell? ⟨g, o, none⟩ = some (.int .i64 x0) := fun o1 o2 o3 o4 => (Below.cell (B := w.heap.size) (w := w) (by repeat' (first | with_reducible assumption | with_reducible exact Below.refl _ _ | (with_reducible refine Below.setCell ?_ ?_ _) | (with_reducible refine Below.alloc ?_ ?_ _) | (with_reducible refine Below.drew ?_) | (with_reducible refine below_dr ?_ _) | (with_reducible refine Below.trans ?_ (Below.mono (by with_reducible assumption) ?_)) | omega | (simp; done) | (simp; omega))) (p := ⟨g, o, none⟩) hg).trans p0
  have p14 : ∀ o1 o2 o3 o4, ((((w.alloc o1).alloc o2).alloc o3).alloc o4).cell? ⟨g, o + 1, none⟩ = some (.int .i64 x1) := fun o1 o2 o3 o4 => (Below.cell (B := w.heap.size) (w := w) (by repeat' (first | with_reducible assumption | with_reducible exact Below.refl _ _ | (with_reducible refine Below.setCell ?_ ?_ _) | (with_reducible refine Below.alloc ?_ ?_ _) | (with_reducible refine Below.drew ?_) | (with_reducible refine below_dr ?_ _) | (with_reducible refine Below.trans ?_ (Below.mono (by with_reducible assumption) ?_)) | omega | (simp; done) | (simp; omega))) (p := ⟨g, o + 1, none⟩) hg).trans p1
  have RR := Lib.hid (fun (wr : World) (hbl : Below w.heap.size w wr) => r.below hbl)
  clear r
  go_enter Try.func38, Try.ntmps38
  go_wp2_with fail
  go_loopw [6] (fun i wr => ∃ k : Nat, 1 ≤ k ∧ k ≤ n ∧ i = .int .i64 (k : Int) ∧ Blk wr (w.heap.size + 2) 26 #[.int .i64 (bX1 l k), .int .i64 (bY1 l k)] ∧ Blk wr (w.heap.size + 3) 26 #[.int .i64 (bX2 l k), .int .i64 (bY2 l k)] ∧ Blk wr w.heap.size 26 #[.int .i64 0, .int .i64 0] ∧ Blk wr (w.heap.size + 1) 26 #[.int .i64 0, .int .i64 0] ∧ Below w.heap.size w wr) (fun i _ => n - (intOf i).toNat)
  case atStart => exact ⟨1, Nat.le_refl _, h1, rfl, by rw [← HB.out.1.1, ← HB.out.1.2]; repeat' (first | with_reducible assumption | with_reducible exact Blk.new _ _ _ | ((with_reducible refine Blk.newAt _ _ _ ?_); (first | rfl | (simp; done) | (simp; omega))) | (with_reducible apply Blk.set2P) | (with_reducible refine Blk.drew ?_) | (with_reducible refine Blk.alloc ?_ _) | (with_reducible refine Blk.far ?_ (by first | omega | (simp; done) | (simp; omega)) _)), by rw [← HB.out.2.1, ← HB.out.2.2]; repeat' (first | with_reducible assumption | with_reducible exact Blk.new _ _ _ | ((with_reducible refine Blk.newAt _ _ _ ?_); (first | rfl | (simp; done) | (simp; omega))) | (with_reducible apply Blk.set2P) | (with_reducible refine Blk.drew ?_) | (with_reducible refine Blk.alloc ?_ _) | (with_reducible refine Blk.far ?_ (by first | omega | (simp; done) | (simp; omega)) _)), by repeat' (first | with_reducible assumption | with_reducible exact Blk.new _ _ _ | ((with_reducible refine Blk.newAt _ _ _ ?_); (first | rfl | (simp; done) | (simp; omega))) | (with_reducible apply Blk.set2P) | (with_reducible refine Blk.drew ?_) | (with_reducible refine Blk.alloc ?_ _) | (with_reducible refine Blk.far ?_ (by first | omega | (simp; done) | (simp; omega)) _)), by repeat' (first | with_reducible assumption | with_reducible exact Blk.new _ _ _ | ((with_reducible refine Blk.newAt _ _ _ ?_); (first | rfl | (simp; done) | (simp; omega))) | (with_reducible apply Blk.set2P) | (with_reducible refine Blk.drew ?_) | (with_reducible refine Blk.alloc ?_ _) | (with_reducible refine Blk.far ?_ (by first | omega | (simp; done) | (simp; omega)) _)), by repeat' (first | with_reducible assumption | with_reducible exact Below.refl _ _ | (with_reducible refine Below.setCell ?_ ?_ _) | (with_reducible refine Below.alloc ?_ ?_ _) | (with_reducible refine Below.drew ?_) | (with_reducible refine below_dr ?_ _) | (with_reducible refine Below.trans ?_ (Below.mono (by with_reducible assumption) ?_)) | omega | (simp; done) | (simp; omega))⟩
  case round =>
    clear HB p0 p1 p03 p13 p04 p14
    obtain ⟨k, hk1, hk, rfl, b2, b3, b0, b1, hbl⟩ := hrel
    have zr := hbl.size
    have l2 := b2.lt
    have l3 := b3.lt
    by_cases hlt : k < n
    case pos =>
      obtain ⟨⟨u, v⟩, ha⟩ : ∃ a, l[k]? = some a := ⟨l[k]'(by have := HN.out; omega), List.getElem?_eq_getElem (by have := HN.out; omega)⟩
      have HS := Lib.hid (box_succ ha)
      have PP := Lib.hid (fun (wr : World) (hbl : Below w.heap.size w wr) => pt_at (RR.out _ hbl) ha)
      clear ha
      have hki : (k : Int) < (n : Int) := by omega
      obtain ⟨p0, p1⟩ := PP.out _ hbl
      have y0 : wr.cell? ⟨(w.heap.size + 2), 0, none⟩ = some (.int .i64 (bX1 l k)) := b2.cell 0 rfl
      have y1 : wr.cell? ⟨(w.heap.size + 2), 1, none⟩ = some (.int .i64 (bY1 l k)) := b2.cell 1 rfl
      have f0 := b2.frozen 0
      have f1 := b2.frozen 1
      go_wp2_with fail
      refine wp_region_still_tail 17 (by kernel_rfl) (by kernel_rfl) ?_
      simp only [List.take_succ_cons, List.take_zero, List.drop_succ_cons, List.drop_zero]
      repeat (first | still_step | (refine wpStill_step (fun K hK => ?_); go_simp; refine ⟨_, (l00Min_any _ _ _).mono (fun _ _ h => ⟨h.1, h.2.symm⟩), hK _ ?_⟩; clear hK K))
      refine wpStill_nil ?_
      change wpList _ _ _ _ _ wr.drew
      go_wp2_with fail
      clear y0 y1 f0 f1 p0 p1
      generalize hW : ((wr.setCell ⟨(w.heap.size + 2), 0, none⟩ (.int .i64 (mnI ((bX1 l k)) u))).setCell ⟨(w.heap.size + 2), 1, none⟩ (.int .i64 (mnI ((bY1 l k)) v))).drew = W1
      replace b2 : Blk W1 (w.heap.size + 2) 26 #[.int .i64 (bX1 l (k + 1)), .int .i64 (bY1 l (k + 1))] := by rw [← hW, ← HS.out.1.1, ← HS.out.1.2]; exact (Blk.set2P b2).drew
      replace b3 : Blk W1 (w.heap.size + 3) 26 #[.int .i64 (bX2 l k), .int .i64 (bY2 l k)] := by rw [← hW]; exact ((b3.far (by simp only; omega) _).far (by simp only; omega) _).drew
      replace b0 : Blk W1 w.heap.size 26 #[.int .i64 0, .int .i64 0] := by rw [← hW]; exact ((b0.far (by simp only; omega) _).far (by simp only; omega) _).drew
      replace b1 : Blk W1 (w.heap.size + 1) 26 #[.int .i64 0, .int .i64 0] := by rw [← hW]; exact ((b1.far (by simp only; omega) _).far (by simp only; omega) _).drew
      have g1 : Below w.heap.size w W1 := by rw [← hW]; repeat' (first | with_reducible assumption | with_reducible exact Below.refl _ _ | (with_reducible refine Below.setCell ?_ ?_ _) | (with_reducible refine Below.alloc ?_ ?_ _) | (with_reducible refine Below.drew ?_) | (with_reducible refine below_dr ?_ _) | (with_reducible refine Below.trans ?_ (Below.mono (by with_reducible assumption) ?_)) | omega | (simp; done) | (simp; omega))
      have zW1 : W1.heap.size = wr.heap.size := by rw [← hW]; simp
      clear hW
      obtain ⟨p0, p1⟩ := PP.out _ g1
      have y0 : W1.cell? ⟨(w.heap.size + 3), 0, none⟩ = some (.int .i64 (bX2 l k)) := b3.cell 0 rfl
      have y1 : W1.cell? ⟨(w.heap.size + 3), 1, none⟩ = some (.int .i64 (bY2 l k)) := b3.cell 1 rfl
      have f0 := b3.frozen 0
      have f1 := b3.frozen 1
      go_wp2_with fail
      refine wp_region_still_tail 17 (by kernel_rfl) (by kernel_rfl) ?_
      simp only [List.take_succ_cons, List.take_zero, List.drop_succ_cons, List.drop_zero]
      repeat (first | still_step | (refine wpStill_step (fun K hK => ?_); go_simp; refine ⟨_, (l00MaxI_any _ _ _).mono (fun _ _ h => ⟨h.1, h.2.symm⟩), hK _ ?_⟩; clear hK K))
      refine wpStill_nil ?_
      change wpList _ _ _ _ _ W1.drew
      go_wp2_with fail
      clear y0 y1 f0 f1 p0 p1
      generalize hW : ((W1.setCell ⟨(w.heap.size + 3), 0, none⟩ (.int .i64 (mxI ((bX2 l k)) u))).setCell ⟨(w.heap.size + 3), 1, none⟩ (.int .i64 (mxI ((bY2 l k)) v))).drew = W2
      replace b2 : Blk W2 (w.heap.size + 2) 26 #[.int .i64 (bX1 l (k + 1)), .int .i64 (bY1 l (k + 1))] := by rw [← hW]; exact ((b2.far (by simp only; omega) _).far (by simp only; omega) _).drew
      replace b3 : Blk W2 (w.heap.size + 3) 26 #[.int .i64 (bX2 l (k + 1)), .int .i64 (bY2 l (k + 1))] := by rw [← hW, ← HS.out.2.1, ← HS.out.2.2]; exact (Blk.set2P b3).drew
      replace b0 : Blk W2 w.heap.size 26 #[.int .i64 0, .int .i64 0] := by rw [← hW]; exact ((b0.far (by simp only; omega) _).far (by simp only; omega) _).drew
      replace b1 : Blk W2 (w.heap.size + 1) 26 #[.int .i64 0, .int .i64 0] := by rw [← hW]; exact ((b1.far (by simp only; omega) _).far (by simp only; omega) _).drew
      have g2 : Below w.heap.size w W2 := by rw [← hW]; repeat' (first | with_reducible assumption | with_reducible exact Below.refl _ _ | (with_reducible refine Below.setCell ?_ ?_ _) | (with_reducible refine Below.alloc ?_ ?_ _) | (with_reducible refine Below.drew ?_) | (with_reducible refine below_dr ?_ _) | (with_reducible refine Below.trans ?_ (Below.mono (by with_reducible assumption) ?_)) | omega | (simp; done) | (simp; omega))
      have zW2 : W2.heap.size = W1.heap.size := by rw [← hW]; simp
      clear hW
      obtain ⟨p0, p1⟩ := PP.out _ g2
      clear p0 p1
      go_wp2_with fail
      go_roundw
      case rel => exact ⟨k + 1, by omega, by omega, by go_num, b2, b3, b0, b1, g2⟩
      case measure => simp [intOf]; omega
    case neg =>
      obtain rfl : k = n := by omega
      have yb20 : wr.cell? ⟨(w.heap.size + 2), 0, none⟩ = some (.int .i64 (bX1 l k)) := b2.cell 0 rfl
      have yb21 : wr.cell? ⟨(w.heap.size + 2), 1, none⟩ = some (.int .i64 (bY1 l k)) := b2.cell 1 rfl
      have fb20 := b2.frozen 0
      have fb21 := b2.frozen 1
      have yb30 : wr.cell? ⟨(w.heap.size + 3), 0, none⟩ = some (.int .i64 (bX2 l k)) := b3.cell 0 rfl
      have yb31 : wr.cell? ⟨(w.heap.size + 3), 1, none⟩ = some (.int .i64 (bY2 l k)) := b3.cell 1 rfl
      have fb30 := b3.frozen 0
      have fb31 := b3.frozen 1
      have yb00 : wr.cell? ⟨w.heap.size, 0, none⟩ = some (.int .i64 0) := b0.cell 0 rfl
      have yb01 : wr.cell? ⟨w.heap.size, 1, none⟩ = some (.int .i64 0) := b0.cell 1 rfl
      have fb00 := b0.frozen 0
      have fb01 := b0.frozen 1
      have yb10 : wr.cell? ⟨(w.heap.size + 1), 0, none⟩ = some (.int .i64 0) := b1.cell 0 rfl
      have yb11 : wr.cell? ⟨(w.heap.size + 1), 1, none⟩ = some (.int .i64 0) := b1.cell 1 rfl
      have fb10 := b1.frozen 0
      have fb11 := b1.frozen 1
      have l0 := b0.lt
      have l1 := b1.lt
      have HV1 := Lib.hid (show bX1 l k = bX1 l l.length ∧ bY1 l k = bY1 l l.length ∧ bX2 l k = bX2 l l.length ∧ bY2 l k = bY2 l l.length by rw [HN.out]; exact ⟨rfl, rfl, rfl, rfl⟩)
      go_wp2_with fail
      go_region
      all_goals (try go_wp2_with fail)
      all_goals
        refine bodyPost_ret (v := .tuple #[.agg #[.int .i64 (bX1 l k), .int .i64 (bY1 l k)], .agg #[.int .i64 (bX2 l k), .int .i64 (bY2 l k)]]) (by simp [results, Try.results38, go_sem, *]) rfl ⟨by rw [HV1.out.1, HV1.out.2.1, HV1.out.2.2.1, HV1.out.2.2.2], ?_⟩
        repeat' (first | with_reducible assumption | with_reducible exact Below.refl _ _ | (with_reducible refine Below.setCell ?_ ?_ _) | (with_reducible refine Below.alloc ?_ ?_ _) | (with_reducible refine Below.drew ?_) | (with_reducible refine below_dr ?_ _) | (with_reducible refine Below.trans ?_ (Below.mono (by with_reducible assumption) ?_)) | omega | (simp; done) | (simp; omega))
end Go.Proofs.Ytdeemhfhmgnbgaa
