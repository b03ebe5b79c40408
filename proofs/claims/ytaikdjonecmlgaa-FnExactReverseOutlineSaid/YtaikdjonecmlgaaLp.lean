/- Walks: a loop turned round, the reference's side. -/
import Derived.Test.YtaikdjonecmlgaaLo
import Derived.Deep.RegionLaw
namespace Go.Proofs.Ytaikdjonecmlgaa
open Go.RowKit
set_option linter.unusedVariables false
theorem own_one {w : World} {base e s : Nat} {cs : Array Value} (hb : base ≤ w.heap.size) (hs : cs.size = s) : (w.alloc (.cells cs e)).ownsRow base e s (.slice (some ⟨w.heap.size, 0, none⟩) 1 1) 1 cs.toList :=
  ⟨by rw [Array.length_toList, hs]; omega, .inr ⟨w.heap.size, 1, cs, rfl, hb, heap_alloc_new w _, by omega, by unfold maxLen; omega, by omega, by rw [List.take_of_length_le]; rw [Array.length_toList, hs]; omega⟩⟩
/-- The knots behind the first one in reverse order. -/
def revK : List AKnot → List AKnot
  | [] => []
  | a :: t => a :: t.reverse
theorem revK_len (l : List AKnot) : (revK l).length = l.length := by cases l <;> simp [revK]
theorem revK_zero {l : List AKnot} {a : AKnot} (h : l[0]? = some a) : (revK l)[0]? = some a := by
  cases l with
  | nil => simp at h
  | cons b t => exact h
theorem revK_at {l : List AKnot} {a : AKnot} {k j : Nat} (hk : 1 ≤ k) (hj : 1 ≤ j) (h : k + j = l.length) (ha : l[j]? = some a) : (revK l)[k]? = some a := by
  cases l with
  | nil => simp at ha
  | cons b t =>
    obtain ⟨k', rfl⟩ : ∃ k', k = k' + 1 := ⟨k - 1, by omega⟩
    obtain ⟨j', rfl⟩ : ∃ j', j = j' + 1 := ⟨j - 1, by omega⟩
    simp only [List.length_cons] at h
    simp only [revK, List.getElem?_cons_succ] at ha ⊢
    rw [List.getElem?_reverse (by omega), show t.length - 1 - k' = j' by omega]
    exact ha
/-- A loop of the call's own is handed back. -/
def LoopRet (l : List AKnot) (w : World) (e : Ending) (w' : World) : Prop :=
  ∃ (A : Option Addr) (c : Nat), e = .returned (.agg #[.slice A l.length c]) ∧ w'.ownsRow w.heap.size 69 3 (.slice A l.length c) l.length (cellsF cKnot l) ∧ Below w.heap.size w w'
set_option maxRecDepth 100000 in
set_option maxHeartbeats 12800000 in
theorem l10Reverse_any (l : List AKnot) (A : Option Addr) (c b p : Nat) (w : World) (hb : b < w.heap.size) (c0 : w.cell? ⟨b, p, none⟩ = some (.slice A l.length c)) (h1 : 1 ≤ l.length) (h60 : l.length ≤ 60) (r : Rd cKnot 3 w w.heap.size A l) :
    Calls Try.prog 46 #[.pointer (some ⟨b, p, none⟩)] w (LoopRet (revK l) w) := by
  obtain ⟨i0, hi0, hz0', hz1', hz2'⟩ := info_parts infoKnot
  have HI0 := Lib.hid hi0
  have HZ0 := Lib.hid hz0'
  have HZ1 := Lib.hid hz1'
  have HZ2 := Lib.hid hz2'
  clear hi0 hz0' hz1' hz2'
  obtain ⟨⟨a0, a1, a2⟩, ha0⟩ : ∃ a, l[0]? = some a := ⟨l[0]'(by omega), List.getElem?_eq_getElem (by omega)⟩
  have HT1 := Lib.hid (show cellsF cKnot ((revK l).take 1) = [.int .i64 a0, .int .i64 a1, .bool a2] by rw [show (1 : Nat) = 0 + 1 from rfl, List.take_add_one, revK_zero ha0]; rfl)
  obtain ⟨g, o, rfl, hg, hc⟩ := r.elem ha0
  have d0 : w.cell? ⟨g, o, none⟩ = some (.int .i64 a0) := by have h := hc 0 _ rfl; simpa using h
  have d1 : w.cell? ⟨g, o + 1, none⟩ = some (.int .i64 a1) := by have h := hc 1 _ rfl; simpa using h
  have d2 : w.cell? ⟨g, o + 2, none⟩ = some (.bool a2) := by have h := hc 2 _ rfl; simpa using h
  clear hc ha0
  unfold LoopRet
  rw [revK_len]
  obtain ⟨n, hn⟩ : ∃ n, n = l.length := ⟨_, rfl⟩
  rw [← hn] at c0 h1 h60 ⊢
  have HN := Lib.hid hn
  clear hn
  have hi0 : (0 : Int) < n := by omega
  have e5 : IntKind.i64.wrap ((n : Int) - 1) = (n : Int) - 1 := IntWalk.i64_in _ (by omega)
  have hb1 : b < w.heap.size + 1 := by omega
  have hb2 : b < w.heap.size + 1 + 1 := by omega
  have hb3 : b < w.heap.size + 1 + 1 + 1 := by omega
  have hg1 : g < w.heap.size + 1 := by omega
  go_enter Try.func46, Try.ntmps46
  go_wp2_with fail
  generalize hW : ((w.alloc (.cells #[.slice none 0 0] 62)).alloc (.cells #[.int .i64 a0, .int .i64 a1, .bool a2] 69)).alloc (.cells #[.slice (some ⟨w.heap.size + 1, 0, none⟩) 1 1] 62) = W0
  have bk0 : Blk W0 w.heap.size 62 #[.slice none 0 0] := by rw [← hW]; exact ((Blk.new _ _ _).alloc _).alloc _
  have bo0 : Blk W0 (w.heap.size + 1 + 1) 62 #[.slice (some ⟨w.heap.size + 1, 0, none⟩) 1 1] := by rw [← hW]; exact Blk.newAt _ _ _ (by simp)
  have ow0 : W0.ownsRow (w.heap.size + 1) 69 3 (.slice (some ⟨w.heap.size + 1, 0, none⟩) 1 1) 1 (cellsF cKnot ((revK l).take 1)) := by
    rw [HT1.out, ← hW]
    have h := own_one (w := w.alloc (.cells #[.slice none 0 0] 62)) (base := w.heap.size + 1) (e := 69) (cs := #[.int .i64 a0, .int .i64 a1, .bool a2]) (s := 3) (by simp) rfl
    have h2 := World.ownsRow.alloc h (.cells #[.slice (some ⟨w.heap.size + 1, 0, none⟩) 1 1] 62)
    simpa using h2
  have r0 : Rd cKnot 3 W0 w.heap.size (some ⟨g, o, none⟩) l := by rw [← hW]; exact ((r.alloc (Nat.le_refl _) _).alloc (by simp) _).alloc (by simp; omega) _
  have g0 : Below w.heap.size w W0 := by rw [← hW]; repeat' (first | with_reducible assumption | with_reducible exact Below.refl _ _ | (with_reducible refine Below.setCell ?_ ?_ _) | (with_reducible refine Below.alloc ?_ ?_ _) | (with_reducible refine Below.drew ?_) | (with_reducible refine below_dr ?_ _) | (with_reducible refine Below.trans ?_ (Below.mono (by with_reducible assumption) ?_)) | omega | (simp; done) | (simp; omega))
  have z0 : W0.heap.size = w.heap.size + 1 + 1 + 1 := by rw [← hW]; simp
  clear hW r d0 d1 d2 HT1
  go_loopw [4] (fun i wr => ∃ (k j : Nat) (A' : Option Addr) (c' : Nat), 1 ≤ k ∧ k + j = n ∧ i = .int .i64 (j : Int) ∧ (∀ q, (Value.slice A' k c').ownBlock = some q → ¬ q = (w.heap.size + 1 + 1)) ∧ Blk wr w.heap.size 62 #[.slice none 0 0] ∧ Blk wr (w.heap.size + 1 + 1) 62 #[.slice A' k c'] ∧ wr.ownsRow (w.heap.size + 1) 69 3 (.slice A' k c') k (cellsF cKnot ((revK l).take k)) ∧ Rd cKnot 3 wr w.heap.size (some ⟨g, o, none⟩) l ∧ Below w.heap.size w wr) (fun i _ => (intOf i).toNat)
  case atStart => exact ⟨1, n - 1, _, _, by omega, by omega, by congr 1; omega, fun q hq => by (have h9 : w.heap.size + 1 = q := Option.some.inj hq); omega, bk0, bo0, ow0, r0, g0⟩
  case round =>
    clear bk0 bo0 ow0 r0 g0 e5 z0
    obtain ⟨k, j, A', c', hk1, hkj, rfl, hap, bk1, bo1, ow1, r1, g1⟩ := hrel
    have HAP := Lib.hid hap
    have HOB := Lib.hid (fun q (hq : (Value.slice A' k c').ownBlock = some q) => own_block ow1 hq)
    clear hap
    have zo := bo1.lt
    have zk := bk1.lt
    have zg := g1.size
    have cb : wr.cell? ⟨b, p, none⟩ = some (.slice (some ⟨g, o, none⟩) n c) := (g1.cell (p := ⟨b, p, none⟩) hb).trans c0
    by_cases hjp : 1 ≤ j
    case pos =>
      have em : IntKind.i64.wrap ((j : Int) - 1) = (j : Int) - 1 := IntWalk.i64_in _ (by omega)
      have em2 : IntKind.i64.wrap ((j - 1 : Nat) : Int) = ((j - 1 : Nat) : Int) := IntWalk.i64_in _ (by omega)
      obtain ⟨⟨x0, x1, x2⟩, ha⟩ : ∃ a, l[j]? = some a := ⟨l[j]'(by have := HN.out; omega), List.getElem?_eq_getElem (by have := HN.out; omega)⟩
      have HCS := Lib.hid (show cellsF cKnot ((revK l).take k) ++ [.int .i64 x0, .int .i64 x1, .bool x2] = cellsF cKnot ((revK l).take (k + 1)) by rw [List.take_add_one, revK_at hk1 hjp (by have := HN.out; omega) ha]; exact cellsF_snoc (f := cKnot) ((revK l).take k) (x0, x1, x2))
      obtain ⟨g', o', hA', hg', hc⟩ := r1.elem ha
      obtain ⟨rfl, rfl⟩ : g = g' ∧ o = o' := by injection hA' with h; injection h with h1 h2; exact ⟨h1, h2⟩
      have p0 : wr.cell? ⟨g, o + j * 3, none⟩ = some (.int .i64 x0) := hc 0 _ rfl
      have p1 : wr.cell? ⟨g, o + j * 3 + 1, none⟩ = some (.int .i64 x1) := hc 1 _ rfl
      have p2 : wr.cell? ⟨g, o + j * 3 + 2, none⟩ = some (.bool x2) := hc 2 _ rfl
      have hmi : (j : Int) < (n : Int) := by omega
      have hm0 : (0 : Int) < (j : Int) := by omega
      clear hc ha hA'
      have hrd : Reads (wr.drew.alloc (.cells #[.int .i64 x0, .int .i64 x1, .bool x2] 69)) (wr.heap.size + 1) 3 (some ⟨wr.heap.size, 0, none⟩) 1 [.int .i64 x0, .int .i64 x1, .bool x2] := by
        have := Reads.of_own (own_one (w := wr.drew) (base := 0) (e := 69) (cs := #[.int .i64 x0, .int .i64 x1, .bool x2]) (s := 3) (Nat.zero_le _) rfl)
        simpa using this
      have HRD := Lib.hid hrd
      have H1C := Lib.hid (show ∀ u ∈ ([.int .i64 x0, .int .i64 x1, .bool x2] : List Value), u.oneCell' = true by intro v hv; simp at hv; rcases hv with rfl | rfl | rfl <;> rfl)
      have HMX := Lib.hid (show k + 1 ≤ maxLen by unfold maxLen; omega)
      have HBY := Lib.hid (show (k + 1) * 24 ≤ 140737488355328 by omega)
      have HBS := Lib.hid (show w.heap.size + 1 ≤ (wr.drew.alloc (.cells #[.int .i64 x0, .int .i64 x1, .bool x2] 69)).heap.size by simp; omega)
      have HO := Lib.hid (World.ownsRow.alloc (own_drew ow1) (.cells #[.int .i64 x0, .int .i64 x1, .bool x2] 69))
      clear hrd
      have y0 : wr.cell? ⟨w.heap.size + 1 + 1, 0, none⟩ = some (.slice A' k c') := bo1.cell 0 rfl
      have u0 := bo1.frozen 0
      have hbr : b < wr.heap.size := by omega
      go_wp2_with fail
      go_region_law (go_loud (refine step_append_any _ rfl (.tmp 24) (.tmp 32) _ rfl (w.heap.size + 1) 69 i0 _ 3 24 Try.underlying60 HI0.out HZ0.out HZ1.out HZ2.out rfl (by omega) _ k (cellsF cKnot ((revK l).take k)) rfl HO.out (wr.heap.size + 1) (some ⟨wr.heap.size, 0, none⟩) 1 1 [.int .i64 x0, .int .i64 x1, .bool x2] rfl HRD.out H1C.out HMX.out HBY.out HBS.out ?_); intro v' w9 hown9 hg9' hat9; obtain ⟨g9, cap9, rfl, _, _⟩ := hown9.form (by omega); have hg9 : (wr.drew.alloc (.cells #[.int .i64 x0, .int .i64 x1, .bool x2] 69)).grownBy w9 (Value.slice A' k c').ownBlock := hg9'; clear hg9'; have pw9 := Blk.grown (bo1.drew.alloc _) hg9 (fun q hq => HAP.out q hq); have yy0 : w9.cell? ⟨w.heap.size + 1 + 1, 0, none⟩ = some (.slice A' k c') := pw9.cell 0 rfl; have yy1 := pw9.frozen 0; have HOWN9 := Lib.hid hown9; have HG9 := Lib.hid hg9; have HAT9 := Lib.hid hat9; clear hown9 hg9 hat9)
      all_goals
        have hg9 := HG9.out
        have hown9 := HOWN9.out
        have hz9 := hg9.size
        (try simp only [World.size_alloc] at hz9)
        (try simp only [World.size_drew] at hz9)
        rw [HCS.out] at hown9
        have hap9 : ∀ q, (Value.slice (some ⟨g9, 0, none⟩) (k + 1) cap9).ownBlock = some q → ¬ q = w.heap.size + 1 + 1 := by
          intro q hq
          rcases HAT9.out with h | h
          · exact HAP.out q (h.symm.trans hq)
          · have h2 := Option.some.inj (h.symm.trans hq)
            simp only [World.size_alloc, World.size_drew] at h2
            omega
        have HAP9 := Lib.hid hap9
        clear hap9
        go_wp2_with fail
        go_roundw
        case rel =>
          refine ⟨k + 1, j - 1, some ⟨g9, 0, none⟩, cap9, by omega, by omega, by first | rfl | (congr 1; omega), HAP9.out, ?_, pw9.set_ 0 _, own_keep hown9 (fun q hq h8 => HAP9.out q hq h8.symm) _, ?_, ?_⟩
          · exact Blk.far (Blk.grown (bk1.drew.alloc _) hg9 (fun q hq => by have := HOB.out q hq; omega)) (by simp only; omega) _
          · exact Rd.setCell (Rd.grown2 (Rd.alloc (Rd.drew r1) (by simp only [World.size_drew]; omega) _) hg9 (by simp; omega) (fun q hq => by have := HOB.out q hq; omega)) (by simp only; omega) _
          · exact (below_of_grown ((Below.drew g1).alloc (by simp only [World.size_drew]; omega) _) hg9 (by simp; omega) (fun q hq => by have := HOB.out q hq; omega)).setCell (by simp only; omega) _
        case measure => first | (simp [intOf]; done) | (simp [intOf]; omega)
    case neg =>
      obtain rfl : j = 0 := by omega
      obtain rfl : n = k := by omega
      rw [List.take_of_length_le (by rw [revK_len]; have := HN.out; omega)] at ow1
      have y0 : wr.cell? ⟨w.heap.size + 1 + 1, 0, none⟩ = some (.slice A' n c') := bo1.cell 0 rfl
      have v0 : wr.cell? ⟨w.heap.size, 0, none⟩ = some (.slice none 0 0) := bk1.cell 0 rfl
      have u0 := bk1.frozen 0
      go_wp2_with fail
      refine bodyPost_ret (v := .agg #[.slice A' n c']) (by simp [results, Try.results46, go_sem, *]) rfl ⟨A', c', rfl, ?_, ?_⟩
      · have ow2 := own_base (base := w.heap.size) ow1 (by omega)
        exact own_keep ow2 (fun q hq h8 => by have h9 := (HOB.out q hq).1; dsimp only at h8; omega) _
      · repeat' (first | with_reducible assumption | with_reducible exact Below.refl _ _ | (with_reducible refine Below.setCell ?_ ?_ _) | (with_reducible refine Below.alloc ?_ ?_ _) | (with_reducible refine Below.drew ?_) | (with_reducible refine below_dr ?_ _) | (with_reducible refine Below.trans ?_ (Below.mono (by with_reducible assumption) ?_)) | omega | (simp; done) | (simp; omega))
end Go.Proofs.Ytaikdjonecmlgaa
