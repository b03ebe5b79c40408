/- Walks: the bytes of a program, the reference's side: l19Program. -/
import Derived.Test.YtofaolbgjhpopabDoorPoa
namespace Go.Proofs.YtofaolbgjhpopabDoor
open Go.RowKit
set_option linter.unusedVariables false
theorem ureads_1g (w : World) (x : Int) (t : TypeId) (g : Nat) (hg : w.heap.size = g) : Reads (w.alloc (.cells #[.int .u8 x] t)) (w.alloc (.cells #[.int .u8 x] t)).heap.size 1 (some ⟨g, 0, none⟩) 1 [.int .u8 x] := by
  subst hg; exact ureads_1 w x t
theorem ureads_2g (w : World) (x y : Int) (t : TypeId) (g : Nat) (hg : w.heap.size = g) : Reads (w.alloc (.cells #[.int .u8 x, .int .u8 y] t)) (w.alloc (.cells #[.int .u8 x, .int .u8 y] t)).heap.size 1 (some ⟨g, 0, none⟩) 2 [.int .u8 x, .int .u8 y] := by
  subst hg; exact ureads_2 w x y t
set_option maxRecDepth 100000 in
set_option maxHeartbeats 12800000 in
theorem l19Program_any (l : List AHint) (A : Option Addr) (c : Nat) (w : World) (hl : l.length ≤ 1048576) (r : Rd cHint 2 w w.heap.size A l) :
    Calls Tryd.prog 30 #[.slice A l.length c] w fun e w' => e = .returned (.string (pgT l)) ∧ Below w.heap.size w w' := by
  have HR := Lib.hid r
  clear r
  obtain ⟨n, hn⟩ : ∃ n, n = l.length := ⟨_, rfl⟩
  rw [← hn] at hl ⊢
  have HN := Lib.hid hn
  clear hn
  obtain ⟨i0, hi0, hz0', hz1', hz2'⟩ := oinfo_parts infoU8
  have HI0 := Lib.hid hi0
  have HZ00 := Lib.hid hz0'
  have HZ10 := Lib.hid hz1'
  have HZ20 := Lib.hid hz2'
  clear hi0 hz0' hz1' hz2'
  obtain ⟨R, hR⟩ : ∃ R, R = pgT l := ⟨_, rfl⟩
  rw [← hR]
  have HRR := Lib.hid hR
  clear hR
  go_enter Tryd.func30, Tryd.ntmps30
  go_wp2_with fail
  generalize hW : w.alloc (.cells #[] 5) = W0
  have ow0 : OwU 5 W0 w.heap.size (some ⟨w.heap.size, 0, none⟩) 0 0 (pgI (l.take 0)) := by rw [← hW]; exact OwU.new w _ (Nat.le_refl _)
  have hb0 : Below w.heap.size w W0 := by rw [← hW]; repeat' (first | with_reducible assumption | with_reducible exact Below.refl _ _ | (with_reducible refine Below.setCell ?_ ?_ _) | (with_reducible refine Below.alloc ?_ ?_ _) | (with_reducible refine Below.drew ?_) | (with_reducible refine below_dr ?_ _) | (with_reducible refine Below.trans ?_ (Below.mono (by with_reducible assumption) ?_)) | omega | (simp; done) | (simp; omega))
  have hg0 : w.heap.size < W0.heap.size := by rw [← hW]; simp
  clear hW
  go_loopw [3, 4] (fun s i wr => ∃ (k N g' : Nat) (c' : Nat), k ≤ n ∧ i = .int .i64 (k : Int) ∧ N ≤ 3145728 ∧ s = .slice (some ⟨g', 0, none⟩) N c' ∧ OwU 5 wr w.heap.size (some ⟨g', 0, none⟩) N c' (pgI (l.take k)) ∧ g' < wr.heap.size ∧ Below w.heap.size w wr) (fun _ i _ => n - (intOf i).toNat)
  case atStart => exact ⟨0, 0, w.heap.size, _, Nat.zero_le _, rfl, by omega, rfl, ow0, hg0, hb0⟩
  case round =>
    clear ow0 hb0 hg0
    obtain ⟨k, N, g', c', hk, rfl, hN, rfl, ow, hgl, hbl⟩ := hrel
    have HOW := Lib.hid ow
    clear ow
    have zr := hbl.size
    by_cases hlt : k < n
    case neg =>
      obtain rfl : k = n := by omega
      have hcv := conv_own HOW.out (pgI_in _)
      rw [show ((pgI (l.take k)).map toU8) = ((pgI l).map toU8) by rw [List.take_of_length_le (by have := HN.out; omega)]] at hcv
      have hRT : (⟨((pgI l).map toU8).toArray⟩ : ByteArray) = R := HRR.out.symm
      rw [hRT] at hcv
      clear hRT
      go_wp2_with fail
      go_ret
      exact ⟨rfl, by repeat' (first | with_reducible assumption | with_reducible exact Below.refl _ _ | (with_reducible refine Below.setCell ?_ ?_ _) | (with_reducible refine Below.alloc ?_ ?_ _) | (with_reducible refine Below.drew ?_) | (with_reducible refine below_dr ?_ _) | (with_reducible refine Below.trans ?_ (Below.mono (by with_reducible assumption) ?_)) | omega | (simp; done) | (simp; omega))⟩
    case pos =>
      obtain ⟨⟨x0, x1⟩, hx⟩ : ∃ x, l[k]? = some x := ⟨l[k]'(by have := HN.out; omega), List.getElem?_eq_getElem (by have := HN.out; omega)⟩
      obtain ⟨g, o, rfl, hg, hc⟩ := (HR.out.below hbl).elem hx
      have y0 : wr.cell? ⟨g, o + k * 2, none⟩ = some (.int .i64 x0) := hc 0 _ rfl
      have y1 : wr.cell? ⟨g, o + k * 2 + 1, none⟩ = some (.int .i64 x1) := hc 1 _ rfl
      clear hc
      have HS := Lib.hid (pgI_snoc hx)
      clear hx
      have hki : (k : Int) < (n : Int) := by omega
      have hgw : g < wr.heap.size := by omega
      have CB := Lib.hid (fun w => l19Bytes_any x0 w)
      have kB : Blk (wr.alloc (.cells #[.int .i64 x0, .int .i64 x1] 36)) wr.heap.size 36 #[.int .i64 x0, .int .i64 x1] := Blk.new _ _ _
      have HMX1 := Lib.hid (show N + 1 ≤ maxLen by unfold maxLen; omega)
      have HBY1 := Lib.hid (show (N + 1) * 1 ≤ 140737488355328 by omega)
      have HRD1 := Lib.hid (ureads_1g (wr.alloc (.cells #[.int .i64 x0, .int .i64 x1] 36)) (x0 % 256) 5 (wr.heap.size + 1) (by simp))
      have HOW1 := Lib.hid (show ((wr.alloc (.cells #[.int .i64 x0, .int .i64 x1] 36)).alloc (.cells #[.int .u8 (x0 % 256)] 5)).ownsRow w.heap.size 5 1 _ (N) _ from ((HOW.out.alloc (.cells #[.int .i64 x0, .int .i64 x1] 36)).alloc (.cells #[.int .u8 (x0 % 256)] 5)).2)
      have HRB1 := Lib.hid (HOW.out.block)
      have HBS1 := Lib.hid (show w.heap.size ≤ ((wr.alloc (.cells #[.int .i64 x0, .int .i64 x1] 36)).alloc (.cells #[.int .u8 (x0 % 256)] 5)).heap.size by simp; omega)
      have HGA1 := Lib.hid (show Below w.heap.size w ((wr.alloc (.cells #[.int .i64 x0, .int .i64 x1] 36)).alloc (.cells #[.int .u8 (x0 % 256)] 5)) by repeat' (first | with_reducible assumption | with_reducible exact Below.refl _ _ | (with_reducible refine Below.setCell ?_ ?_ _) | (with_reducible refine Below.alloc ?_ ?_ _) | (with_reducible refine Below.drew ?_) | (with_reducible refine below_dr ?_ _) | (with_reducible refine Below.trans ?_ (Below.mono (by with_reducible assumption) ?_)) | omega | (simp; done) | (simp; omega)))
      have HKB1 := Lib.hid (show Blk ((wr.alloc (.cells #[.int .i64 x0, .int .i64 x1] 36)).alloc (.cells #[.int .u8 (x0 % 256)] 5)) wr.heap.size 36 #[.int .i64 x0, .int .i64 x1] from kB.alloc _)
      clear kB
      have HBX := Lib.hid (biL_0 (c := x0) (x := x1))
      rcases fm_cases x0 with ⟨hf, fe⟩ | ⟨hf, fe⟩ | ⟨hf, fe⟩
      · clear hf
        have HB := Lib.hid (biL_1 (c := x0) (x := x1) fe)
        rw [fe] at CB
        clear fe
        go_wp2_with (first | (at_builtin; refine wpList_append_any _ rfl (.tmp 17) (.tmp 21) _ rfl w.heap.size 5 i0 _ 1 1 Tryd.underlying51 HI0.out HZ00.out HZ10.out HZ20.out rfl (by omega) _ _ _ rfl HOW1.out _ (some ⟨wr.heap.size + 1, 0, none⟩) 1 1 [.int .u8 (x0 % 256)] rfl HRD1.out (cU_one (x0 % 256)) HMX1.out HBY1.out HBS1.out ?_; intro v1 w1 hown1 hg1 hat1; obtain ⟨g1, cap1, rfl, _, hlt1⟩ := hown1.form (by omega); have HOWN1 := Lib.hid hown1; have HG1 := Lib.hid hg1; clear hown1 hg1 hat1; have k1 : Blk w1 wr.heap.size 36 #[.int .i64 x0, .int .i64 x1] := Blk.grown HKB1.out HG1.out (fun q hq e => by have := HRB1.out q hq; omega); have y9a : w1.cell? ⟨wr.heap.size, 0, none⟩ = some (.int .i64 x0) := k1.cell 0 rfl; have y9b : w1.cell? ⟨wr.heap.size, 1, none⟩ = some (.int .i64 x1) := k1.cell 1 rfl; clear k1; have hb1 : Below w.heap.size w w1 := below_of_grown HGA1.out HG1.out (by simp; omega) (fun q hq => by have := HRB1.out q hq; omega); have hz1 := hb1.size; have OW1 := Lib.hid (show OwU 5 w1 w.heap.size (some ⟨g1, 0, none⟩) (N + 1) cap1 (pgI (l.take k) ++ [x0 % 256]) from OwU.grown (by have := HOW.out.1; simp only [List.length_cons, List.length_nil]; omega) HOWN1.out); (have HMX2 := Lib.hid (show N + 1 + 1 ≤ maxLen by unfold maxLen; omega)); (have HBY2 := Lib.hid (show (N + 1 + 1) * 1 ≤ 140737488355328 by omega)); (have HRD2 := Lib.hid (ureads_1g w1 (x1 % 256) 5 (w1.heap.size) (by simp))); (have HOW2 := Lib.hid (show (w1.alloc (.cells #[.int .u8 (x1 % 256)] 5)).ownsRow w.heap.size 5 1 _ (N + 1) _ from (OW1.out.alloc (.cells #[.int .u8 (x1 % 256)] 5)).2)); (have HRB2 := Lib.hid (OW1.out.block)); (have HBS2 := Lib.hid (show w.heap.size ≤ (w1.alloc (.cells #[.int .u8 (x1 % 256)] 5)).heap.size by simp; omega)); (have HGA2 := Lib.hid (show Below w.heap.size w (w1.alloc (.cells #[.int .u8 (x1 % 256)] 5)) by repeat' (first | with_reducible assumption | with_reducible exact Below.refl _ _ | (with_reducible refine Below.setCell ?_ ?_ _) | (with_reducible refine Below.alloc ?_ ?_ _) | (with_reducible refine Below.drew ?_) | (with_reducible refine below_dr ?_ _) | (with_reducible refine Below.trans ?_ (Below.mono (by with_reducible assumption) ?_)) | omega | (simp; done) | (simp; omega))))) | (at_builtin; refine wpList_append_any _ rfl (.tmp 28) (.tmp 32) _ rfl w.heap.size 5 i0 _ 1 1 Tryd.underlying51 HI0.out HZ00.out HZ10.out HZ20.out rfl (by omega) _ _ _ rfl HOW2.out _ (some ⟨w1.heap.size, 0, none⟩) 1 1 [.int .u8 (x1 % 256)] rfl HRD2.out (cU_one (x1 % 256)) HMX2.out HBY2.out HBS2.out ?_; intro v2 w2 hown2 hg2 hat2; obtain ⟨g2, cap2, rfl, _, hlt2⟩ := hown2.form (by omega); have HOWN2 := Lib.hid hown2; have HG2 := Lib.hid hg2; clear hown2 hg2 hat2) | (go_at_call 42; refine (CB.out _).mono ?_; rintro e wq ⟨rfl, rfl⟩))
        have hb2 : Below w.heap.size w w2 := below_of_grown HGA2.out HG2.out (by simp; omega) (fun q hq => by have := HRB2.out q hq; omega)
        have OW2 := Lib.hid (show OwU 5 w2 w.heap.size (some ⟨g2, 0, none⟩) (N + 1 + 1) cap2 ((pgI (l.take k) ++ [x0 % 256]) ++ [x1 % 256]) from OwU.grown (by have := OW1.out.1; simp only [List.length_cons, List.length_nil]; omega) HOWN2.out)
        rw [List.append_assoc, ← HB.out, ← HS.out] at OW2
        go_wp2_with fail
        go_roundw
        case rel => exact ⟨k + 1, N + 1 + 1, g2, cap2, by omega, by go_num, by have h := OW2.out.1; have := pgI_tlen l (k + 1) (by omega); omega, rfl, OW2.out, hlt2, hb2⟩
        case measure => simp [intOf]; omega
      · clear hf
        have HB := Lib.hid (biL_2 (c := x0) (x := x1) fe)
        rw [fe] at CB
        clear fe
        go_wp2_with (first | (at_builtin; refine wpList_append_any _ rfl (.tmp 17) (.tmp 21) _ rfl w.heap.size 5 i0 _ 1 1 Tryd.underlying51 HI0.out HZ00.out HZ10.out HZ20.out rfl (by omega) _ _ _ rfl HOW1.out _ (some ⟨wr.heap.size + 1, 0, none⟩) 1 1 [.int .u8 (x0 % 256)] rfl HRD1.out (cU_one (x0 % 256)) HMX1.out HBY1.out HBS1.out ?_; intro v1 w1 hown1 hg1 hat1; obtain ⟨g1, cap1, rfl, _, hlt1⟩ := hown1.form (by omega); have HOWN1 := Lib.hid hown1; have HG1 := Lib.hid hg1; clear hown1 hg1 hat1; have k1 : Blk w1 wr.heap.size 36 #[.int .i64 x0, .int .i64 x1] := Blk.grown HKB1.out HG1.out (fun q hq e => by have := HRB1.out q hq; omega); have y9a : w1.cell? ⟨wr.heap.size, 0, none⟩ = some (.int .i64 x0) := k1.cell 0 rfl; have y9b : w1.cell? ⟨wr.heap.size, 1, none⟩ = some (.int .i64 x1) := k1.cell 1 rfl; clear k1; have hb1 : Below w.heap.size w w1 := below_of_grown HGA1.out HG1.out (by simp; omega) (fun q hq => by have := HRB1.out q hq; omega); have hz1 := hb1.size; have OW1 := Lib.hid (show OwU 5 w1 w.heap.size (some ⟨g1, 0, none⟩) (N + 1) cap1 (pgI (l.take k) ++ [x0 % 256]) from OwU.grown (by have := HOW.out.1; simp only [List.length_cons, List.length_nil]; omega) HOWN1.out); (have HMX2 := Lib.hid (show N + 1 + 2 ≤ maxLen by unfold maxLen; omega)); (have HBY2 := Lib.hid (show (N + 1 + 2) * 1 ≤ 140737488355328 by omega)); (have HRD2 := Lib.hid (ureads_2g w1 (x1 / 256 % 256) (x1 % 256) 5 (w1.heap.size) (by simp))); (have HOW2 := Lib.hid (show (w1.alloc (.cells #[.int .u8 (x1 / 256 % 256), .int .u8 (x1 % 256)] 5)).ownsRow w.heap.size 5 1 _ (N + 1) _ from (OW1.out.alloc (.cells #[.int .u8 (x1 / 256 % 256), .int .u8 (x1 % 256)] 5)).2)); (have HRB2 := Lib.hid (OW1.out.block)); (have HBS2 := Lib.hid (show w.heap.size ≤ (w1.alloc (.cells #[.int .u8 (x1 / 256 % 256), .int .u8 (x1 % 256)] 5)).heap.size by simp; omega)); (have HGA2 := Lib.hid (show Below w.heap.size w (w1.alloc (.cells #[.int .u8 (x1 / 256 % 256), .int .u8 (x1 % 256)] 5)) by repeat' (first | with_reducible assumption | with_reducible exact Below.refl _ _ | (with_reducible refine Below.setCell ?_ ?_ _) | (with_reducible refine Below.alloc ?_ ?_ _) | (with_reducible refine Below.drew ?_) | (with_reducible refine below_dr ?_ _) | (with_reducible refine Below.trans ?_ (Below.mono (by with_reducible assumption) ?_)) | omega | (simp; done) | (simp; omega))))) | (at_builtin; refine wpList_append_any _ rfl (.tmp 36) (.tmp 44) _ rfl w.heap.size 5 i0 _ 1 1 Tryd.underlying51 HI0.out HZ00.out HZ10.out HZ20.out rfl (by omega) _ _ _ rfl HOW2.out _ (some ⟨w1.heap.size, 0, none⟩) 2 2 [.int .u8 (x1 / 256 % 256), .int .u8 (x1 % 256)] rfl HRD2.out (cU_two (x1 / 256 % 256) (x1 % 256)) HMX2.out HBY2.out HBS2.out ?_; intro v2 w2 hown2 hg2 hat2; obtain ⟨g2, cap2, rfl, _, hlt2⟩ := hown2.form (by omega); have HOWN2 := Lib.hid hown2; have HG2 := Lib.hid hg2; clear hown2 hg2 hat2) | (go_at_call 42; refine (CB.out _).mono ?_; rintro e wq ⟨rfl, rfl⟩))
        have hb2 : Below w.heap.size w w2 := below_of_grown HGA2.out HG2.out (by simp; omega) (fun q hq => by have := HRB2.out q hq; omega)
        have OW2 := Lib.hid (show OwU 5 w2 w.heap.size (some ⟨g2, 0, none⟩) (N + 1 + 2) cap2 ((pgI (l.take k) ++ [x0 % 256]) ++ [x1 / 256 % 256, x1 % 256]) from OwU.grown (by have := OW1.out.1; simp only [List.length_cons, List.length_nil]; omega) HOWN2.out)
        rw [List.append_assoc, ← HB.out, ← HS.out] at OW2
        go_wp2_with fail
        go_roundw
        case rel => exact ⟨k + 1, N + 1 + 2, g2, cap2, by omega, by go_num, by have h := OW2.out.1; have := pgI_tlen l (k + 1) (by omega); omega, rfl, OW2.out, hlt2, hb2⟩
        case measure => simp [intOf]; omega
      · clear hf
        have HB := Lib.hid (biL_0 (c := x0) (x := x1) (by omega) (by omega))
        rw [fe] at CB
        clear fe
        go_wp2_with (first | (at_builtin; refine wpList_append_any _ rfl (.tmp 17) (.tmp 21) _ rfl w.heap.size 5 i0 _ 1 1 Tryd.underlying51 HI0.out HZ00.out HZ10.out HZ20.out rfl (by omega) _ _ _ rfl HOW1.out _ (some ⟨wr.heap.size + 1, 0, none⟩) 1 1 [.int .u8 (x0 % 256)] rfl HRD1.out (cU_one (x0 % 256)) HMX1.out HBY1.out HBS1.out ?_; intro v1 w1 hown1 hg1 hat1; obtain ⟨g1, cap1, rfl, _, hlt1⟩ := hown1.form (by omega); have HOWN1 := Lib.hid hown1; have HG1 := Lib.hid hg1; clear hown1 hg1 hat1; have k1 : Blk w1 wr.heap.size 36 #[.int .i64 x0, .int .i64 x1] := Blk.grown HKB1.out HG1.out (fun q hq e => by have := HRB1.out q hq; omega); have y9a : w1.cell? ⟨wr.heap.size, 0, none⟩ = some (.int .i64 x0) := k1.cell 0 rfl; have y9b : w1.cell? ⟨wr.heap.size, 1, none⟩ = some (.int .i64 x1) := k1.cell 1 rfl; clear k1; have hb1 : Below w.heap.size w w1 := below_of_grown HGA1.out HG1.out (by simp; omega) (fun q hq => by have := HRB1.out q hq; omega); have hz1 := hb1.size; have OW1 := Lib.hid (show OwU 5 w1 w.heap.size (some ⟨g1, 0, none⟩) (N + 1) cap1 (pgI (l.take k) ++ [x0 % 256]) from OwU.grown (by have := HOW.out.1; simp only [List.length_cons, List.length_nil]; omega) HOWN1.out)) | (go_at_call 42; refine (CB.out _).mono ?_; rintro e wq ⟨rfl, rfl⟩))
        go_roundw
        case rel => exact ⟨k + 1, N + 1, g1, cap1, by omega, by go_num, by have h := OW1.out.1; rw [← HB.out, ← HS.out] at h; have := pgI_tlen l (k + 1) (by omega); omega, rfl, by rw [HS.out, HB.out]; exact OW1.out, hlt1, hb1⟩
        case measure => simp [intOf]; omega
end Go.Proofs.YtofaolbgjhpopabDoor
