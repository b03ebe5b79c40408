/- Walks: a curve of one's own, the reference's side. -/
import Derived.Test.YthedimnjbfeaiaaKz
namespace Go.Proofs.Ythedimnjbfeaiaa
open Go.RowKit
set_option linter.unusedVariables false
set_option maxRecDepth 100000 in
set_option maxHeartbeats 3200000 in
theorem l06Own_any (l : List APt) (A : Option Addr) (c : Nat) (cl : Bool) (t : Int) (ff fl : Bool) (fx fy lx ly : Int) (b : Nat) (w : World) (h1 : 1 ≤ l.length) (h2 : l.length ≤ 10) (at0 : AtL b [.slice A l.length c, .bool cl, .int .i64 t, .bool ff, .bool fl, .int .i64 fx, .int .i64 fy, .int .i64 lx, .int .i64 ly] w) (r : Rd cPt 2 w w.heap.size A l) :
    Calls Try.prog 69 #[.pointer (some ⟨b, 0, none⟩)] w fun e w' => ∃ (A' : Option Addr) (c' : Nat), e = .returned (.agg #[.slice A' l.length c', .bool cl, .int .i64 t, .bool ff, .bool fl, .int .i64 fx, .int .i64 fy, .int .i64 lx, .int .i64 ly]) ∧ w'.ownsRow w.heap.size 30 2 (.slice A' l.length c') l.length (cellsF cPt l) ∧ Below w.heap.size w w' := by
  obtain ⟨i0, hi0, hz0', hz1', hz2'⟩ := info_parts infoPt
  have HI0 := Lib.hid hi0
  have HZ0 := Lib.hid hz0'
  have HZ1 := Lib.hid hz1'
  have HZ2 := Lib.hid hz2'
  clear hi0 hz0' hz1' hz2'
  have hrd := reads_pts h1 r
  have H1C := Lib.hid (fun (u : Value) (hu : u ∈ cellsF cPt l) => cellsF_one (fun a => cPt_one a) l u hu)
  generalize cellsF cPt l = xs at hrd H1C ⊢
  generalize l.length = n at hrd h1 h2 at0 ⊢
  have k0 := at0.cell 0 rfl
  have k1 := at0.cell 1 rfl
  have k2 := at0.cell 2 rfl
  have k3 := at0.cell 3 rfl
  have k4 := at0.cell 4 rfl
  have k5 := at0.cell 5 rfl
  have k6 := at0.cell 6 rfl
  have k7 := at0.cell 7 rfl
  have k8 := at0.cell 8 rfl
  have lt0 := at0.lt
  obtain ⟨W1, hW1⟩ : ∃ W1, W1 = ((w.alloc (.cells #[.slice none 0 0, .bool false, .int .i64 0, .bool false, .bool false, .int .i64 0, .int .i64 0, .int .i64 0, .int .i64 0] 32)).alloc (.cells #[.slice A n c, .bool cl, .int .i64 t, .bool ff, .bool fl, .int .i64 fx, .int .i64 fy, .int .i64 lx, .int .i64 ly] 32)) := ⟨_, rfl⟩
  have z1 : W1.heap.size = w.heap.size + 1 + 1 := by rw [hW1]; simp
  have HPZ := Lib.hid (show Blk (W1.alloc (.cells #[] 30)) w.heap.size 32 #[.slice none 0 0, .bool false, .int .i64 0, .bool false, .bool false, .int .i64 0, .int .i64 0, .int .i64 0, .int .i64 0] by rw [hW1]; exact ((Blk.new w _ _).alloc _).alloc _)
  have HPO := Lib.hid (show Blk (W1.alloc (.cells #[] 30)) (w.heap.size + 1) 32 #[.slice A n c, .bool cl, .int .i64 t, .bool ff, .bool fl, .int .i64 fx, .int .i64 fy, .int .i64 lx, .int .i64 ly] by rw [hW1]; exact (Blk.newAt _ _ _ (by simp)).alloc _)
  have HRD := Lib.hid (show Reads (W1.alloc (.cells #[] 30)) (W1.alloc (.cells #[] 30)).heap.size 2 A n xs by rw [hW1]; exact (((hrd.alloc (Nat.le_refl _) _).alloc (by simp) _).alloc (by simp; omega) _).more (by simp; omega))
  have HOW := Lib.hid (own_made W1 (w.heap.size + 1 + 1) 30 2 0 #[] (by omega) (Nat.zero_le _) (by simp))
  have HBW := Lib.hid (show Below w.heap.size w (W1.alloc (.cells #[] 30)) by rw [hW1]; repeat' (first | with_reducible assumption | with_reducible exact Below.refl _ _ | (with_reducible refine Below.setCell ?_ ?_ _) | (with_reducible refine Below.alloc ?_ ?_ _) | (with_reducible refine Below.drew ?_) | (with_reducible refine below_dr ?_ _) | (with_reducible refine Below.trans ?_ (Below.mono (by with_reducible assumption) ?_)) | omega | (simp; done) | (simp; omega)))
  have kb0 : (W1.alloc (.cells #[] 30)).cell? ⟨b, 0, none⟩ = some (.slice A n c) := by rw [hW1]; exact (((at0.alloc _).alloc _).alloc _).cell 0 rfl
  have HMX := Lib.hid (show 0 + n ≤ maxLen by unfold maxLen; omega)
  have HBY := Lib.hid (show (0 + n) * 16 ≤ 140737488355328 by omega)
  have HBS := Lib.hid (show w.heap.size + 1 + 1 ≤ (W1.alloc (.cells #[] 30)).heap.size by simp; omega)
  rw [z1] at HOW
  rw [hW1] at HRD HOW HPZ HPO HBW HBS kb0
  clear hrd r z1 hW1 W1
  go_enter Try.func69, Try.ntmps69
  go_wp2_with (at_builtin; refine wpList_append_any _ rfl (.tmp 7) (.tmp 11) _ rfl (w.heap.size + 1 + 1) 30 i0 _ 2 16 Try.underlying29 HI0.out HZ0.out HZ1.out HZ2.out rfl (by omega) _ 0 [] rfl HOW.out _ A n c xs rfl HRD.out H1C.out HMX.out HBY.out HBS.out ?_; intro v' w9 hown9 hg9 hat9; rw [Nat.zero_add] at hown9; obtain ⟨g9, cap9, rfl, _, _⟩ := hown9.form (by omega); have pz := Blk.grown HPZ.out hg9 (fun q hq => by have h : w.heap.size + 1 + 1 = q := Option.some.inj hq; omega); have po := Blk.grown HPO.out hg9 (fun q hq => by have h : w.heap.size + 1 + 1 = q := Option.some.inj hq; omega); have HB9 := Lib.hid (below_of_grown HBW.out hg9 (by simp; omega) (fun q hq => by have h : w.heap.size + 1 + 1 = q := Option.some.inj hq; omega)); have HOWN9 := Lib.hid hown9; clear hown9 hg9 hat9; clear k0 k1 k2 k3 k4 k5 k6 k7 k8 lt0 kb0; have y0 : w9.cell? ⟨w.heap.size + 1, 0, none⟩ = some (.slice A n c) := po.cell 0 rfl; have y1 : w9.cell? ⟨w.heap.size + 1, 1, none⟩ = some (.bool cl) := po.cell 1 rfl; have y2 : w9.cell? ⟨w.heap.size + 1, 2, none⟩ = some (.int .i64 t) := po.cell 2 rfl; have y3 : w9.cell? ⟨w.heap.size + 1, 3, none⟩ = some (.bool ff) := po.cell 3 rfl; have y4 : w9.cell? ⟨w.heap.size + 1, 4, none⟩ = some (.bool fl) := po.cell 4 rfl; have y5 : w9.cell? ⟨w.heap.size + 1, 5, none⟩ = some (.int .i64 fx) := po.cell 5 rfl; have y6 : w9.cell? ⟨w.heap.size + 1, 6, none⟩ = some (.int .i64 fy) := po.cell 6 rfl; have y7 : w9.cell? ⟨w.heap.size + 1, 7, none⟩ = some (.int .i64 lx) := po.cell 7 rfl; have y8 : w9.cell? ⟨w.heap.size + 1, 8, none⟩ = some (.int .i64 ly) := po.cell 8 rfl; have zc0 : w9.cell? ⟨w.heap.size, 0, none⟩ = some (.slice none 0 0) := pz.cell 0 rfl; have zc1 : w9.cell? ⟨w.heap.size, 1, none⟩ = some (.bool false) := pz.cell 1 rfl; have zc2 : w9.cell? ⟨w.heap.size, 2, none⟩ = some (.int .i64 0) := pz.cell 2 rfl; have zc3 : w9.cell? ⟨w.heap.size, 3, none⟩ = some (.bool false) := pz.cell 3 rfl; have zc4 : w9.cell? ⟨w.heap.size, 4, none⟩ = some (.bool false) := pz.cell 4 rfl; have zc5 : w9.cell? ⟨w.heap.size, 5, none⟩ = some (.int .i64 0) := pz.cell 5 rfl; have zc6 : w9.cell? ⟨w.heap.size, 6, none⟩ = some (.int .i64 0) := pz.cell 6 rfl; have zc7 : w9.cell? ⟨w.heap.size, 7, none⟩ = some (.int .i64 0) := pz.cell 7 rfl; have zc8 : w9.cell? ⟨w.heap.size, 8, none⟩ = some (.int .i64 0) := pz.cell 8 rfl; have yf := po.frozen 0; have zf0 := pz.frozen 0; have zf1 := pz.frozen 1; have zf2 := pz.frozen 2; have zf3 := pz.frozen 3; have zf4 := pz.frozen 4; have zf5 := pz.frozen 5; have zf6 := pz.frozen 6; have zf7 := pz.frozen 7; have zf8 := pz.frozen 8; have ltz := pz.lt; have lto := po.lt; clear pz po)
  refine bodyPost_ret (v := .agg #[.slice (some ⟨g9, 0, none⟩) n cap9, .bool cl, .int .i64 t, .bool ff, .bool fl, .int .i64 fx, .int .i64 fy, .int .i64 lx, .int .i64 ly]) (by simp [results, Try.results69, go_sem, *]) rfl ⟨_, _, rfl, ?_, ?_⟩
  · have hown := HOWN9.out
    rw [show ([] : List Value) ++ xs = xs from rfl] at hown
    repeat (first | with_reducible exact own_base hown (by omega) | (with_reducible refine own_drew ?_) | (with_reducible refine own_far (b2 := w.heap.size + 1 + 1) ?_ (by simp only; omega) (by omega) _) | (with_reducible refine own_stays ?_ (by with_reducible assumption)))
  · have hb9 := HB9.out
    repeat' (first | with_reducible assumption | with_reducible exact Below.refl _ _ | (with_reducible refine Below.setCell ?_ ?_ _) | (with_reducible refine Below.alloc ?_ ?_ _) | (with_reducible refine Below.drew ?_) | (with_reducible refine below_dr ?_ _) | (with_reducible refine Below.trans ?_ (Below.mono (by with_reducible assumption) ?_)) | omega | (simp; done) | (simp; omega))
end Go.Proofs.Ythedimnjbfeaiaa
