/- Walks: LevelFor, both sides, and the law: it returns true. -/
import Derived.Test.YticgomikfleabaaCg
namespace Go.Proofs.Yticgomikfleabaa
open Go.RowKit
def lvV (m0 m1 m2 m3 m4 m5 m6 m7 t : Int) : Int := bif okC m0 m1 m2 m3 m4 m5 m6 m7 then (if 1 ≤ t ∧ t ≤ 262144 then levV (3 * bendI m0 m1 m2 m3 m4 m5 m6 m7) t else 0) else 0
def lvC (m0 m1 m2 m3 m4 m5 m6 m7 t : Int) : Int := bif okC m0 m1 m2 m3 m4 m5 m6 m7 then (if 1 ≤ t ∧ t ≤ 262144 then levC (3 * bendI m0 m1 m2 m3 m4 m5 m6 m7) t else 2) else 1
def LvRet (m0 m1 m2 m3 m4 m5 m6 m7 t : Int) (w : World) (e : Ending) (w' : World) : Prop := e = .returned (.tuple #[.int .i64 (lvV m0 m1 m2 m3 m4 m5 m6 m7 t), .int .i64 (lvC m0 m1 m2 m3 m4 m5 m6 m7 t)]) ∧ Below w.heap.size w w'
theorem LvRet.mk {m0 m1 m2 m3 m4 m5 m6 m7 t a c : Int} {w w' : World} (h : a = lvV m0 m1 m2 m3 m4 m5 m6 m7 t ∧ c = lvC m0 m1 m2 m3 m4 m5 m6 m7 t) (hb : Below w.heap.size w w') : LvRet m0 m1 m2 m3 m4 m5 m6 m7 t w (.returned (.tuple #[.int .i64 a, .int .i64 c])) w' := by obtain ⟨rfl, rfl⟩ := h; exact ⟨rfl, hb⟩
theorem lv_f {m0 m1 m2 m3 m4 m5 m6 m7 t : Int} (h : okC m0 m1 m2 m3 m4 m5 m6 m7 = false) : 0 = lvV m0 m1 m2 m3 m4 m5 m6 m7 t ∧ 1 = lvC m0 m1 m2 m3 m4 m5 m6 m7 t := by simp [lvV, lvC, h]
theorem lv_r {m0 m1 m2 m3 m4 m5 m6 m7 t : Int} (h : okC m0 m1 m2 m3 m4 m5 m6 m7 = true) (ht : t < 1 ∨ 262144 < t) : 0 = lvV m0 m1 m2 m3 m4 m5 m6 m7 t ∧ 2 = lvC m0 m1 m2 m3 m4 m5 m6 m7 t := by
  have : ¬ (1 ≤ t ∧ t ≤ 262144) := by omega
  simp [lvV, lvC, h, this]
theorem lv_t {m0 m1 m2 m3 m4 m5 m6 m7 t a c : Int} (h : okC m0 m1 m2 m3 m4 m5 m6 m7 = true) (h1 : 1 ≤ t) (h2 : t ≤ 262144) (ha : a = levV (3 * bendI m0 m1 m2 m3 m4 m5 m6 m7) t ∧ c = levC (3 * bendI m0 m1 m2 m3 m4 m5 m6 m7) t) : a = lvV m0 m1 m2 m3 m4 m5 m6 m7 t ∧ c = lvC m0 m1 m2 m3 m4 m5 m6 m7 t := by
  have : 1 ≤ t ∧ t ≤ 262144 := ⟨h1, h2⟩
  simp [lvV, lvC, h, this, ha]
set_option maxHeartbeats 3200000 in
theorem l09For_any (m0 m1 m2 m3 m4 m5 m6 m7 t : Int) (b : Nat) (w : World) (hb : b < w.heap.size) (c0 : w.cell? ⟨b, 0, none⟩ = some (.int .i64 m0)) (c1 : w.cell? ⟨b, 1, none⟩ = some (.int .i64 m1)) (c2 : w.cell? ⟨b, 2, none⟩ = some (.int .i64 m2)) (c3 : w.cell? ⟨b, 3, none⟩ = some (.int .i64 m3)) (c4 : w.cell? ⟨b, 4, none⟩ = some (.int .i64 m4)) (c5 : w.cell? ⟨b, 5, none⟩ = some (.int .i64 m5)) (c6 : w.cell? ⟨b, 6, none⟩ = some (.int .i64 m6)) (c7 : w.cell? ⟨b, 7, none⟩ = some (.int .i64 m7)) (w_t : -9223372036854775808 ≤ t ∧ t ≤ 9223372036854775807) :
    Calls Try.prog 42 #[.pointer (some ⟨b, 0, none⟩), .int .i64 t] w (LvRet m0 m1 m2 m3 m4 m5 m6 m7 t w) := by
  rcases hv : okC m0 m1 m2 m3 m4 m5 m6 m7 with _ | _
  · have HV := Lib.hid hv
    clear hv
    go_enter Try.func42, Try.ntmps42
    go_wp2_with fail
    refine (l09Ok_any m0 m1 m2 m3 m4 m5 m6 m7 _ _ hb c0 c1 c2 c3 c4 c5 c6 c7).mono ?_
    rw [HV.out]; rintro e w1 ⟨rfl, hb1⟩
    go_wp2
    refine bodyPost_ret (v := .tuple #[.int .i64 0, .int .i64 1]) (by simp [results, Try.results42, go_sem]) rfl (LvRet.mk ?_ (by repeat' (first | with_reducible assumption | with_reducible exact Below.refl _ _ | (with_reducible refine Below.setCell ?_ ?_ _) | (with_reducible refine Below.alloc ?_ ?_ _) | (with_reducible refine Below.drew ?_) | (with_reducible refine below_dr ?_ _) | (with_reducible refine Below.trans ?_ (Below.mono (by with_reducible assumption) ?_)) | omega | (simp; done) | (simp; omega))))
    exact lv_f HV.out
  have HV := Lib.hid hv
  clear hv
  by_cases hr : t < 1 ∨ 262144 < t
  · go_enter Try.func42, Try.ntmps42
    go_wp2_with fail
    refine (l09Ok_any m0 m1 m2 m3 m4 m5 m6 m7 _ _ hb c0 c1 c2 c3 c4 c5 c6 c7).mono ?_
    rw [HV.out]; rintro e w1 ⟨rfl, hbw1⟩
    go_wp2_with fail
    refine (l09Tol_no _ _ hr).mono ?_
    rintro e w2 ⟨rfl, rfl⟩
    go_wp2
    refine bodyPost_ret (v := .tuple #[.int .i64 0, .int .i64 2]) (by simp [results, Try.results42, go_sem]) rfl (LvRet.mk ?_ (by repeat' (first | with_reducible assumption | with_reducible exact Below.refl _ _ | (with_reducible refine Below.setCell ?_ ?_ _) | (with_reducible refine Below.alloc ?_ ?_ _) | (with_reducible refine Below.drew ?_) | (with_reducible refine below_dr ?_ _) | (with_reducible refine Below.trans ?_ (Below.mono (by with_reducible assumption) ?_)) | omega | (simp; done) | (simp; omega))))
    exact lv_r HV.out hr
  have t1 : 1 ≤ t := by omega
  have t2 : t ≤ 262144 := by omega
  clear hr
  obtain ⟨h0, h1, h2, h3⟩ := okC_parts HV.out
  have bb := bendI_bound h0 h1 h2 h3
  have HB := Lib.hid (fun (w2 : World) (hz : b < w2.heap.size) (c0 : w2.cell? ⟨b, 0, none⟩ = some (.int .i64 m0)) (c1 : w2.cell? ⟨b, 1, none⟩ = some (.int .i64 m1)) (c2 : w2.cell? ⟨b, 2, none⟩ = some (.int .i64 m2)) (c3 : w2.cell? ⟨b, 3, none⟩ = some (.int .i64 m3)) (c4 : w2.cell? ⟨b, 4, none⟩ = some (.int .i64 m4)) (c5 : w2.cell? ⟨b, 5, none⟩ = some (.int .i64 m5)) (c6 : w2.cell? ⟨b, 6, none⟩ = some (.int .i64 m6)) (c7 : w2.cell? ⟨b, 7, none⟩ = some (.int .i64 m7)) => l09Bend_any m0 m1 m2 m3 m4 m5 m6 m7 b w2 hz c0 c1 c2 c3 c4 c5 c6 c7 h0 h1 h2 h3)
  clear h0 h1 h2 h3
  obtain ⟨D, hD⟩ : ∃ D, D = bendI m0 m1 m2 m3 m4 m5 m6 m7 := ⟨_, rfl⟩
  rw [← hD] at HB bb
  obtain ⟨b1, b2⟩ := bb
  have HD := Lib.hid hD
  clear hD
  have HR : ∀ (a c : Int), a = levV (3 * D) t ∧ c = levC (3 * D) t → a = lvV m0 m1 m2 m3 m4 m5 m6 m7 t ∧ c = lvC m0 m1 m2 m3 m4 m5 m6 m7 t := fun _ _ h => lv_t HV.out t1 t2 (HD.out ▸ h)
  have HRR := Lib.hid HR
  clear HR
  go_enter Try.func42, Try.ntmps42
  go_wp2_with fail
  refine (l09Ok_any m0 m1 m2 m3 m4 m5 m6 m7 _ _ hb c0 c1 c2 c3 c4 c5 c6 c7).mono ?_
  rw [HV.out]; rintro e w1 ⟨rfl, hbw1⟩
  have zw1 := hbw1.size
  have zb1 : b < w1.heap.size := by omega
  have tw10 : w1.cell? ⟨b, 0, none⟩ = some (.int .i64 m0) := (hbw1.cell (p := ⟨b, 0, none⟩) hb).trans c0
  have tw11 : w1.cell? ⟨b, 1, none⟩ = some (.int .i64 m1) := (hbw1.cell (p := ⟨b, 1, none⟩) hb).trans c1
  have tw12 : w1.cell? ⟨b, 2, none⟩ = some (.int .i64 m2) := (hbw1.cell (p := ⟨b, 2, none⟩) hb).trans c2
  have tw13 : w1.cell? ⟨b, 3, none⟩ = some (.int .i64 m3) := (hbw1.cell (p := ⟨b, 3, none⟩) hb).trans c3
  have tw14 : w1.cell? ⟨b, 4, none⟩ = some (.int .i64 m4) := (hbw1.cell (p := ⟨b, 4, none⟩) hb).trans c4
  have tw15 : w1.cell? ⟨b, 5, none⟩ = some (.int .i64 m5) := (hbw1.cell (p := ⟨b, 5, none⟩) hb).trans c5
  have tw16 : w1.cell? ⟨b, 6, none⟩ = some (.int .i64 m6) := (hbw1.cell (p := ⟨b, 6, none⟩) hb).trans c6
  have tw17 : w1.cell? ⟨b, 7, none⟩ = some (.int .i64 m7) := (hbw1.cell (p := ⟨b, 7, none⟩) hb).trans c7
  clear c0 c1 c2 c3 c4 c5 c6 c7
  go_wp2_with fail
  refine (l09Tol_yes _ _ t1 t2).mono ?_
  rintro e w2 ⟨rfl, rfl⟩
  go_wp2_with fail
  go_loopw [6] (fun i wr => ∃ k : Nat, k ≤ 7 ∧ i = .int .i64 k ∧ LV (3 * D) t k ∧ Below w1.heap.size w1 wr) (fun i _ => 7 - (intOf i).toNat)
  case atStart => exact ⟨0, by omega, rfl, trivial, Below.refl _ _⟩
  case round =>
    obtain ⟨k, hk, rfl, hl, hbwr⟩ := hrel
    have zr := hbwr.size
    have zb2 : b < wr.heap.size := by omega
    have u0 := (hbwr.cell (p := ⟨b, 0, none⟩) zb1).trans tw10
    have u1 := (hbwr.cell (p := ⟨b, 1, none⟩) zb1).trans tw11
    have u2 := (hbwr.cell (p := ⟨b, 2, none⟩) zb1).trans tw12
    have u3 := (hbwr.cell (p := ⟨b, 3, none⟩) zb1).trans tw13
    have u4 := (hbwr.cell (p := ⟨b, 4, none⟩) zb1).trans tw14
    have u5 := (hbwr.cell (p := ⟨b, 5, none⟩) zb1).trans tw15
    have u6 := (hbwr.cell (p := ⟨b, 6, none⟩) zb1).trans tw16
    have u7 := (hbwr.cell (p := ⟨b, 7, none⟩) zb1).trans tw17
    by_cases hlt : k < 7
    · rcases (by omega : k = 0 ∨ k = 1 ∨ k = 2 ∨ k = 3 ∨ k = 4 ∨ k = 5 ∨ k = 6) with rfl | rfl | rfl | rfl | rfl | rfl | rfl
      · clear hk hlt
        have hl' := Lib.hid hl
        clear hl
        by_cases hle : 3 * D ≤ 4 * t
        · have H := Lib.hid (lev_at0 t1  hle)
          go_wp2_with fail
          refine (HB.out _ zb2 u0 u1 u2 u3 u4 u5 u6 u7).mono ?_
          rintro e w4 ⟨rfl, hb4⟩
          go_wp2
          refine bodyPost_ret (v := .tuple #[.int .i64 0, .int .i64 0]) (by simp [results, Try.results42, go_sem]) rfl (LvRet.mk ?_ (by repeat' (first | with_reducible assumption | with_reducible exact Below.refl _ _ | (with_reducible refine Below.setCell ?_ ?_ _) | (with_reducible refine Below.alloc ?_ ?_ _) | (with_reducible refine Below.drew ?_) | (with_reducible refine below_dr ?_ _) | (with_reducible refine Below.trans ?_ (Below.mono (by with_reducible assumption) ?_)) | omega | (simp; done) | (simp; omega))))
          exact HRR.out _ _ H.out
        · have hge : 4 * t < 3 * D := by omega
          have hd : decide (3 * D ≤ 4 * t) = false := by simpa using hle
          clear hle
          go_wp2_with fail
          refine (HB.out _ zb2 u0 u1 u2 u3 u4 u5 u6 u7).mono ?_
          rintro e w4 ⟨rfl, hb4⟩
          go_wp2
          go_roundw
          case rel => exact ⟨1, by omega, by go_num, hge, by repeat' (first | with_reducible assumption | with_reducible exact Below.refl _ _ | (with_reducible refine Below.setCell ?_ ?_ _) | (with_reducible refine Below.alloc ?_ ?_ _) | (with_reducible refine Below.drew ?_) | (with_reducible refine below_dr ?_ _) | (with_reducible refine Below.trans ?_ (Below.mono (by with_reducible assumption) ?_)) | omega | (simp; done) | (simp; omega))⟩
          case measure => simp [intOf]
      · clear hk hlt
        have hl' := Lib.hid hl
        clear hl
        by_cases hle : 3 * D ≤ 16 * t
        · have H := Lib.hid (lev_at1 t1 hl'.out hle)
          go_wp2_with fail
          refine (HB.out _ zb2 u0 u1 u2 u3 u4 u5 u6 u7).mono ?_
          rintro e w4 ⟨rfl, hb4⟩
          go_wp2
          refine bodyPost_ret (v := .tuple #[.int .i64 1, .int .i64 0]) (by simp [results, Try.results42, go_sem]) rfl (LvRet.mk ?_ (by repeat' (first | with_reducible assumption | with_reducible exact Below.refl _ _ | (with_reducible refine Below.setCell ?_ ?_ _) | (with_reducible refine Below.alloc ?_ ?_ _) | (with_reducible refine Below.drew ?_) | (with_reducible refine below_dr ?_ _) | (with_reducible refine Below.trans ?_ (Below.mono (by with_reducible assumption) ?_)) | omega | (simp; done) | (simp; omega))))
          exact HRR.out _ _ H.out
        · have hge : 16 * t < 3 * D := by omega
          have hd : decide (3 * D ≤ 16 * t) = false := by simpa using hle
          clear hle
          go_wp2_with fail
          refine (HB.out _ zb2 u0 u1 u2 u3 u4 u5 u6 u7).mono ?_
          rintro e w4 ⟨rfl, hb4⟩
          go_wp2
          go_roundw
          case rel => exact ⟨2, by omega, by go_num, hge, by repeat' (first | with_reducible assumption | with_reducible exact Below.refl _ _ | (with_reducible refine Below.setCell ?_ ?_ _) | (with_reducible refine Below.alloc ?_ ?_ _) | (with_reducible refine Below.drew ?_) | (with_reducible refine below_dr ?_ _) | (with_reducible refine Below.trans ?_ (Below.mono (by with_reducible assumption) ?_)) | omega | (simp; done) | (simp; omega))⟩
          case measure => simp [intOf]
      · clear hk hlt
        have hl' := Lib.hid hl
        clear hl
        by_cases hle : 3 * D ≤ 64 * t
        · have H := Lib.hid (lev_at2 t1 hl'.out hle)
          go_wp2_with fail
          refine (HB.out _ zb2 u0 u1 u2 u3 u4 u5 u6 u7).mono ?_
          rintro e w4 ⟨rfl, hb4⟩
          go_wp2
          refine bodyPost_ret (v := .tuple #[.int .i64 2, .int .i64 0]) (by simp [results, Try.results42, go_sem]) rfl (LvRet.mk ?_ (by repeat' (first | with_reducible assumption | with_reducible exact Below.refl _ _ | (with_reducible refine Below.setCell ?_ ?_ _) | (with_reducible refine Below.alloc ?_ ?_ _) | (with_reducible refine Below.drew ?_) | (with_reducible refine below_dr ?_ _) | (with_reducible refine Below.trans ?_ (Below.mono (by with_reducible assumption) ?_)) | omega | (simp; done) | (simp; omega))))
          exact HRR.out _ _ H.out
        · have hge : 64 * t < 3 * D := by omega
          have hd : decide (3 * D ≤ 64 * t) = false := by simpa using hle
          clear hle
          go_wp2_with fail
          refine (HB.out _ zb2 u0 u1 u2 u3 u4 u5 u6 u7).mono ?_
          rintro e w4 ⟨rfl, hb4⟩
          go_wp2
          go_roundw
          case rel => exact ⟨3, by omega, by go_num, hge, by repeat' (first | with_reducible assumption | with_reducible exact Below.refl _ _ | (with_reducible refine Below.setCell ?_ ?_ _) | (with_reducible refine Below.alloc ?_ ?_ _) | (with_reducible refine Below.drew ?_) | (with_reducible refine below_dr ?_ _) | (with_reducible refine Below.trans ?_ (Below.mono (by with_reducible assumption) ?_)) | omega | (simp; done) | (simp; omega))⟩
          case measure => simp [intOf]
      · clear hk hlt
        have hl' := Lib.hid hl
        clear hl
        by_cases hle : 3 * D ≤ 256 * t
        · have H := Lib.hid (lev_at3 t1 hl'.out hle)
          go_wp2_with fail
          refine (HB.out _ zb2 u0 u1 u2 u3 u4 u5 u6 u7).mono ?_
          rintro e w4 ⟨rfl, hb4⟩
          go_wp2
          refine bodyPost_ret (v := .tuple #[.int .i64 3, .int .i64 0]) (by simp [results, Try.results42, go_sem]) rfl (LvRet.mk ?_ (by repeat' (first | with_reducible assumption | with_reducible exact Below.refl _ _ | (with_reducible refine Below.setCell ?_ ?_ _) | (with_reducible refine Below.alloc ?_ ?_ _) | (with_reducible refine Below.drew ?_) | (with_reducible refine below_dr ?_ _) | (with_reducible refine Below.trans ?_ (Below.mono (by with_reducible assumption) ?_)) | omega | (simp; done) | (simp; omega))))
          exact HRR.out _ _ H.out
        · have hge : 256 * t < 3 * D := by omega
          have hd : decide (3 * D ≤ 256 * t) = false := by simpa using hle
          clear hle
          go_wp2_with fail
          refine (HB.out _ zb2 u0 u1 u2 u3 u4 u5 u6 u7).mono ?_
          rintro e w4 ⟨rfl, hb4⟩
          go_wp2
          go_roundw
          case rel => exact ⟨4, by omega, by go_num, hge, by repeat' (first | with_reducible assumption | with_reducible exact Below.refl _ _ | (with_reducible refine Below.setCell ?_ ?_ _) | (with_reducible refine Below.alloc ?_ ?_ _) | (with_reducible refine Below.drew ?_) | (with_reducible refine below_dr ?_ _) | (with_reducible refine Below.trans ?_ (Below.mono (by with_reducible assumption) ?_)) | omega | (simp; done) | (simp; omega))⟩
          case measure => simp [intOf]
      · clear hk hlt
        have hl' := Lib.hid hl
        clear hl
        by_cases hle : 3 * D ≤ 1024 * t
        · have H := Lib.hid (lev_at4 t1 hl'.out hle)
          go_wp2_with fail
          refine (HB.out _ zb2 u0 u1 u2 u3 u4 u5 u6 u7).mono ?_
          rintro e w4 ⟨rfl, hb4⟩
          go_wp2
          refine bodyPost_ret (v := .tuple #[.int .i64 4, .int .i64 0]) (by simp [results, Try.results42, go_sem]) rfl (LvRet.mk ?_ (by repeat' (first | with_reducible assumption | with_reducible exact Below.refl _ _ | (with_reducible refine Below.setCell ?_ ?_ _) | (with_reducible refine Below.alloc ?_ ?_ _) | (with_reducible refine Below.drew ?_) | (with_reducible refine below_dr ?_ _) | (with_reducible refine Below.trans ?_ (Below.mono (by with_reducible assumption) ?_)) | omega | (simp; done) | (simp; omega))))
          exact HRR.out _ _ H.out
        · have hge : 1024 * t < 3 * D := by omega
          have hd : decide (3 * D ≤ 1024 * t) = false := by simpa using hle
          clear hle
          go_wp2_with fail
          refine (HB.out _ zb2 u0 u1 u2 u3 u4 u5 u6 u7).mono ?_
          rintro e w4 ⟨rfl, hb4⟩
          go_wp2
          go_roundw
          case rel => exact ⟨5, by omega, by go_num, hge, by repeat' (first | with_reducible assumption | with_reducible exact Below.refl _ _ | (with_reducible refine Below.setCell ?_ ?_ _) | (with_reducible refine Below.alloc ?_ ?_ _) | (with_reducible refine Below.drew ?_) | (with_reducible refine below_dr ?_ _) | (with_reducible refine Below.trans ?_ (Below.mono (by with_reducible assumption) ?_)) | omega | (simp; done) | (simp; omega))⟩
          case measure => simp [intOf]
      · clear hk hlt
        have hl' := Lib.hid hl
        clear hl
        by_cases hle : 3 * D ≤ 4096 * t
        · have H := Lib.hid (lev_at5 t1 hl'.out hle)
          go_wp2_with fail
          refine (HB.out _ zb2 u0 u1 u2 u3 u4 u5 u6 u7).mono ?_
          rintro e w4 ⟨rfl, hb4⟩
          go_wp2
          refine bodyPost_ret (v := .tuple #[.int .i64 5, .int .i64 0]) (by simp [results, Try.results42, go_sem]) rfl (LvRet.mk ?_ (by repeat' (first | with_reducible assumption | with_reducible exact Below.refl _ _ | (with_reducible refine Below.setCell ?_ ?_ _) | (with_reducible refine Below.alloc ?_ ?_ _) | (with_reducible refine Below.drew ?_) | (with_reducible refine below_dr ?_ _) | (with_reducible refine Below.trans ?_ (Below.mono (by with_reducible assumption) ?_)) | omega | (simp; done) | (simp; omega))))
          exact HRR.out _ _ H.out
        · have hge : 4096 * t < 3 * D := by omega
          have hd : decide (3 * D ≤ 4096 * t) = false := by simpa using hle
          clear hle
          go_wp2_with fail
          refine (HB.out _ zb2 u0 u1 u2 u3 u4 u5 u6 u7).mono ?_
          rintro e w4 ⟨rfl, hb4⟩
          go_wp2
          go_roundw
          case rel => exact ⟨6, by omega, by go_num, hge, by repeat' (first | with_reducible assumption | with_reducible exact Below.refl _ _ | (with_reducible refine Below.setCell ?_ ?_ _) | (with_reducible refine Below.alloc ?_ ?_ _) | (with_reducible refine Below.drew ?_) | (with_reducible refine below_dr ?_ _) | (with_reducible refine Below.trans ?_ (Below.mono (by with_reducible assumption) ?_)) | omega | (simp; done) | (simp; omega))⟩
          case measure => simp [intOf]
      · clear hk hlt
        have hl' := Lib.hid hl
        clear hl
        by_cases hle : 3 * D ≤ 16384 * t
        · have H := Lib.hid (lev_at6 t1 hl'.out hle)
          go_wp2_with fail
          refine (HB.out _ zb2 u0 u1 u2 u3 u4 u5 u6 u7).mono ?_
          rintro e w4 ⟨rfl, hb4⟩
          go_wp2
          refine bodyPost_ret (v := .tuple #[.int .i64 6, .int .i64 0]) (by simp [results, Try.results42, go_sem]) rfl (LvRet.mk ?_ (by repeat' (first | with_reducible assumption | with_reducible exact Below.refl _ _ | (with_reducible refine Below.setCell ?_ ?_ _) | (with_reducible refine Below.alloc ?_ ?_ _) | (with_reducible refine Below.drew ?_) | (with_reducible refine below_dr ?_ _) | (with_reducible refine Below.trans ?_ (Below.mono (by with_reducible assumption) ?_)) | omega | (simp; done) | (simp; omega))))
          exact HRR.out _ _ H.out
        · have hge : 16384 * t < 3 * D := by omega
          have hd : decide (3 * D ≤ 16384 * t) = false := by simpa using hle
          clear hle
          go_wp2_with fail
          refine (HB.out _ zb2 u0 u1 u2 u3 u4 u5 u6 u7).mono ?_
          rintro e w4 ⟨rfl, hb4⟩
          go_wp2
          go_roundw
          case rel => exact ⟨7, by omega, by go_num, hge, by repeat' (first | with_reducible assumption | with_reducible exact Below.refl _ _ | (with_reducible refine Below.setCell ?_ ?_ _) | (with_reducible refine Below.alloc ?_ ?_ _) | (with_reducible refine Below.drew ?_) | (with_reducible refine below_dr ?_ _) | (with_reducible refine Below.trans ?_ (Below.mono (by with_reducible assumption) ?_)) | omega | (simp; done) | (simp; omega))⟩
          case measure => simp [intOf]
    · obtain rfl : k = 7 := by omega
      have H := Lib.hid (lev_no t1 hl)
      clear hl hk hlt
      go_wp2
      refine bodyPost_ret (v := .tuple #[.int .i64 0, .int .i64 5]) (by simp [results, Try.results42, go_sem]) rfl (LvRet.mk ?_ (by repeat' (first | with_reducible assumption | with_reducible exact Below.refl _ _ | (with_reducible refine Below.setCell ?_ ?_ _) | (with_reducible refine Below.alloc ?_ ?_ _) | (with_reducible refine Below.drew ?_) | (with_reducible refine below_dr ?_ _) | (with_reducible refine Below.trans ?_ (Below.mono (by with_reducible assumption) ?_)) | omega | (simp; done) | (simp; omega))))
      exact HRR.out _ _ H.out
set_option maxHeartbeats 1600000 in
theorem implLevelFor_any (m0 m1 m2 m3 m4 m5 m6 m7 t : Int) (w : World) (w_t : -9223372036854775808 ≤ t ∧ t ≤ 9223372036854775807) :
    Calls Try.prog 44 #[.agg #[.int .i64 m0, .int .i64 m1, .int .i64 m2, .int .i64 m3, .int .i64 m4, .int .i64 m5, .int .i64 m6, .int .i64 m7], .int .i64 t] w (LvRet m0 m1 m2 m3 m4 m5 m6 m7 t w) := by
  have BO := Lib.hid (fun w => implBendOf_any m0 m1 m2 m3 m4 m5 m6 m7 w)
  unfold BendRet bendV bendC at BO
  rcases hv : okC m0 m1 m2 m3 m4 m5 m6 m7 with _ | _
  · rw [hv] at BO
    have HV := Lib.hid hv
    clear hv
    simp only [cond_false] at BO
    go_enter Try.func44, Try.ntmps44
    go_wp2_with fail
    refine (BO.out _).mono ?_
    rintro e w1 ⟨rfl, hb1⟩
    have z1 := hb1.size
    (try simp only [World.size_alloc] at z1)
    go_wp2
    refine bodyPost_ret (v := .tuple #[.int .i64 0, .int .i64 1]) (by simp [results, Try.results44, go_sem]) rfl (LvRet.mk ?_ (by repeat' (first | with_reducible assumption | with_reducible exact Below.refl _ _ | (with_reducible refine Below.setCell ?_ ?_ _) | (with_reducible refine Below.alloc ?_ ?_ _) | (with_reducible refine Below.drew ?_) | (with_reducible refine below_dr ?_ _) | (with_reducible refine Below.trans ?_ (Below.mono (by with_reducible assumption) ?_)) | omega | (simp; done) | (simp; omega))))
    exact lv_f HV.out
  rw [hv] at BO
  have HV := Lib.hid hv
  clear hv
  simp only [cond_true] at BO
  obtain ⟨h0, h1, h2, h3⟩ := okC_parts HV.out
  have bb := bendI_bound h0 h1 h2 h3
  clear h0 h1 h2 h3
  obtain ⟨D, hD⟩ : ∃ D, D = bendI m0 m1 m2 m3 m4 m5 m6 m7 := ⟨_, rfl⟩
  rw [← hD] at BO bb
  obtain ⟨b1, b2⟩ := bb
  have HD := Lib.hid hD
  clear hD
  by_cases hr : t < 1 ∨ 262144 < t
  · have LL := Lib.hid (fun w => leastLevel_no (3 * D) t w hr)
    have HR := Lib.hid hr
    clear hr
    go_enter Try.func44, Try.ntmps44
    go_wp2_with fail
    refine (BO.out _).mono ?_
    rintro e w1 ⟨rfl, hb1⟩
    have z1 := hb1.size
    (try simp only [World.size_alloc] at z1)
    go_wp2_with fail
    refine (LL.out _).mono ?_
    rintro e w2 ⟨rfl, hb2⟩
    go_wp2
    refine bodyPost_ret (v := .tuple #[.int .i64 0, .int .i64 2]) (by simp [results, Try.results44, go_sem]) rfl (LvRet.mk ?_ (by repeat' (first | with_reducible assumption | with_reducible exact Below.refl _ _ | (with_reducible refine Below.setCell ?_ ?_ _) | (with_reducible refine Below.alloc ?_ ?_ _) | (with_reducible refine Below.drew ?_) | (with_reducible refine below_dr ?_ _) | (with_reducible refine Below.trans ?_ (Below.mono (by with_reducible assumption) ?_)) | omega | (simp; done) | (simp; omega))))
    exact lv_r HV.out HR.out
  have t1 : 1 ≤ t := by omega
  have t2 : t ≤ 262144 := by omega
  clear hr
  have LL := Lib.hid (fun w => leastLevel_any (3 * D) t w t1 t2)
  unfold LevRet at LL
  have HRR := Lib.hid (lv_t HV.out t1 t2 (HD.out ▸ ⟨rfl, rfl⟩ : levV (3 * D) t = levV (3 * bendI m0 m1 m2 m3 m4 m5 m6 m7) t ∧ levC (3 * D) t = levC (3 * bendI m0 m1 m2 m3 m4 m5 m6 m7) t))
  generalize levV (3 * D) t = lv at LL HRR
  generalize levC (3 * D) t = lc at LL HRR
  go_enter Try.func44, Try.ntmps44
  go_wp2_with fail
  refine (BO.out _).mono ?_
  rintro e w1 ⟨rfl, hb1⟩
  have z1 := hb1.size
  (try simp only [World.size_alloc] at z1)
  go_wp2_with fail
  refine (LL.out _).mono ?_
  rintro e w2 ⟨rfl, hb2⟩
  go_wp2
  refine bodyPost_ret (v := .tuple #[.int .i64 lv, .int .i64 lc]) (by simp [results, Try.results44, go_sem]) rfl (LvRet.mk ?_ (by repeat' (first | with_reducible assumption | with_reducible exact Below.refl _ _ | (with_reducible refine Below.setCell ?_ ?_ _) | (with_reducible refine Below.alloc ?_ ?_ _) | (with_reducible refine Below.drew ?_) | (with_reducible refine below_dr ?_ _) | (with_reducible refine Below.trans ?_ (Below.mono (by with_reducible assumption) ?_)) | omega | (simp; done) | (simp; omega))))
  exact HRR.out
end Go.Proofs.Yticgomikfleabaa
