/- Walks: the program's RoundTo: an array of method values; KeepRound, both sides; the laws. -/
import Derived.Test.YtdikenapnncmfaaDoorTse
import Derived.Laws.EntriesVeiled
namespace Go.Proofs.YtdikenapnncmfaaDoor
open Go.RowKit
set_option linter.unusedVariables false
/-- The ways to round a number, by the states. -/
def rndA (v : Int) : Value := .agg #[.func (.func 45) #[.int .i64 v] #[], .func (.func 46) #[.int .i64 v] #[], .func (.func 47) #[.int .i64 v] #[], .func (.func 48) #[.int .i64 v] #[], .func (.func 49) #[.int .i64 v] #[], .func (.func 50) #[.int .i64 v] #[]]
set_option maxHeartbeats 3200000 in
theorem roundings_any (v : Int) (w : World) :
    Calls Tryd.prog 29 #[.int .i64 v] w fun e w' => e = .returned (rndA v) ∧ Below w.heap.size w w' := by
  go_enter Tryd.func29, Tryd.ntmps29
  go_wp2
  refine bodyPost_ret (v := rndA v) (by simp [results, rndA, Tryd.results29, go_sem, *]) rfl ?_
  exact ⟨rfl, by repeat' (first | assumption | exact Below.refl _ _ | (refine Below.setCell ?_ ?_ _) | (refine Below.alloc ?_ ?_ _) | (refine below_dr ?_ _) | exact Nat.le_refl _ | (simp; done) | (simp; omega))⟩
set_option maxRecDepth 100000 in
set_option maxHeartbeats 3200000 in
theorem implRoundTo_any (v s : Int) (w : World) (hv : (-9223372036854775808 ≤ v ∧ v ≤ 9223372036854775807)) (hs : (-9223372036854775808 ≤ s ∧ s ≤ 9223372036854775807)) :
    Calls Tryd.prog 9 #[.int .i64 v, .int .i64 s] w fun e w' => e = .returned (.int .i64 (rtI v s)) ∧ Below w.heap.size w w' := by
  clear hv hs
  have CR := Lib.hid (fun w => roundings_any v w)
  unfold rndA at CR
  by_cases hs : 0 ≤ s ∧ s ≤ 5
  · by_cases h : ptI v
    · have C1 := Lib.hid (fun w => isState_yes s w hs)
      have C2 := Lib.hid (fun w => isRounded_yes v w h)
      rw [show rtI v s = rdI v s by simp [rtI, h]]
      obtain ⟨h1, h2⟩ := h
      by_cases e0 : s = 0
      · subst e0
        rw [show rdI v 0 = v by simp [rdI]]
        have C3 := Lib.hid (fun w => unrounded_any v w (by omega))
        have hix : ∀ W : World, (Instr.index 51 (rndA v) (.int .i64 0)).run Tryd.prog W = .ok (.func (.func 45) #[.int .i64 v] #[]) W := fun W => by kernel_rfl
        unfold rndA at hix
        clear hs h1 h2
        go_enter Tryd.func9, Tryd.ntmps9
        go_wp2_with (first | (go_at_call 27; (with_reducible refine (C1.out _).mono ?_); rintro e wa ⟨rfl, ha⟩; have hza := ha.size; try simp only [World.size_alloc] at hza) | (go_at_call 28; (with_reducible refine (C2.out _).mono ?_); rintro e wb ⟨rfl, hb⟩; have hzb := hb.size; try simp only [World.size_alloc] at hzb) | (go_at_call 29; (with_reducible refine (CR.out _).mono ?_); rintro e wc ⟨rfl, hc⟩; have hzc := hc.size; try simp only [World.size_alloc] at hzc) | (go_at_call 45; (with_reducible refine (C3.out _).mono ?_); rintro e wd ⟨rfl, hd⟩; have hzd := hd.size; try simp only [World.size_alloc] at hzd))
        go_ret
        exact ⟨rfl, by repeat' (first | with_reducible assumption | with_reducible exact Below.refl _ _ | (with_reducible refine Below.setCell ?_ ?_ _) | (with_reducible refine Below.alloc ?_ ?_ _) | (with_reducible refine Below.drew ?_) | (with_reducible refine below_dr ?_ _) | (with_reducible refine Below.trans ?_ (Below.mono (by with_reducible assumption) ?_)) | omega | (simp; done) | (simp; omega))⟩
      by_cases e1 : s = 1
      · subst e1
        rw [show rdI v 1 = dnI (v + 32) 64 by simp [rdI]]
        have C3 := Lib.hid (fun w => toGrid_any v w (by omega))
        have hix : ∀ W : World, (Instr.index 51 (rndA v) (.int .i64 1)).run Tryd.prog W = .ok (.func (.func 46) #[.int .i64 v] #[]) W := fun W => by kernel_rfl
        unfold rndA at hix
        clear hs h1 h2
        generalize dnI (v + 32) 64 = r at *
        go_enter Tryd.func9, Tryd.ntmps9
        go_wp2_with (first | (go_at_call 27; (with_reducible refine (C1.out _).mono ?_); rintro e wa ⟨rfl, ha⟩; have hza := ha.size; try simp only [World.size_alloc] at hza) | (go_at_call 28; (with_reducible refine (C2.out _).mono ?_); rintro e wb ⟨rfl, hb⟩; have hzb := hb.size; try simp only [World.size_alloc] at hzb) | (go_at_call 29; (with_reducible refine (CR.out _).mono ?_); rintro e wc ⟨rfl, hc⟩; have hzc := hc.size; try simp only [World.size_alloc] at hzc) | (go_at_call 46; (with_reducible refine (C3.out _).mono ?_); rintro e wd ⟨rfl, hd⟩; have hzd := hd.size; try simp only [World.size_alloc] at hzd))
        go_ret
        exact ⟨rfl, by repeat' (first | with_reducible assumption | with_reducible exact Below.refl _ _ | (with_reducible refine Below.setCell ?_ ?_ _) | (with_reducible refine Below.alloc ?_ ?_ _) | (with_reducible refine Below.drew ?_) | (with_reducible refine below_dr ?_ _) | (with_reducible refine Below.trans ?_ (Below.mono (by with_reducible assumption) ?_)) | omega | (simp; done) | (simp; omega))⟩
      by_cases e2 : s = 2
      · subst e2
        rw [show rdI v 2 = dnI v 64 + 32 by simp [rdI]]
        have C3 := Lib.hid (fun w => toHalf_any v w (by omega))
        have hix : ∀ W : World, (Instr.index 51 (rndA v) (.int .i64 2)).run Tryd.prog W = .ok (.func (.func 47) #[.int .i64 v] #[]) W := fun W => by kernel_rfl
        unfold rndA at hix
        clear hs h1 h2
        generalize dnI v 64 + 32 = r at *
        go_enter Tryd.func9, Tryd.ntmps9
        go_wp2_with (first | (go_at_call 27; (with_reducible refine (C1.out _).mono ?_); rintro e wa ⟨rfl, ha⟩; have hza := ha.size; try simp only [World.size_alloc] at hza) | (go_at_call 28; (with_reducible refine (C2.out _).mono ?_); rintro e wb ⟨rfl, hb⟩; have hzb := hb.size; try simp only [World.size_alloc] at hzb) | (go_at_call 29; (with_reducible refine (CR.out _).mono ?_); rintro e wc ⟨rfl, hc⟩; have hzc := hc.size; try simp only [World.size_alloc] at hzc) | (go_at_call 47; (with_reducible refine (C3.out _).mono ?_); rintro e wd ⟨rfl, hd⟩; have hzd := hd.size; try simp only [World.size_alloc] at hzd))
        go_ret
        exact ⟨rfl, by repeat' (first | with_reducible assumption | with_reducible exact Below.refl _ _ | (with_reducible refine Below.setCell ?_ ?_ _) | (with_reducible refine Below.alloc ?_ ?_ _) | (with_reducible refine Below.drew ?_) | (with_reducible refine below_dr ?_ _) | (with_reducible refine Below.trans ?_ (Below.mono (by with_reducible assumption) ?_)) | omega | (simp; done) | (simp; omega))⟩
      by_cases e3 : s = 3
      · subst e3
        rw [show rdI v 3 = dnI (v + 16) 32 by simp [rdI]]
        have C3 := Lib.hid (fun w => toDouble_any v w (by omega))
        have hix : ∀ W : World, (Instr.index 51 (rndA v) (.int .i64 3)).run Tryd.prog W = .ok (.func (.func 48) #[.int .i64 v] #[]) W := fun W => by kernel_rfl
        unfold rndA at hix
        clear hs h1 h2
        generalize dnI (v + 16) 32 = r at *
        go_enter Tryd.func9, Tryd.ntmps9
        go_wp2_with (first | (go_at_call 27; (with_reducible refine (C1.out _).mono ?_); rintro e wa ⟨rfl, ha⟩; have hza := ha.size; try simp only [World.size_alloc] at hza) | (go_at_call 28; (with_reducible refine (C2.out _).mono ?_); rintro e wb ⟨rfl, hb⟩; have hzb := hb.size; try simp only [World.size_alloc] at hzb) | (go_at_call 29; (with_reducible refine (CR.out _).mono ?_); rintro e wc ⟨rfl, hc⟩; have hzc := hc.size; try simp only [World.size_alloc] at hzc) | (go_at_call 48; (with_reducible refine (C3.out _).mono ?_); rintro e wd ⟨rfl, hd⟩; have hzd := hd.size; try simp only [World.size_alloc] at hzd))
        go_ret
        exact ⟨rfl, by repeat' (first | with_reducible assumption | with_reducible exact Below.refl _ _ | (with_reducible refine Below.setCell ?_ ?_ _) | (with_reducible refine Below.alloc ?_ ?_ _) | (with_reducible refine Below.drew ?_) | (with_reducible refine below_dr ?_ _) | (with_reducible refine Below.trans ?_ (Below.mono (by with_reducible assumption) ?_)) | omega | (simp; done) | (simp; omega))⟩
      by_cases e4 : s = 4
      · subst e4
        rw [show rdI v 4 = dnI v 64 by simp [rdI]]
        have C3 := Lib.hid (fun w => toDown_any v w (by omega))
        have hix : ∀ W : World, (Instr.index 51 (rndA v) (.int .i64 4)).run Tryd.prog W = .ok (.func (.func 49) #[.int .i64 v] #[]) W := fun W => by kernel_rfl
        unfold rndA at hix
        clear hs h1 h2
        generalize dnI v 64 = r at *
        go_enter Tryd.func9, Tryd.ntmps9
        go_wp2_with (first | (go_at_call 27; (with_reducible refine (C1.out _).mono ?_); rintro e wa ⟨rfl, ha⟩; have hza := ha.size; try simp only [World.size_alloc] at hza) | (go_at_call 28; (with_reducible refine (C2.out _).mono ?_); rintro e wb ⟨rfl, hb⟩; have hzb := hb.size; try simp only [World.size_alloc] at hzb) | (go_at_call 29; (with_reducible refine (CR.out _).mono ?_); rintro e wc ⟨rfl, hc⟩; have hzc := hc.size; try simp only [World.size_alloc] at hzc) | (go_at_call 49; (with_reducible refine (C3.out _).mono ?_); rintro e wd ⟨rfl, hd⟩; have hzd := hd.size; try simp only [World.size_alloc] at hzd))
        go_ret
        exact ⟨rfl, by repeat' (first | with_reducible assumption | with_reducible exact Below.refl _ _ | (with_reducible refine Below.setCell ?_ ?_ _) | (with_reducible refine Below.alloc ?_ ?_ _) | (with_reducible refine Below.drew ?_) | (with_reducible refine below_dr ?_ _) | (with_reducible refine Below.trans ?_ (Below.mono (by with_reducible assumption) ?_)) | omega | (simp; done) | (simp; omega))⟩
      by_cases e5 : s = 5
      · subst e5
        rw [show rdI v 5 = dnI (v + 63) 64 by simp [rdI]]
        have C3 := Lib.hid (fun w => toUp_any v w (by omega))
        have hix : ∀ W : World, (Instr.index 51 (rndA v) (.int .i64 5)).run Tryd.prog W = .ok (.func (.func 50) #[.int .i64 v] #[]) W := fun W => by kernel_rfl
        unfold rndA at hix
        clear hs h1 h2
        generalize dnI (v + 63) 64 = r at *
        go_enter Tryd.func9, Tryd.ntmps9
        go_wp2_with (first | (go_at_call 27; (with_reducible refine (C1.out _).mono ?_); rintro e wa ⟨rfl, ha⟩; have hza := ha.size; try simp only [World.size_alloc] at hza) | (go_at_call 28; (with_reducible refine (C2.out _).mono ?_); rintro e wb ⟨rfl, hb⟩; have hzb := hb.size; try simp only [World.size_alloc] at hzb) | (go_at_call 29; (with_reducible refine (CR.out _).mono ?_); rintro e wc ⟨rfl, hc⟩; have hzc := hc.size; try simp only [World.size_alloc] at hzc) | (go_at_call 50; (with_reducible refine (C3.out _).mono ?_); rintro e wd ⟨rfl, hd⟩; have hzd := hd.size; try simp only [World.size_alloc] at hzd))
        go_ret
        exact ⟨rfl, by repeat' (first | with_reducible assumption | with_reducible exact Below.refl _ _ | (with_reducible refine Below.setCell ?_ ?_ _) | (with_reducible refine Below.alloc ?_ ?_ _) | (with_reducible refine Below.drew ?_) | (with_reducible refine below_dr ?_ _) | (with_reducible refine Below.trans ?_ (Below.mono (by with_reducible assumption) ?_)) | omega | (simp; done) | (simp; omega))⟩
      omega
    · have C1 := Lib.hid (fun w => isState_yes s w hs)
      have C2 := Lib.hid (fun w => isRounded_no v w h)
      rw [show rtI v s = v by simp [rtI, h]]
      go_enter Tryd.func9, Tryd.ntmps9
      go_wp2_with (first | (go_at_call 27; (with_reducible refine (C1.out _).mono ?_); rintro e wa ⟨rfl, ha⟩; have hza := ha.size; try simp only [World.size_alloc] at hza) | (go_at_call 28; (with_reducible refine (C2.out _).mono ?_); rintro e wb ⟨rfl, hb⟩; have hzb := hb.size; try simp only [World.size_alloc] at hzb))
      go_ret
      exact ⟨rfl, by repeat' (first | with_reducible assumption | with_reducible exact Below.refl _ _ | (with_reducible refine Below.setCell ?_ ?_ _) | (with_reducible refine Below.alloc ?_ ?_ _) | (with_reducible refine Below.drew ?_) | (with_reducible refine below_dr ?_ _) | (with_reducible refine Below.trans ?_ (Below.mono (by with_reducible assumption) ?_)) | omega | (simp; done) | (simp; omega))⟩
  · have C1 := Lib.hid (fun w => isState_no s w hs)
    rw [show rtI v s = v by unfold rtI rdI; repeat' split; all_goals first | rfl | omega]
    go_enter Tryd.func9, Tryd.ntmps9
    go_wp2_with (first | (go_at_call 27; (with_reducible refine (C1.out _).mono ?_); rintro e wa ⟨rfl, ha⟩; have hza := ha.size; try simp only [World.size_alloc] at hza))
    go_ret
    exact ⟨rfl, by repeat' (first | with_reducible assumption | with_reducible exact Below.refl _ _ | (with_reducible refine Below.setCell ?_ ?_ _) | (with_reducible refine Below.alloc ?_ ?_ _) | (with_reducible refine Below.drew ?_) | (with_reducible refine below_dr ?_ _) | (with_reducible refine Below.trans ?_ (Below.mono (by with_reducible assumption) ?_)) | omega | (simp; done) | (simp; omega))⟩
set_option maxHeartbeats 1600000 in
theorem implKeepRound_nn (v s l : Int) (w : World) (h : ptI v) (hn : 0 ≤ v) (hl : 0 ≤ l ∧ l ≤ 1099511627776) (hs : (-9223372036854775808 ≤ s ∧ s ≤ 9223372036854775807)) :
    Calls Tryd.prog 12 #[.int .i64 v, .int .i64 s, .int .i64 l] w fun e w' => e = .returned (.int .i64 (max (rdI v s) l)) ∧ Below w.heap.size w w' := by
  have C1 := Lib.hid (fun w => isRounded_yes v w h)
  have C2 := Lib.hid (fun w => implRoundTo_any v s w (by unfold ptI at h; omega) hs)
  rw [show rtI v s = rdI v s by simp [rtI, h]] at C2
  generalize rdI v s = r at *
  have mx2 := fun w ts t x y => @run_max2' Tryd.prog w ts t x y
  obtain ⟨l1, l2⟩ := hl
  clear h hs
  go_enter Tryd.func12, Tryd.ntmps12
  go_wp2_with (first | (go_at_call 28; (with_reducible refine (C1.out _).mono ?_); rintro e wa ⟨rfl, ha⟩; have hza := ha.size; try simp only [World.size_alloc] at hza) | (go_at_call 9; (with_reducible refine (C2.out _).mono ?_); rintro e wb ⟨rfl, hb⟩; have hzb := hb.size; try simp only [World.size_alloc] at hzb))
  go_ret
  exact ⟨rfl, by repeat' (first | with_reducible assumption | with_reducible exact Below.refl _ _ | (with_reducible refine Below.setCell ?_ ?_ _) | (with_reducible refine Below.alloc ?_ ?_ _) | (with_reducible refine Below.drew ?_) | (with_reducible refine below_dr ?_ _) | (with_reducible refine Below.trans ?_ (Below.mono (by with_reducible assumption) ?_)) | omega | (simp; done) | (simp; omega))⟩
set_option maxHeartbeats 1600000 in
theorem implKeepRound_any (v s l : Int) (w : World) (hv : (-9223372036854775808 ≤ v ∧ v ≤ 9223372036854775807)) (hs : (-9223372036854775808 ≤ s ∧ s ≤ 9223372036854775807)) (hl : (-9223372036854775808 ≤ l ∧ l ≤ 9223372036854775807)) :
    Calls Tryd.prog 12 #[.int .i64 v, .int .i64 s, .int .i64 l] w fun e w' => e = .returned (.int .i64 (kpI v s l)) ∧ Below w.heap.size w w' := by
  by_cases h : ptI v
  · by_cases hl : 0 ≤ l ∧ l ≤ 1099511627776
    · by_cases hn : 0 ≤ v
      · rw [show kpI v s l = max (rdI v s) l by unfold kpI; rw [if_pos ⟨h, hl⟩, if_neg (by omega)]]
        exact implKeepRound_nn v s l w h hn hl hs
      · rw [show kpI v s l = -max (rdI (-v) s) l by unfold kpI; rw [if_pos ⟨h, hl⟩, if_pos (by omega)]]
        have C1 := Lib.hid (fun w => isRounded_yes v w h)
        have hp : ptI (-v) := by unfold ptI at h ⊢; omega
        have C2 := Lib.hid (fun w => implKeepRound_nn (-v) s l w hp (by omega) hl hs)
        have hr := rd_in (s := s) hp
        have hw := i64m (n := -v) (by unfold ptI at h; omega)
        generalize rdI (-v) s = r at *
        have hw2 := i64m (n := -max r l) (by omega)
        generalize max r l = m at *
        have hn' : v < 0 := by omega
        obtain ⟨l1, l2⟩ := hl
        clear h hp hr hn hv hs
        go_enter Tryd.func12, Tryd.ntmps12
        go_wp2_with (first | (go_at_call 28; (with_reducible refine (C1.out _).mono ?_); rintro e wa ⟨rfl, ha⟩; have hza := ha.size; try simp only [World.size_alloc] at hza) | (go_at_call 12; (with_reducible refine (C2.out _).mono ?_); rintro e wb ⟨rfl, hb⟩; have hzb := hb.size; try simp only [World.size_alloc] at hzb))
        go_ret
        exact ⟨rfl, by repeat' (first | with_reducible assumption | with_reducible exact Below.refl _ _ | (with_reducible refine Below.setCell ?_ ?_ _) | (with_reducible refine Below.alloc ?_ ?_ _) | (with_reducible refine Below.drew ?_) | (with_reducible refine below_dr ?_ _) | (with_reducible refine Below.trans ?_ (Below.mono (by with_reducible assumption) ?_)) | omega | (simp; done) | (simp; omega))⟩
    · rw [show kpI v s l = v by unfold kpI; rw [if_neg (fun q => hl q.2)]]
      have C1 := Lib.hid (fun w => isRounded_yes v w h)
      clear h
      by_cases l1 : l < 0
      · go_enter Tryd.func12, Tryd.ntmps12
        go_wp2_with (first | (go_at_call 28; (with_reducible refine (C1.out _).mono ?_); rintro e wa ⟨rfl, ha⟩; have hza := ha.size; try simp only [World.size_alloc] at hza))
        go_ret
        exact ⟨rfl, by repeat' (first | with_reducible assumption | with_reducible exact Below.refl _ _ | (with_reducible refine Below.setCell ?_ ?_ _) | (with_reducible refine Below.alloc ?_ ?_ _) | (with_reducible refine Below.drew ?_) | (with_reducible refine below_dr ?_ _) | (with_reducible refine Below.trans ?_ (Below.mono (by with_reducible assumption) ?_)) | omega | (simp; done) | (simp; omega))⟩
      · have l2 : 1099511627776 < l := by omega
        have l3 : 0 ≤ l := by omega
        clear l1 hl
        go_enter Tryd.func12, Tryd.ntmps12
        go_wp2_with (first | (go_at_call 28; (with_reducible refine (C1.out _).mono ?_); rintro e wa ⟨rfl, ha⟩; have hza := ha.size; try simp only [World.size_alloc] at hza))
        go_ret
        exact ⟨rfl, by repeat' (first | with_reducible assumption | with_reducible exact Below.refl _ _ | (with_reducible refine Below.setCell ?_ ?_ _) | (with_reducible refine Below.alloc ?_ ?_ _) | (with_reducible refine Below.drew ?_) | (with_reducible refine below_dr ?_ _) | (with_reducible refine Below.trans ?_ (Below.mono (by with_reducible assumption) ?_)) | omega | (simp; done) | (simp; omega))⟩
  · rw [show kpI v s l = v by unfold kpI; rw [if_neg (fun q => h q.1)]]
    have C1 := Lib.hid (fun w => isRounded_no v w h)
    go_enter Tryd.func12, Tryd.ntmps12
    go_wp2_with (first | (go_at_call 28; (with_reducible refine (C1.out _).mono ?_); rintro e wa ⟨rfl, ha⟩; have hza := ha.size; try simp only [World.size_alloc] at hza))
    go_ret
    exact ⟨rfl, by repeat' (first | with_reducible assumption | with_reducible exact Below.refl _ _ | (with_reducible refine Below.setCell ?_ ?_ _) | (with_reducible refine Below.alloc ?_ ?_ _) | (with_reducible refine Below.drew ?_) | (with_reducible refine below_dr ?_ _) | (with_reducible refine Below.trans ?_ (Below.mono (by with_reducible assumption) ?_)) | omega | (simp; done) | (simp; omega))⟩
end Go.Proofs.YtdikenapnncmfaaDoor
