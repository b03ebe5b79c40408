/- Walks: ProgramOf, the reference's side. -/
import Derived.Test.YtofaolbgjhpopabDoorPob
namespace Go.Proofs.YtofaolbgjhpopabDoor
open Go.RowKit
set_option linter.unusedVariables false
def pgC (l : List AHint) : Int := if alB l = true then (if ntB l = true then (if 400 < (pgI l).length then 5 else 0) else 6) else 1
def pgV (l : List AHint) : ByteArray := if pgC l = 0 then pgT l else ⟨#[]⟩
theorem pgT_size (l : List AHint) : (pgT l).size = (pgI l).length := by simp [pgT, ByteArray.size]
theorem pg_1 {l : List AHint} (h : alB l = false) : pgC l = 1 ∧ pgV l = ⟨#[]⟩ := by simp [pgV, pgC, h]
theorem pg_6 {l : List AHint} (h : alB l = true) (h2 : ntB l = false) : pgC l = 6 ∧ pgV l = ⟨#[]⟩ := by simp [pgV, pgC, h, h2]
theorem pg_5 {l : List AHint} (h : alB l = true) (h2 : ntB l = true) (h3 : 400 < (pgT l).size) : pgC l = 5 ∧ pgV l = ⟨#[]⟩ := by rw [pgT_size] at h3; simp [pgV, pgC, h, h2, h3]
theorem pg_0 {l : List AHint} (h : alB l = true) (h2 : ntB l = true) (h3 : (pgT l).size ≤ 400) : pgC l = 0 ∧ pgV l = pgT l := by
  rw [pgT_size] at h3
  have h4 : ¬ 400 < (pgI l).length := by omega
  simp [pgV, pgC, h, h2, h4]
set_option maxRecDepth 100000 in
set_option maxHeartbeats 3200000 in
theorem l19Make_any (l : List AHint) (A : Option Addr) (c : Nat) (w : World) (hl : l.length ≤ 1048576) (r : Rd cHint 2 w w.heap.size A l) :
    Calls Tryd.prog 17 #[.slice A l.length c] w fun e w' => e = .returned (.tuple #[.string (pgV l), .int .i64 (pgC l)]) ∧ Below w.heap.size w w' := by
  have C1 := Lib.hid (l19All_any l A c w hl r)
  have C2 := Lib.hid (show ∀ w1, Below w.heap.size w w1 → Calls Tryd.prog 27 #[.slice A l.length c] w1 fun e w' => e = .returned (.bool (ntB l)) ∧ Below w1.heap.size w1 w' from fun w1 hb => l19Nested_any l A c w1 hl ((Rd.carry r hb (Nat.le_refl _)).more hb.size))
  have C3 := Lib.hid (show ∀ w1, Below w.heap.size w w1 → Calls Tryd.prog 30 #[.slice A l.length c] w1 fun e w' => e = .returned (.string (pgT l)) ∧ Below w1.heap.size w1 w' from fun w1 hb => l19Program_any l A c w1 hl ((Rd.carry r hb (Nat.le_refl _)).more hb.size))
  clear r
  rcases h1 : alB l with _ | _
  · obtain ⟨p1, p2⟩ := pg_1 h1
    rw [p1, p2]
    rw [h1] at C1
    clear h1 p1 p2 C2 C3
    generalize l.length = n at *
    go_enter Tryd.func17, Tryd.ntmps17
    go_wp2_with (go_at_call 29; (with_reducible refine (C1.out).mono ?_); rintro e wa ⟨rfl, ha⟩; have hza := ha.size)
    refine bodyPost_ret (v := .tuple #[.string (⟨#[]⟩), .int .i64 (1)]) (by simp [results, Tryd.results17, go_sem]) rfl ⟨rfl, ?_⟩
    repeat' (first | with_reducible assumption | with_reducible exact Below.refl _ _ | (with_reducible refine Below.setCell ?_ ?_ _) | (with_reducible refine Below.alloc ?_ ?_ _) | (with_reducible refine Below.drew ?_) | (with_reducible refine below_dr ?_ _) | (with_reducible refine Below.trans ?_ (Below.mono (by with_reducible assumption) ?_)) | omega | (simp; done) | (simp; omega))
  rcases h2 : ntB l with _ | _
  · obtain ⟨p1, p2⟩ := pg_6 h1 h2
    rw [p1, p2]
    rw [h1] at C1
    rw [h2] at C2
    clear h1 h2 p1 p2 C3
    generalize l.length = n at *
    go_enter Tryd.func17, Tryd.ntmps17
    go_wp2_with (first | (go_at_call 29; (with_reducible refine (C1.out).mono ?_); rintro e wa ⟨rfl, ha⟩; have hza := ha.size) | (go_at_call 27; (with_reducible refine (C2.out _ (by repeat' (first | with_reducible assumption | with_reducible exact Below.refl _ _ | (with_reducible refine Below.setCell ?_ ?_ _) | (with_reducible refine Below.alloc ?_ ?_ _) | (with_reducible refine Below.drew ?_) | (with_reducible refine below_dr ?_ _) | (with_reducible refine Below.trans ?_ (Below.mono (by with_reducible assumption) ?_)) | omega | (simp; done) | (simp; omega)))).mono ?_); rintro e wb ⟨rfl, hb⟩; have hzb := hb.size))
    refine bodyPost_ret (v := .tuple #[.string (⟨#[]⟩), .int .i64 (6)]) (by simp [results, Tryd.results17, go_sem]) rfl ⟨rfl, ?_⟩
    repeat' (first | with_reducible assumption | with_reducible exact Below.refl _ _ | (with_reducible refine Below.setCell ?_ ?_ _) | (with_reducible refine Below.alloc ?_ ?_ _) | (with_reducible refine Below.drew ?_) | (with_reducible refine below_dr ?_ _) | (with_reducible refine Below.trans ?_ (Below.mono (by with_reducible assumption) ?_)) | omega | (simp; done) | (simp; omega))
  by_cases h3 : 400 < (pgT l).size
  · obtain ⟨p1, p2⟩ := pg_5 h1 h2 h3
    rw [p1, p2]
    rw [h1] at C1
    rw [h2] at C2
    clear h1 h2 p1 p2
    generalize l.length = n at *
    generalize pgT l = R at *
    go_enter Tryd.func17, Tryd.ntmps17
    go_wp2_with (first | (go_at_call 29; (with_reducible refine (C1.out).mono ?_); rintro e wa ⟨rfl, ha⟩; have hza := ha.size) | (go_at_call 27; (with_reducible refine (C2.out _ (by repeat' (first | with_reducible assumption | with_reducible exact Below.refl _ _ | (with_reducible refine Below.setCell ?_ ?_ _) | (with_reducible refine Below.alloc ?_ ?_ _) | (with_reducible refine Below.drew ?_) | (with_reducible refine below_dr ?_ _) | (with_reducible refine Below.trans ?_ (Below.mono (by with_reducible assumption) ?_)) | omega | (simp; done) | (simp; omega)))).mono ?_); rintro e wb ⟨rfl, hb⟩; have hzb := hb.size) | (go_at_call 30; (with_reducible refine (C3.out _ (by repeat' (first | with_reducible assumption | with_reducible exact Below.refl _ _ | (with_reducible refine Below.setCell ?_ ?_ _) | (with_reducible refine Below.alloc ?_ ?_ _) | (with_reducible refine Below.drew ?_) | (with_reducible refine below_dr ?_ _) | (with_reducible refine Below.trans ?_ (Below.mono (by with_reducible assumption) ?_)) | omega | (simp; done) | (simp; omega)))).mono ?_); rintro e wc ⟨rfl, hc⟩; have hzc := hc.size))
    refine bodyPost_ret (v := .tuple #[.string (⟨#[]⟩), .int .i64 (5)]) (by simp [results, Tryd.results17, go_sem]) rfl ⟨rfl, ?_⟩
    repeat' (first | with_reducible assumption | with_reducible exact Below.refl _ _ | (with_reducible refine Below.setCell ?_ ?_ _) | (with_reducible refine Below.alloc ?_ ?_ _) | (with_reducible refine Below.drew ?_) | (with_reducible refine below_dr ?_ _) | (with_reducible refine Below.trans ?_ (Below.mono (by with_reducible assumption) ?_)) | omega | (simp; done) | (simp; omega))
  · obtain ⟨p1, p2⟩ := pg_0 h1 h2 (by omega)
    rw [p1, p2]
    rw [h1] at C1
    rw [h2] at C2
    clear h1 h2 p1 p2
    have h4 : (pgT l).size ≤ 400 := by omega
    clear h3
    generalize l.length = n at *
    generalize pgT l = R at *
    go_enter Tryd.func17, Tryd.ntmps17
    go_wp2_with (first | (go_at_call 29; (with_reducible refine (C1.out).mono ?_); rintro e wa ⟨rfl, ha⟩; have hza := ha.size) | (go_at_call 27; (with_reducible refine (C2.out _ (by repeat' (first | with_reducible assumption | with_reducible exact Below.refl _ _ | (with_reducible refine Below.setCell ?_ ?_ _) | (with_reducible refine Below.alloc ?_ ?_ _) | (with_reducible refine Below.drew ?_) | (with_reducible refine below_dr ?_ _) | (with_reducible refine Below.trans ?_ (Below.mono (by with_reducible assumption) ?_)) | omega | (simp; done) | (simp; omega)))).mono ?_); rintro e wb ⟨rfl, hb⟩; have hzb := hb.size) | (go_at_call 30; (with_reducible refine (C3.out _ (by repeat' (first | with_reducible assumption | with_reducible exact Below.refl _ _ | (with_reducible refine Below.setCell ?_ ?_ _) | (with_reducible refine Below.alloc ?_ ?_ _) | (with_reducible refine Below.drew ?_) | (with_reducible refine below_dr ?_ _) | (with_reducible refine Below.trans ?_ (Below.mono (by with_reducible assumption) ?_)) | omega | (simp; done) | (simp; omega)))).mono ?_); rintro e wc ⟨rfl, hc⟩; have hzc := hc.size))
    refine bodyPost_ret (v := .tuple #[.string (R), .int .i64 (0)]) (by simp [results, Tryd.results17, go_sem]) rfl ⟨rfl, ?_⟩
    repeat' (first | with_reducible assumption | with_reducible exact Below.refl _ _ | (with_reducible refine Below.setCell ?_ ?_ _) | (with_reducible refine Below.alloc ?_ ?_ _) | (with_reducible refine Below.drew ?_) | (with_reducible refine below_dr ?_ _) | (with_reducible refine Below.trans ?_ (Below.mono (by with_reducible assumption) ?_)) | omega | (simp; done) | (simp; omega))
set_option maxRecDepth 100000 in
set_option maxHeartbeats 3200000 in
theorem specProgramOf_any (l : List AHint) (A : Option Addr) (c : Nat) (w : World) (hl : l.length ≤ 1048576) (r : Rd cHint 2 w w.heap.size A l) :
    Calls Tryd.prog 9 #[.slice A l.length c] w fun e w' => e = .returned (.tuple #[.string (pgV l), .int .i64 (pgC l)]) ∧ Below w.heap.size w w' := by
  have C1 := Lib.hid (l19Make_any l A c w hl r)
  clear r
  generalize pgV l = R at *
  generalize pgC l = C at *
  generalize l.length = n at *
  go_enter Tryd.func9, Tryd.ntmps9
  go_wp2_with (go_at_call 17; (with_reducible refine (C1.out).mono ?_); rintro e wa ⟨rfl, ha⟩; have hza := ha.size)
  refine bodyPost_ret (v := .tuple #[.string (R), .int .i64 (C)]) (by simp [results, Tryd.results9, go_sem]) rfl ⟨rfl, ?_⟩
  repeat' (first | with_reducible assumption | with_reducible exact Below.refl _ _ | (with_reducible refine Below.setCell ?_ ?_ _) | (with_reducible refine Below.alloc ?_ ?_ _) | (with_reducible refine Below.drew ?_) | (with_reducible refine below_dr ?_ _) | (with_reducible refine Below.trans ?_ (Below.mono (by with_reducible assumption) ?_)) | omega | (simp; done) | (simp; omega))
end Go.Proofs.YtofaolbgjhpopabDoor
