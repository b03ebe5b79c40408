/- Walks: ReadFrac on the reference's side. -/
import Derived.Test.YtaphkogdcmnnbabDoorRi
import Derived.Deep.DeepCutAuto
namespace Go.Proofs.YtaphkogdcmnnbabDoor
open Go.RowKit

/-- What a reading of a fraction returns. -/
def ansF : Option (Int × Int) → Value
  | some p => .tuple #[.agg #[.int .i64 p.1, .int .i64 p.2], .bool true]
  | none => .tuple #[.agg #[.int .i64 0, .int .i64 0], .bool false]
theorem ret_no {o : Option (Int × Int)} (h : o = none) : Ending.returned (.tuple #[.agg #[.int .i64 0, .int .i64 0], .bool false]) = .returned (ansF o) := by rw [h]; rfl
theorem ret_yes {o : Option (Int × Int)} {n d : Int} (h : o = some (n, d)) : Ending.returned (.tuple #[.agg #[.int .i64 n, .int .i64 d], .bool true]) = .returned (ansF o) := by rw [h]; rfl
theorem l02Int_yes {s : ByteArray} {n : Int} (h : int10 s.data.toList = some n) (w : World) :
    Calls Tryd.prog 15 #[.string s] w fun e w' => e = .returned (.tuple #[.int .i64 n, .bool true]) ∧ w = w' := by
  have := l02Int_any s w
  rw [h] at this
  exact this
theorem l02Int_no {s : ByteArray} (h : int10 s.data.toList = none) (w : World) :
    Calls Tryd.prog 15 #[.string s] w fun e w' => e = .returned (.tuple #[.int .i64 0, .bool false]) ∧ w = w' := by
  have := l02Int_any s w
  rw [h] at this
  exact this
theorem int10_bd {l : List UInt8} {n : Int} (h : int10 l = some n) : -1000000000000000000 < n ∧ n < 1000000000000000000 := by
  unfold int10 at h
  split at h
  · rename_i hl
    split at h
    · rename_i u hu
      injection h with h
      subst h
      have := Lib.decFrom_lt18 hu (by omega)
      unfold signOf
      split <;> omega
    · cases h
  · cases h
theorem ansS_hit {x y : List UInt8} (h : (47 : UInt8) ∉ x) : ansS (x ++ 47 :: y) = (int10 y).bind fun d => finS (x ++ 47 :: y) x d := by
  unfold ansS
  rw [cut_mid x y h, if_pos rfl]
theorem ansS_miss {x : List UInt8} (h : (47 : UInt8) ∉ x) : ansS x = finS x x 1 := by
  unfold ansS
  rw [cut_none47 x h, if_neg (by simp)]
theorem split_at (s : ByteArray) (k : Nat) (h : k < s.size) (hb : s[k] = 47) : s.data.toList = (s.extract 0 k).data.toList ++ 47 :: (s.extract (k + 1) s.size).data.toList := by
  have hl : k < s.data.toList.length := by rw [← Lib.size_eq]; exact h
  rw [Lib.extract_data, Lib.extract_data]
  have e1 : s.data.toList.drop k = 47 :: s.data.toList.drop (k + 1) := by
    rw [List.drop_eq_getElem_cons hl]
    congr 1
  rw [List.drop_zero, Nat.sub_zero, List.take_of_length_le (l := s.data.toList.drop (k + 1)) (by rw [List.length_drop, ← Lib.size_eq]; omega), ← e1, List.take_append_drop]
theorem no47 (s : ByteArray) (k : Nat) (hk : k ≤ s.size) (h : ∀ j (hj : j < s.size), j < k → s[j] ≠ 47) : (47 : UInt8) ∉ (s.extract 0 k).data.toList := by
  rw [Lib.extract_data, List.drop_zero, Nat.sub_zero]
  intro hm
  obtain ⟨j, hj, he⟩ := List.getElem_of_mem hm
  rw [List.length_take] at hj
  have hj2 : j < s.size := by have := hk; omega
  exact h j hj2 (by omega) (by rw [List.getElem_take] at he; exact he)
theorem text_eq {t s : ByteArray} : (t.toList == s.toList) = decide (t.data.toList = s.data.toList) := by
  rw [Lib.toList_data, Lib.toList_data]
  by_cases h : t.data.toList = s.data.toList
  · rw [h]; simp
  · rw [decide_eq_false h]; exact beq_eq_false_iff_ne.2 h

set_option maxHeartbeats 1600000 in
theorem specReadFrac_any (s : ByteArray) (w : World) (hs : s.size ≤ 1048576) :
    Calls Tryd.prog 8 #[.string s] w fun e w' => e = .returned (ansF (ansS s.data.toList)) ∧ Below w.heap.size w w' := by
  go_enter Tryd.func8, Tryd.ntmps8
  go_wp2
  go_loop [5, 6] (fun h i => ∃ k : Nat, k ≤ s.size ∧ i = .int .i64 k ∧ h = .string s ∧ Hid (∀ j (hj : j < s.size), j < k → s[j] ≠ 47)) (fun _ i => s.size - (intOf i).toNat)
  case atStart => exact ⟨0, Nat.zero_le _, rfl, rfl, fun j _ h => absurd h (by omega)⟩
  case round =>
    obtain ⟨k, hk, rfl, rfl, hno⟩ := hrel
    by_cases hlt : k < s.size
    · by_cases hc : s[k] = 47
      · have e1 : ((s[k].toNat : Int) == 47) = true := by rw [hc]; rfl
        have hn47 := no47 s k (by omega) hno
        have hsp := split_at s k hlt hc
        have hans := ansS_hit (y := (s.extract (k + 1) s.size).data.toList) hn47
        rw [← hsp] at hans
        clear hc hsp hn47
        obtain ⟨a, ha⟩ : ∃ a, s.extract 0 k = a := ⟨_, rfl⟩
        obtain ⟨T, hT⟩ : ∃ T, s.extract (k + 1) s.size = T := ⟨_, rfl⟩
        rw [ha, hT] at hans
        cases hD : int10 T.data.toList with
        | none =>
          have H := Lib.hid (show ansS s.data.toList = none by rw [hans, hD]; rfl)
          have CD := Lib.hid (l02Int_no hD)
          clear hans hD
          go_wp2_with fail
          refine (CD.out _).mono ?_
          rintro e wA ⟨rfl, rfl⟩
          go_wp2
          refine bodyPost_ret (v := .tuple #[.agg #[.int .i64 0, .int .i64 0], .bool false]) (by simp [results, Tryd.results8, go_sem]) rfl ⟨ret_no H.out, ?_⟩
          repeat' (first | exact Below.refl _ _ | (refine Below.setCell ?_ ?_ _) | (refine Below.alloc ?_ ?_ _) | (refine below_dr ?_ _) | exact Nat.le_refl _ | (simp; done) | (simp; omega))
        | some den =>
          have hb0 := int10_bd hD
          have CD := Lib.hid (l02Int_yes hD)
          rw [hD] at hans
          simp only [Option.bind_some] at hans
          clear hD
          have HA := Lib.hid hans
          clear hans
          go_wp2_with fail
          refine (CD.out _).mono ?_
          rintro e wA ⟨rfl, rfl⟩
          cases hA : int10 a.data.toList with
          | none =>
            have H := Lib.hid (show ansS s.data.toList = none by rw [HA.out]; unfold finS; rw [hA]; rfl)
            have CA := Lib.hid (l02Int_no hA)
            clear hA
            go_wp2_with fail
            refine (CA.out _).mono ?_
            rintro e wA ⟨rfl, rfl⟩
            go_wp2
            refine bodyPost_ret (v := .tuple #[.agg #[.int .i64 0, .int .i64 0], .bool false]) (by simp [results, Tryd.results8, go_sem]) rfl ⟨ret_no H.out, ?_⟩
            repeat' (first | exact Below.refl _ _ | (refine Below.setCell ?_ ?_ _) | (refine Below.alloc ?_ ?_ _) | (refine below_dr ?_ _) | exact Nat.le_refl _ | (simp; done) | (simp; omega))
          | some num =>
            have hb1 := int10_bd hA
            have hS := HA.out
            unfold finS at hS
            rw [hA] at hS
            simp only [Option.bind_some] at hS
            have CA := Lib.hid (l02Int_yes hA)
            have CF := Lib.hid (fun w => specFracText_any num den w (by omega) (by omega))
            have E := text_eq (t := textOf num den) (s := s)
            clear hA
            by_cases ht : (textOf num den).data.toList = s.data.toList
            · have H := Lib.hid (show ansS s.data.toList = some (num, den) by rw [hS, if_pos ht])
              rw [decide_eq_true ht] at E
              clear hS ht
              generalize textOf num den = t at E CF
              have E2 : (t.toList != s.toList) = false := by unfold bne; rw [E]; rfl
              go_wp2_with fail
              refine (CA.out _).mono ?_
              rintro e wA ⟨rfl, rfl⟩
              go_wp2_with fail
              refine (CF.out _).mono ?_
              rintro e wB ⟨rfl, hbB⟩
              obtain ⟨hc, hf⟩ := bcell hbB
              have hz : w.heap.size + 1 < wB.heap.size := by have := hbB.size; simp at this; omega
              have BB : Below w.heap.size w wB := Below.trans (by repeat' (first | exact Below.refl _ _ | (refine Below.setCell ?_ ?_ _) | (refine Below.alloc ?_ ?_ _) | exact Nat.le_refl _ | (simp; done) | (simp; omega))) (hbB.mono (by simp; omega))
              simp only [World.size_alloc] at hc hf
              go_wp2
              have p0 : wB.cell? ⟨w.heap.size, 0, none⟩ = some (.int .i64 0) := by rw [hc _ _ (by omega)]; simp [go_sem]
              have p1 : wB.cell? ⟨w.heap.size, 1, none⟩ = some (.int .i64 0) := by rw [hc _ _ (by omega)]; simp [go_sem]
              have q0 : ∀ v, (wB.setCell ⟨w.heap.size, 0, none⟩ v).cell? ⟨w.heap.size, 0, none⟩ = some v := fun v => World.cell?_setCell_same _ _ _ p0
              have q1 : ∀ u v, ((wB.setCell ⟨w.heap.size, 0, none⟩ u).setCell ⟨w.heap.size, 1, none⟩ v).cell? ⟨w.heap.size, 1, none⟩ = some v := fun u v => World.cell?_setCell_same _ _ _ ((World.cell?_setCell_other _ _ _ _ (by simp)).trans p1)
              refine bodyPost_ret (v := .tuple #[.agg #[.int .i64 num, .int .i64 den], .bool true]) (by simp [results, Tryd.results8, go_sem, q0, q1]) rfl ⟨ret_yes H.out, ?_⟩
              repeat' (first | exact BB | exact Below.refl _ _ | (refine Below.setCell ?_ ?_ _) | (refine Below.alloc ?_ ?_ _) | (refine below_dr ?_ _) | exact Nat.le_refl _ | (simp; done) | (simp; omega))
            · have H := Lib.hid (show ansS s.data.toList = none by rw [hS, if_neg ht])
              rw [decide_eq_false ht] at E
              clear hS ht
              generalize textOf num den = t at E CF
              have E2 : (t.toList != s.toList) = true := by unfold bne; rw [E]; rfl
              go_wp2_with fail
              refine (CA.out _).mono ?_
              rintro e wA ⟨rfl, rfl⟩
              go_wp2_with fail
              refine (CF.out _).mono ?_
              rintro e wB ⟨rfl, hbB⟩
              obtain ⟨hc, hf⟩ := bcell hbB
              have hz : w.heap.size + 1 < wB.heap.size := by have := hbB.size; simp at this; omega
              have BB : Below w.heap.size w wB := Below.trans (by repeat' (first | exact Below.refl _ _ | (refine Below.setCell ?_ ?_ _) | (refine Below.alloc ?_ ?_ _) | exact Nat.le_refl _ | (simp; done) | (simp; omega))) (hbB.mono (by simp; omega))
              simp only [World.size_alloc] at hc hf
              go_wp2
              have p0 : wB.cell? ⟨w.heap.size, 0, none⟩ = some (.int .i64 0) := by rw [hc _ _ (by omega)]; simp [go_sem]
              have p1 : wB.cell? ⟨w.heap.size, 1, none⟩ = some (.int .i64 0) := by rw [hc _ _ (by omega)]; simp [go_sem]
              have q0 : ∀ v, (wB.setCell ⟨w.heap.size, 0, none⟩ v).cell? ⟨w.heap.size, 0, none⟩ = some v := fun v => World.cell?_setCell_same _ _ _ p0
              have q1 : ∀ u v, ((wB.setCell ⟨w.heap.size, 0, none⟩ u).setCell ⟨w.heap.size, 1, none⟩ v).cell? ⟨w.heap.size, 1, none⟩ = some v := fun u v => World.cell?_setCell_same _ _ _ ((World.cell?_setCell_other _ _ _ _ (by simp)).trans p1)
              refine bodyPost_ret (v := .tuple #[.agg #[.int .i64 0, .int .i64 0], .bool false]) (by simp [results, Tryd.results8, go_sem, q0, q1]) rfl ⟨ret_no H.out, ?_⟩
              repeat' (first | exact BB | exact Below.refl _ _ | (refine Below.setCell ?_ ?_ _) | (refine Below.alloc ?_ ?_ _) | (refine below_dr ?_ _) | exact Nat.le_refl _ | (simp; done) | (simp; omega))

      · have e1 : ((s[k].toNat : Int) == 47) = false := beq_eq_false_iff_ne.2 (fun h => hc (UInt8.toNat_inj.1 (by simpa using Int.ofNat.inj h)))
        have hno2 := Lib.hid (show ∀ j (hj : j < s.size), j < k + 1 → s[j] ≠ 47 from fun j hj h => by
          rcases Nat.lt_or_ge j k with h2 | h2
          · exact hno.out j hj h2
          · obtain rfl : j = k := by omega
            exact hc)
        clear hc hno
        go_wp2
        go_round
        case rel => exact ⟨k + 1, by omega, by go_num, rfl, hno2⟩
        case measure => simp [intOf]; omega
    · obtain rfl : k = s.size := by omega
      have hn47 := no47 s s.size (by omega) hno
      rw [Lib.extract_data, List.drop_zero, Nat.sub_zero, List.take_of_length_le (by rw [← Lib.size_eq]; omega)] at hn47
      have HA := Lib.hid (ansS_miss hn47)
      clear hn47 hno
      cases hA : int10 s.data.toList with
      | none =>
        have H := Lib.hid (show ansS s.data.toList = none by rw [HA.out]; unfold finS; rw [hA]; rfl)
        have CA := Lib.hid (l02Int_no hA)
        clear hA
        go_wp2_with fail
        refine (CA.out _).mono ?_
        rintro e wA ⟨rfl, rfl⟩
        go_wp2
        refine bodyPost_ret (v := .tuple #[.agg #[.int .i64 0, .int .i64 0], .bool false]) (by simp [results, Tryd.results8, go_sem]) rfl ⟨ret_no H.out, ?_⟩
        repeat' (first | exact Below.refl _ _ | (refine Below.setCell ?_ ?_ _) | (refine Below.alloc ?_ ?_ _) | (refine below_dr ?_ _) | exact Nat.le_refl _ | (simp; done) | (simp; omega))
      | some num =>
        have hb1 := int10_bd hA
        have hS := HA.out
        unfold finS at hS
        rw [hA] at hS
        simp only [Option.bind_some] at hS
        have CA := Lib.hid (l02Int_yes hA)
        have CF := Lib.hid (fun w => specFracText_any num 1 w (by omega) (by omega))
        have E := text_eq (t := textOf num 1) (s := s)
        clear hA
        by_cases ht : (textOf num 1).data.toList = s.data.toList
        · have H := Lib.hid (show ansS s.data.toList = some (num, 1) by rw [hS, if_pos ht])
          rw [decide_eq_true ht] at E
          clear hS ht
          generalize textOf num 1 = t at E CF
          have E2 : (t.toList != s.toList) = false := by unfold bne; rw [E]; rfl
          go_wp2_with fail
          refine (CA.out _).mono ?_
          rintro e wA ⟨rfl, rfl⟩
          go_wp2_with fail
          refine (CF.out _).mono ?_
          rintro e wB ⟨rfl, hbB⟩
          obtain ⟨hc, hf⟩ := bcell hbB
          have hz : w.heap.size + 1 < wB.heap.size := by have := hbB.size; simp at this; omega
          have BB : Below w.heap.size w wB := Below.trans (by repeat' (first | exact Below.refl _ _ | (refine Below.setCell ?_ ?_ _) | (refine Below.alloc ?_ ?_ _) | exact Nat.le_refl _ | (simp; done) | (simp; omega))) (hbB.mono (by simp; omega))
          simp only [World.size_alloc] at hc hf
          go_wp2
          have p0 : wB.cell? ⟨w.heap.size, 0, none⟩ = some (.int .i64 0) := by rw [hc _ _ (by omega)]; simp [go_sem]
          have p1 : wB.cell? ⟨w.heap.size, 1, none⟩ = some (.int .i64 0) := by rw [hc _ _ (by omega)]; simp [go_sem]
          have q0 : ∀ v, (wB.setCell ⟨w.heap.size, 0, none⟩ v).cell? ⟨w.heap.size, 0, none⟩ = some v := fun v => World.cell?_setCell_same _ _ _ p0
          have q1 : ∀ u v, ((wB.setCell ⟨w.heap.size, 0, none⟩ u).setCell ⟨w.heap.size, 1, none⟩ v).cell? ⟨w.heap.size, 1, none⟩ = some v := fun u v => World.cell?_setCell_same _ _ _ ((World.cell?_setCell_other _ _ _ _ (by simp)).trans p1)
          refine bodyPost_ret (v := .tuple #[.agg #[.int .i64 num, .int .i64 1], .bool true]) (by simp [results, Tryd.results8, go_sem, q0, q1]) rfl ⟨ret_yes H.out, ?_⟩
          repeat' (first | exact BB | exact Below.refl _ _ | (refine Below.setCell ?_ ?_ _) | (refine Below.alloc ?_ ?_ _) | (refine below_dr ?_ _) | exact Nat.le_refl _ | (simp; done) | (simp; omega))
        · have H := Lib.hid (show ansS s.data.toList = none by rw [hS, if_neg ht])
          rw [decide_eq_false ht] at E
          clear hS ht
          generalize textOf num 1 = t at E CF
          have E2 : (t.toList != s.toList) = true := by unfold bne; rw [E]; rfl
          go_wp2_with fail
          refine (CA.out _).mono ?_
          rintro e wA ⟨rfl, rfl⟩
          go_wp2_with fail
          refine (CF.out _).mono ?_
          rintro e wB ⟨rfl, hbB⟩
          obtain ⟨hc, hf⟩ := bcell hbB
          have hz : w.heap.size + 1 < wB.heap.size := by have := hbB.size; simp at this; omega
          have BB : Below w.heap.size w wB := Below.trans (by repeat' (first | exact Below.refl _ _ | (refine Below.setCell ?_ ?_ _) | (refine Below.alloc ?_ ?_ _) | exact Nat.le_refl _ | (simp; done) | (simp; omega))) (hbB.mono (by simp; omega))
          simp only [World.size_alloc] at hc hf
          go_wp2
          have p0 : wB.cell? ⟨w.heap.size, 0, none⟩ = some (.int .i64 0) := by rw [hc _ _ (by omega)]; simp [go_sem]
          have p1 : wB.cell? ⟨w.heap.size, 1, none⟩ = some (.int .i64 0) := by rw [hc _ _ (by omega)]; simp [go_sem]
          have q0 : ∀ v, (wB.setCell ⟨w.heap.size, 0, none⟩ v).cell? ⟨w.heap.size, 0, none⟩ = some v := fun v => World.cell?_setCell_same _ _ _ p0
          have q1 : ∀ u v, ((wB.setCell ⟨w.heap.size, 0, none⟩ u).setCell ⟨w.heap.size, 1, none⟩ v).cell? ⟨w.heap.size, 1, none⟩ = some v := fun u v => World.cell?_setCell_same _ _ _ ((World.cell?_setCell_other _ _ _ _ (by simp)).trans p1)
          refine bodyPost_ret (v := .tuple #[.agg #[.int .i64 0, .int .i64 0], .bool false]) (by simp [results, Tryd.results8, go_sem, q0, q1]) rfl ⟨ret_no H.out, ?_⟩
          repeat' (first | exact BB | exact Below.refl _ _ | (refine Below.setCell ?_ ?_ _) | (refine Below.alloc ?_ ?_ _) | (refine below_dr ?_ _) | exact Nat.le_refl _ | (simp; done) | (simp; omega))

end Go.Proofs.YtaphkogdcmnnbabDoor
