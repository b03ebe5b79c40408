/- Walks: the instructions of a string, the reference's side. -/
import Derived.Test.YtdikenapnncmfaaDoorVhd
import Derived.RegionTactic
import Derived.ChangeAlike
import Derived.BigRegion
namespace Go.Proofs.YtdikenapnncmfaaDoor
open Go.RowKit
set_option linter.unusedVariables false
theorem sg1_eq (u : Int) : sgI u 1 = if u < 128 then u else u - 256 := by unfold sgI; rw [if_pos rfl]
theorem sg2_eq (u : Int) : sgI u 2 = if u < 32768 then u else u - 65536 := by unfold sgI; rw [if_neg (show ¬ (2 : Int) = 1 by decide), if_pos rfl]
theorem wrap8 {u : Int} (h0 : 0 ≤ u) (h1 : u < 256) : IntKind.i8.wrap u = sgI u 1 := by
  rw [sg1_eq]
  simp [IntKind.wrap, IntKind.bits, IntKind.signed]
  split <;> split <;> omega
theorem sg1_in {u : Int} (h0 : 0 ≤ u) (h1 : u < 256) : -128 ≤ sgI u 1 ∧ sgI u 1 ≤ 127 := by rw [sg1_eq]; split <;> omega
theorem sg_two {a b : Int} (h0 : 0 ≤ a) (h1 : a < 256) (h2 : 0 ≤ b) (h3 : b < 256) : sgI a 1 * 256 + b = sgI (256 * a + b) 2 := by
  rw [sg1_eq, sg2_eq]; split <;> split <;> omega
/-- What comes of l19List. -/
def HqRet (o : Option (List AHint)) (w : World) (e : Ending) (w' : World) : Prop := match o with
  | none => e = .returned (.tuple #[.slice none 0 0, .bool false]) ∧ Below w.heap.size w w'
  | some l => ∃ (A : Option Addr) (k : Nat), e = .returned (.tuple #[.slice A l.length k, .bool true]) ∧ OwH 68 w' w.heap.size A l.length k l ∧ Below w.heap.size w w'
set_option maxRecDepth 100000 in
set_option maxHeartbeats 12800000 in
theorem l19List_any (p : ByteArray) (w : World) (hp : p.size ≤ 1048576) : Calls Tryd.prog 38 #[.string p] w (HqRet (spcW p.data.toList) w) := by
  obtain ⟨D, hD⟩ : ∃ D, D = spcW p.data.toList := ⟨_, rfl⟩
  rw [← hD]
  have HD := Lib.hid hD
  clear hD
  obtain ⟨i0, hi0, hz0', hz1', hz2'⟩ := oinfo_parts infoHint
  have HI0 := Lib.hid hi0
  have HZ0 := Lib.hid hz0'
  have HZ1 := Lib.hid hz1'
  have HZ2 := Lib.hid hz2'
  clear hi0 hz0' hz1' hz2'
  go_enter Tryd.func38, Tryd.ntmps38
  go_wp2_with fail
  generalize hW : w.alloc (.cells #[] 68) = W0
  have ow0 : OwH 68 W0 w.heap.size (some ⟨w.heap.size, 0, none⟩) 0 0 [] := by rw [← hW]; exact OwH.new w _ (Nat.le_refl _)
  have hb0 : Below w.heap.size w W0 := by rw [← hW]; repeat' (first | with_reducible assumption | with_reducible exact Below.refl _ _ | (with_reducible refine Below.setCell ?_ ?_ _) | (with_reducible refine Below.alloc ?_ ?_ _) | (with_reducible refine Below.drew ?_) | (with_reducible refine below_dr ?_ _) | (with_reducible refine Below.trans ?_ (Below.mono (by with_reducible assumption) ?_)) | omega | (simp; done) | (simp; omega))
  clear hW
  go_loopw [4, 5] (fun s i wr => ∃ (a N : Nat) (A' : Option Addr) (c' : Nat) (es : List AHint), a ≤ p.size ∧ N ≤ a ∧ i = .int .i64 (a : Int) ∧ s = .slice A' N c' ∧ D = (spcW (p.data.toList.drop a)).map (fun l => es ++ l) ∧ OwH 68 wr w.heap.size A' N c' es ∧ Below w.heap.size w wr) (fun _ i _ => p.size - (intOf i).toNat)
  case atStart => exact ⟨0, 0, _, _, [], by omega, by omega, rfl, rfl, by rw [HD.out, List.drop_zero]; cases spcW p.data.toList <;> rfl, ow0, hb0⟩
  case round =>
    clear ow0 hb0
    obtain ⟨a, N, A', c', es, hap, hNa, rfl, rfl, he, ow, hbl⟩ := hrel
    have HE := Lib.hid he
    have HOW := Lib.hid ow
    clear he ow
    have zr := hbl.size
    by_cases hlt : a < p.size
    case neg =>
      have hle : (p.size : Int) ≤ (a : Int) := by omega
      have HX : D = some es := by have h := HE.out; rw [List.drop_eq_nil_of_le (by rw [size_list]; omega), spcW_nil] at h; simpa using h
      go_wp2_with fail
      refine bodyPost_ret (v := .tuple #[.slice A' N c', .bool true]) (by simp [results, Tryd.results38, go_sem]) rfl ?_
      rw [HX]
      have hn := HOW.out.1
      subst hn
      exact ⟨A', c', rfl, HOW.out, hbl⟩
    case pos =>
      have hki : (a : Int) < (p.size : Int) := by omega
      have hu : (p[a].toNat : Int) ≤ 255 := by have := p[a].toNat_lt; omega
      have hs := spcW_at p a hlt
      have hnb := nbO_int p[a]
      have hfc := fmB_cases (iOf p[a])
      have CB := Lib.hid (fun w => l19Bytes_any (iOf p[a]) w)
      have CHV := Lib.hid (fun x w => l19Hint_any (iOf p[a]) x w)
      obtain ⟨b, hb⟩ : ∃ b, b = nbO p[a] := ⟨_, rfl⟩
      have CB2 := CB.out
      rw [← hnb, ← hb] at CB2 hs hfc
      clear CB
      have CB := Lib.hid CB2
      clear CB2
      have hb2 : b ≤ 2 := by omega
      by_cases hsh : (p.size : Int) < (a : Int) + 1 + (b : Int)
      case pos =>
        have HN := Lib.hid (show D = none by rw [HE.out, hs, if_pos hsh]; rfl)
        have hd : decide (((a : Int) + 1 + (b : Int)) > (p.size : Int)) = true := decide_eq_true hsh
        clear hs hnb hfc hb CHV
        unfold iOf at CB
        generalize hc : (p[a].toNat : Int) = C at *
        go_wp2_with (go_at_call 58; refine (CB.out _).mono ?_; rintro e w2 ⟨rfl, rfl⟩)
        refine bodyPost_ret (v := .tuple #[.slice none 0 0, .bool false]) (by simp [results, Tryd.results38, go_sem]) rfl ?_
        rw [HN.out]
        exact ⟨rfl, by repeat' (first | with_reducible assumption | with_reducible exact Below.refl _ _ | (with_reducible refine Below.setCell ?_ ?_ _) | (with_reducible refine Below.alloc ?_ ?_ _) | (with_reducible refine Below.drew ?_) | (with_reducible refine below_dr ?_ _) | (with_reducible refine Below.trans ?_ (Below.mono (by with_reducible assumption) ?_)) | omega | (simp; done) | (simp; omega))⟩
      case neg =>
        rw [if_neg hsh] at hs
        have hd : decide (((a : Int) + 1 + (b : Int)) > (p.size : Int)) = false := decide_eq_false hsh
        obtain ⟨X, hX⟩ : ∃ X, X = opV p[a] (p.data.toList.drop (a + 1)) := ⟨_, rfl⟩
        rw [← hX] at hs
        have HX := Lib.hid hX
        have HS := Lib.hid hs
        have HBB := Lib.hid hb
        have HFN := Lib.hid hnb
        have CH0 := CHV.out X
        obtain ⟨v, hv⟩ : ∃ v, v = hvB (iOf p[a]) X := ⟨_, rfl⟩
        rw [← hv] at CH0
        have HV := Lib.hid hv
        have CH := Lib.hid CH0
        clear hX hs CHV hb hnb hv CH0
        rcases hfc with hfc | hfc | hfc
        · obtain rfl : b = 0 := by omega
          clear hfc hsh hb2
          have hX := HX.out.trans (opV_0 p a hlt (by have h := HFN.out; have h2 := HBB.out; omega))
          subst hX
          unfold iOf at CB CH
          generalize hc : (p[a].toNat : Int) = C at *
          have HC := Lib.hid hc
          go_wp2_with (go_at_call 58; refine (CB.out _).mono ?_; rintro e w2 ⟨rfl, rfl⟩)
          have kB : Blk (World.alloc wr (.cells #[.int .i64 C, .int .i64 0] 68)) wr.heap.size 68 #[.int .i64 C, .int .i64 0] := Blk.new _ _ _
          refine (CH.out _).mono ?_
          rintro e w1 ⟨rfl, hb1⟩
          have k1 := kB.carry hb1
          have z0 : w1.cell? ⟨wr.heap.size, 0, none⟩ = some (.int .i64 C) := k1.cell 0 rfl
          have z1 : w1.cell? ⟨wr.heap.size, 1, none⟩ = some (.int .i64 0) := k1.cell 1 rfl
          have qz : wr.heap.size < w1.heap.size := k1.lt
          have ow1 : OwH 68 w1 w.heap.size A' N c' es := OwH.stays (HOW.out.alloc _) hb1
          have bl1 : Below w.heap.size w w1 := by repeat' (first | with_reducible assumption | with_reducible exact Below.refl _ _ | (with_reducible refine Below.setCell ?_ ?_ _) | (with_reducible refine Below.alloc ?_ ?_ _) | (with_reducible refine Below.drew ?_) | (with_reducible refine below_dr ?_ _) | (with_reducible refine Below.trans ?_ (Below.mono (by with_reducible assumption) ?_)) | omega | (simp; done) | (simp; omega))
          clear k1 kB hb1
          cases v
          case false =>
            have HN := Lib.hid (show D = none by rw [HE.out, HS.out, ← HV.out]; rfl)
            go_wp2_with fail
            refine bodyPost_ret (v := .tuple #[.slice none 0 0, .bool false]) (by simp [results, Tryd.results38, go_sem]) rfl ?_
            rw [HN.out]
            exact ⟨rfl, by repeat' (first | with_reducible assumption | with_reducible exact Below.refl _ _ | (with_reducible refine Below.setCell ?_ ?_ _) | (with_reducible refine Below.alloc ?_ ?_ _) | (with_reducible refine Below.drew ?_) | (with_reducible refine below_dr ?_ _) | (with_reducible refine Below.trans ?_ (Below.mono (by with_reducible assumption) ?_)) | omega | (simp; done) | (simp; omega))⟩
          case true =>
            have HMX := Lib.hid (show N + 1 ≤ maxLen by unfold maxLen; omega)
            have HBY := Lib.hid (show (N + 1) * 16 ≤ 140737488355328 by omega)
            have HRD := Lib.hid (hreads_new w1 C 0 68)
            have HOW9 := Lib.hid (show (World.alloc w1 (.cells #[.int .i64 C, .int .i64 0] 68)).ownsRow w.heap.size 68 2 (.slice A' N c') N _ from (ow1.alloc _).2)
            have HOL := Lib.hid ow1.1
            have HRB := Lib.hid ow1.block
            have HBS := Lib.hid (show w.heap.size ≤ (World.alloc w1 (.cells #[.int .i64 C, .int .i64 0] 68)).heap.size by simp; omega)
            have HGA := Lib.hid (show Below w.heap.size w (World.alloc w1 (.cells #[.int .i64 C, .int .i64 0] 68)) by repeat' (first | with_reducible assumption | with_reducible exact Below.refl _ _ | (with_reducible refine Below.setCell ?_ ?_ _) | (with_reducible refine Below.alloc ?_ ?_ _) | (with_reducible refine Below.drew ?_) | (with_reducible refine below_dr ?_ _) | (with_reducible refine Below.trans ?_ (Below.mono (by with_reducible assumption) ?_)) | omega | (simp; done) | (simp; omega)))
            clear ow1
            go_wp2_with (at_builtin; refine wpList_append_any _ rfl (.tmp 56) (.tmp 58) _ rfl w.heap.size 68 i0 _ 2 16 Tryd.underlying37 HI0.out HZ0.out HZ1.out HZ2.out rfl (by omega) (.slice A' N c') N _ rfl HOW9.out _ (some ⟨w1.heap.size, 0, none⟩) 1 1 [.int .i64 C, .int .i64 0] rfl HRD.out (one_h C 0) HMX.out HBY.out HBS.out ?_; intro v9 w9 hown9 hg9 hat9; obtain ⟨g9, cap9, rfl, _, _⟩ := hown9.form (by omega); have HOWN9 := Lib.hid hown9; have HG9 := Lib.hid hg9; clear hown9 hg9 hat9)
            have g9b : Below w.heap.size w w9 := below_of_grown HGA.out HG9.out (by simp; omega) (fun q hq => by have := HRB.out q hq; omega)
            have ow9 : OwH 68 w9 w.heap.size (some ⟨g9, 0, none⟩) (N + 1) cap9 (es ++ [(C, 0)]) := OwH.grown (by have := HOL.out; simp only [List.length_cons, List.length_nil]; omega) HOWN9.out
            have HF := Lib.hid (show D = (spcW (p.data.toList.drop (a + 1 + 0))).map (fun l => (es ++ [(C, 0)]) ++ l) by rw [HE.out, HS.out, ← HV.out, if_pos rfl, Option.map_map]; congr 1; funext l; show es ++ ((iOf p[a], 0) :: l) = _; unfold iOf; rw [HC.out, List.append_assoc]; rfl)
            go_roundw
            case rel => exact ⟨a + 1 + 0, N + 1, _, _, es ++ [(C, 0)], by have := hd; simp only [decide_eq_false_iff_not] at this; omega, by omega, by first | rfl | (congr 1; omega), rfl, HF.out, ow9, g9b⟩
            case measure => simp [intOf]; omega
        · obtain rfl : b = 1 := by omega
          clear hfc hsh hb2
          have hx1 : a + 1 < p.size := by have := HBB.out; simp only [decide_eq_false_iff_not] at hd; omega
          have hX := HX.out.trans (opV_1 p a hlt (by have h := HFN.out; have h2 := HBB.out; omega) hx1)
          have hi1 : (a : Int) + 1 < (p.size : Int) := by omega
          have hu1 : (p[a + 1].toNat : Int) ≤ 255 := by have := p[a + 1].toNat_lt; omega
          have h8 : IntKind.i8.wrap (p[a + 1].toNat : Int) = X := (wrap8 (by omega) (by omega)).trans hX.symm
          have hXb : -128 ≤ X ∧ X ≤ 127 := by rw [hX]; exact sg1_in (iOf_lt _).1 (iOf_lt _).2
          obtain ⟨hXl, hXh⟩ := hXb
          have hXw : IntKind.i64.wrap X = X := IntWalk.i64_in _ (by omega)
          clear hX
          unfold iOf at CB CH
          generalize hc : (p[a].toNat : Int) = C at *
          have HC := Lib.hid hc
          go_wp2_with (go_at_call 58; refine (CB.out _).mono ?_; rintro e w2 ⟨rfl, rfl⟩)
          have kB : Blk (World.alloc wr (.cells #[.int .i64 C, .int .i64 X] 68)) wr.heap.size 68 #[.int .i64 C, .int .i64 X] := Blk.new _ _ _
          refine (CH.out _).mono ?_
          rintro e w1 ⟨rfl, hb1⟩
          have k1 := kB.carry hb1
          have z0 : w1.cell? ⟨wr.heap.size, 0, none⟩ = some (.int .i64 C) := k1.cell 0 rfl
          have z1 : w1.cell? ⟨wr.heap.size, 1, none⟩ = some (.int .i64 X) := k1.cell 1 rfl
          have qz : wr.heap.size < w1.heap.size := k1.lt
          have ow1 : OwH 68 w1 w.heap.size A' N c' es := OwH.stays (HOW.out.alloc _) hb1
          have bl1 : Below w.heap.size w w1 := by repeat' (first | with_reducible assumption | with_reducible exact Below.refl _ _ | (with_reducible refine Below.setCell ?_ ?_ _) | (with_reducible refine Below.alloc ?_ ?_ _) | (with_reducible refine Below.drew ?_) | (with_reducible refine below_dr ?_ _) | (with_reducible refine Below.trans ?_ (Below.mono (by with_reducible assumption) ?_)) | omega | (simp; done) | (simp; omega))
          clear k1 kB hb1
          cases v
          case false =>
            have HN := Lib.hid (show D = none by rw [HE.out, HS.out, ← HV.out]; rfl)
            go_wp2_with fail
            refine bodyPost_ret (v := .tuple #[.slice none 0 0, .bool false]) (by simp [results, Tryd.results38, go_sem]) rfl ?_
            rw [HN.out]
            exact ⟨rfl, by repeat' (first | with_reducible assumption | with_reducible exact Below.refl _ _ | (with_reducible refine Below.setCell ?_ ?_ _) | (with_reducible refine Below.alloc ?_ ?_ _) | (with_reducible refine Below.drew ?_) | (with_reducible refine below_dr ?_ _) | (with_reducible refine Below.trans ?_ (Below.mono (by with_reducible assumption) ?_)) | omega | (simp; done) | (simp; omega))⟩
          case true =>
            have HMX := Lib.hid (show N + 1 ≤ maxLen by unfold maxLen; omega)
            have HBY := Lib.hid (show (N + 1) * 16 ≤ 140737488355328 by omega)
            have HRD := Lib.hid (hreads_new w1 C X 68)
            have HOW9 := Lib.hid (show (World.alloc w1 (.cells #[.int .i64 C, .int .i64 X] 68)).ownsRow w.heap.size 68 2 (.slice A' N c') N _ from (ow1.alloc _).2)
            have HOL := Lib.hid ow1.1
            have HRB := Lib.hid ow1.block
            have HBS := Lib.hid (show w.heap.size ≤ (World.alloc w1 (.cells #[.int .i64 C, .int .i64 X] 68)).heap.size by simp; omega)
            have HGA := Lib.hid (show Below w.heap.size w (World.alloc w1 (.cells #[.int .i64 C, .int .i64 X] 68)) by repeat' (first | with_reducible assumption | with_reducible exact Below.refl _ _ | (with_reducible refine Below.setCell ?_ ?_ _) | (with_reducible refine Below.alloc ?_ ?_ _) | (with_reducible refine Below.drew ?_) | (with_reducible refine below_dr ?_ _) | (with_reducible refine Below.trans ?_ (Below.mono (by with_reducible assumption) ?_)) | omega | (simp; done) | (simp; omega)))
            clear ow1
            go_wp2_with (at_builtin; refine wpList_append_any _ rfl (.tmp 56) (.tmp 58) _ rfl w.heap.size 68 i0 _ 2 16 Tryd.underlying37 HI0.out HZ0.out HZ1.out HZ2.out rfl (by omega) (.slice A' N c') N _ rfl HOW9.out _ (some ⟨w1.heap.size, 0, none⟩) 1 1 [.int .i64 C, .int .i64 X] rfl HRD.out (one_h C X) HMX.out HBY.out HBS.out ?_; intro v9 w9 hown9 hg9 hat9; obtain ⟨g9, cap9, rfl, _, _⟩ := hown9.form (by omega); have HOWN9 := Lib.hid hown9; have HG9 := Lib.hid hg9; clear hown9 hg9 hat9)
            have g9b : Below w.heap.size w w9 := below_of_grown HGA.out HG9.out (by simp; omega) (fun q hq => by have := HRB.out q hq; omega)
            have ow9 : OwH 68 w9 w.heap.size (some ⟨g9, 0, none⟩) (N + 1) cap9 (es ++ [(C, X)]) := OwH.grown (by have := HOL.out; simp only [List.length_cons, List.length_nil]; omega) HOWN9.out
            have HF := Lib.hid (show D = (spcW (p.data.toList.drop (a + 1 + 1))).map (fun l => (es ++ [(C, X)]) ++ l) by rw [HE.out, HS.out, ← HV.out, if_pos rfl, Option.map_map]; congr 1; funext l; show es ++ ((iOf p[a], X) :: l) = _; unfold iOf; rw [HC.out, List.append_assoc]; rfl)
            go_roundw
            case rel => exact ⟨a + 1 + 1, N + 1, _, _, es ++ [(C, X)], by have := hd; simp only [decide_eq_false_iff_not] at this; omega, by omega, by first | rfl | (congr 1; omega), rfl, HF.out, ow9, g9b⟩
            case measure => simp [intOf]; omega
        · obtain rfl : b = 2 := by omega
          clear hfc hsh hb2
          have hx2 : a + 1 + 1 < p.size := by have := HBB.out; simp only [decide_eq_false_iff_not] at hd; omega
          have hx1 : a + 1 < p.size := by omega
          have hX : X = sgI (256 * iOf p[a + 1] + iOf p[a + 1 + 1]) 2 := HX.out.trans (opV_2 p a hlt (by have h := HFN.out; have h2 := HBB.out; omega) hx2)
          have hp1 : (0 : Int) ≤ (a : Int) + 1 := by omega
          have hp2 : (0 : Int) ≤ (a : Int) + 1 + 1 := by omega
          have hi1 : (a : Int) + 1 < (p.size : Int) := by omega
          have hi2 : (a : Int) + 1 + 1 < (p.size : Int) := by omega
          have hu1 : (p[a + 1].toNat : Int) ≤ 255 := by have := p[a + 1].toNat_lt; omega
          have hu2 : (p[a + 1 + 1].toNat : Int) ≤ 255 := by have := p[a + 1 + 1].toNat_lt; omega
          have h8 : IntKind.i8.wrap (p[a + 1].toNat : Int) = sgI (p[a + 1].toNat : Int) 1 := wrap8 (by omega) (by omega)
          have hYb := sg1_in (u := (p[a + 1].toNat : Int)) (by omega) (by omega)
          have hXY : sgI (p[a + 1].toNat : Int) 1 * 256 + (p[a + 1 + 1].toNat : Int) = X := by rw [hX]; exact sg_two (by omega) (by omega) (by omega) (by omega)
          clear hX
          generalize hY : sgI (p[a + 1].toNat : Int) 1 = Y at *
          clear hY
          obtain ⟨hYl, hYh⟩ := hYb
          have hXw : IntKind.i64.wrap (Y * 256 + (p[a + 1 + 1].toNat : Int)) = X := (IntWalk.i64_in _ (by omega)).trans hXY
          have hYw : IntKind.i64.wrap Y = Y := IntWalk.i64_in _ (by omega)
          have hYm : IntKind.i64.wrap (Y * 256) = Y * 256 := IntWalk.i64_in _ (by omega)
          unfold iOf at CB CH
          generalize hc : (p[a].toNat : Int) = C at *
          have HC := Lib.hid hc
          go_wp2_with (go_at_call 58; refine (CB.out _).mono ?_; rintro e w2 ⟨rfl, rfl⟩)
          go_region
          go_wp2_with fail
          have kB : Blk (World.alloc wr (.cells #[.int .i64 C, .int .i64 X] 68)).drew wr.heap.size 68 #[.int .i64 C, .int .i64 X] := (Blk.new _ _ _).drew
          refine (CH.out _).mono ?_
          rintro e w1 ⟨rfl, hb1⟩
          have k1 := kB.carry hb1
          have z0 : w1.cell? ⟨wr.heap.size, 0, none⟩ = some (.int .i64 C) := k1.cell 0 rfl
          have z1 : w1.cell? ⟨wr.heap.size, 1, none⟩ = some (.int .i64 X) := k1.cell 1 rfl
          have qz : wr.heap.size < w1.heap.size := k1.lt
          have ow1 : OwH 68 w1 w.heap.size A' N c' es := OwH.stays ((HOW.out.alloc _).drew) hb1
          have bl1 : Below w.heap.size w w1 := by repeat' (first | with_reducible assumption | with_reducible exact Below.refl _ _ | (with_reducible refine Below.setCell ?_ ?_ _) | (with_reducible refine Below.alloc ?_ ?_ _) | (with_reducible refine Below.drew ?_) | (with_reducible refine below_dr ?_ _) | (with_reducible refine Below.trans ?_ (Below.mono (by with_reducible assumption) ?_)) | omega | (simp; done) | (simp; omega))
          clear k1 kB hb1
          cases v
          case false =>
            have HN := Lib.hid (show D = none by rw [HE.out, HS.out, ← HV.out]; rfl)
            go_wp2_with fail
            refine bodyPost_ret (v := .tuple #[.slice none 0 0, .bool false]) (by simp [results, Tryd.results38, go_sem]) rfl ?_
            rw [HN.out]
            exact ⟨rfl, by repeat' (first | with_reducible assumption | with_reducible exact Below.refl _ _ | (with_reducible refine Below.setCell ?_ ?_ _) | (with_reducible refine Below.alloc ?_ ?_ _) | (with_reducible refine Below.drew ?_) | (with_reducible refine below_dr ?_ _) | (with_reducible refine Below.trans ?_ (Below.mono (by with_reducible assumption) ?_)) | omega | (simp; done) | (simp; omega))⟩
          case true =>
            have HMX := Lib.hid (show N + 1 ≤ maxLen by unfold maxLen; omega)
            have HBY := Lib.hid (show (N + 1) * 16 ≤ 140737488355328 by omega)
            have HRD := Lib.hid (hreads_new w1 C X 68)
            have HOW9 := Lib.hid (show (World.alloc w1 (.cells #[.int .i64 C, .int .i64 X] 68)).ownsRow w.heap.size 68 2 (.slice A' N c') N _ from (ow1.alloc _).2)
            have HOL := Lib.hid ow1.1
            have HRB := Lib.hid ow1.block
            have HBS := Lib.hid (show w.heap.size ≤ (World.alloc w1 (.cells #[.int .i64 C, .int .i64 X] 68)).heap.size by simp; omega)
            have HGA := Lib.hid (show Below w.heap.size w (World.alloc w1 (.cells #[.int .i64 C, .int .i64 X] 68)) by repeat' (first | with_reducible assumption | with_reducible exact Below.refl _ _ | (with_reducible refine Below.setCell ?_ ?_ _) | (with_reducible refine Below.alloc ?_ ?_ _) | (with_reducible refine Below.drew ?_) | (with_reducible refine below_dr ?_ _) | (with_reducible refine Below.trans ?_ (Below.mono (by with_reducible assumption) ?_)) | omega | (simp; done) | (simp; omega)))
            clear ow1
            go_wp2_with (at_builtin; refine wpList_append_any _ rfl (.tmp 56) (.tmp 58) _ rfl w.heap.size 68 i0 _ 2 16 Tryd.underlying37 HI0.out HZ0.out HZ1.out HZ2.out rfl (by omega) (.slice A' N c') N _ rfl HOW9.out _ (some ⟨w1.heap.size, 0, none⟩) 1 1 [.int .i64 C, .int .i64 X] rfl HRD.out (one_h C X) HMX.out HBY.out HBS.out ?_; intro v9 w9 hown9 hg9 hat9; obtain ⟨g9, cap9, rfl, _, _⟩ := hown9.form (by omega); have HOWN9 := Lib.hid hown9; have HG9 := Lib.hid hg9; clear hown9 hg9 hat9)
            have g9b : Below w.heap.size w w9 := below_of_grown HGA.out HG9.out (by simp; omega) (fun q hq => by have := HRB.out q hq; omega)
            have ow9 : OwH 68 w9 w.heap.size (some ⟨g9, 0, none⟩) (N + 1) cap9 (es ++ [(C, X)]) := OwH.grown (by have := HOL.out; simp only [List.length_cons, List.length_nil]; omega) HOWN9.out
            have HF := Lib.hid (show D = (spcW (p.data.toList.drop (a + 1 + 2))).map (fun l => (es ++ [(C, X)]) ++ l) by rw [HE.out, HS.out, ← HV.out, if_pos rfl, Option.map_map]; congr 1; funext l; show es ++ ((iOf p[a], X) :: l) = _; unfold iOf; rw [HC.out, List.append_assoc]; rfl)
            go_roundw
            case rel => exact ⟨a + 1 + 2, N + 1, _, _, es ++ [(C, X)], by have := hd; simp only [decide_eq_false_iff_not] at this; omega, by omega, by first | rfl | (congr 1; omega), rfl, HF.out, ow9, g9b⟩
            case measure => simp [intOf]; omega
end Go.Proofs.YtdikenapnncmfaaDoor
