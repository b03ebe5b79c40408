/- Walks: StateNamed, both sides: the first name of a list that is a text; the law. -/
import Derived.Test.YtdikenapnncmfaaDoorNmaq
namespace Go.Proofs.YtdikenapnncmfaaDoor.Nam
open Go.RowKit
set_option linter.unusedVariables false
set_option maxRecDepth 100000 in
set_option maxHeartbeats 3200000 in
theorem implStateNamed_any (s : ByteArray) (w : World) (hT : TabN stNm 0 w) :
    Calls Tryd.prog 10 #[.string s] w fun e w' => e = .returned (.int .i64 (nmI stNm s)) ∧ Below w.heap.size w w' := by
  have HL := Lib.hid (show stNm.length = 6 from rfl)
  have HI := Lib.hid (show nmI stNm s = nmG (stNm.drop 0) 0 s from rfl)
  generalize nmI stNm s = R at *
  have y0 : w.cell? ⟨0, 0, none⟩ = some (.string ⟨#[111, 102, 102]⟩) := hT.2 0 _ rfl
  have y1 : w.cell? ⟨0, 1, none⟩ = some (.string ⟨#[103, 114, 105, 100]⟩) := hT.2 1 _ rfl
  have y2 : w.cell? ⟨0, 2, none⟩ = some (.string ⟨#[104, 97, 108, 102]⟩) := hT.2 2 _ rfl
  have y3 : w.cell? ⟨0, 3, none⟩ = some (.string ⟨#[100, 111, 117, 98, 108, 101]⟩) := hT.2 3 _ rfl
  have y4 : w.cell? ⟨0, 4, none⟩ = some (.string ⟨#[100, 111, 119, 110]⟩) := hT.2 4 _ rfl
  have y5 : w.cell? ⟨0, 5, none⟩ = some (.string ⟨#[117, 112]⟩) := hT.2 5 _ rfl
  have hX : ∀ (W : World) (k : Nat) v, stNm[k]? = some v → (Instr.index 53 (.agg #[.string ⟨#[111, 102, 102]⟩, .string ⟨#[103, 114, 105, 100]⟩, .string ⟨#[104, 97, 108, 102]⟩, .string ⟨#[100, 111, 117, 98, 108, 101]⟩, .string ⟨#[100, 111, 119, 110]⟩, .string ⟨#[117, 112]⟩]) (.int .i64 k)).run Tryd.prog W = .ok (.string v) W := by
    intro W k v hv
    have hk : k < 6 := by have := (List.getElem?_eq_some_iff.1 hv).1; rw [HL.out] at this; exact this
    obtain rfl | rfl | rfl | rfl | rfl | rfl : k = 0 ∨ k = 1 ∨ k = 2 ∨ k = 3 ∨ k = 4 ∨ k = 5 := by omega
    · obtain rfl := Option.some.inj (show some ⟨#[111, 102, 102]⟩ = some v from hv); exact rfl
    · obtain rfl := Option.some.inj (show some ⟨#[103, 114, 105, 100]⟩ = some v from hv); exact rfl
    · obtain rfl := Option.some.inj (show some ⟨#[104, 97, 108, 102]⟩ = some v from hv); exact rfl
    · obtain rfl := Option.some.inj (show some ⟨#[100, 111, 117, 98, 108, 101]⟩ = some v from hv); exact rfl
    · obtain rfl := Option.some.inj (show some ⟨#[100, 111, 119, 110]⟩ = some v from hv); exact rfl
    · obtain rfl := Option.some.inj (show some ⟨#[117, 112]⟩ = some v from hv); exact rfl
  have HX := Lib.hid hX
  clear hX
  clear hT
  go_enter Tryd.func10, Tryd.ntmps10
  go_wp2_with fail
  clear y0 y1 y2 y3 y4 y5
  go_loopw [6] (fun i wr => ∃ k : Nat, k ≤ 6 ∧ i = .int .i64 k ∧ R = nmG (stNm.drop k) k s ∧ wr = w) (fun i _ => 6 - (intOf i).toNat)
  case atStart => exact ⟨0, by omega, rfl, HI.out, rfl⟩
  case round =>
    obtain ⟨k, hk, rfl, hR, rfl⟩ := hrel
    by_cases hlt : k < 6
    case neg =>
      have HE := Lib.hid (hR.trans (nmG_end (by rw [HL.out]; omega)))
      obtain rfl : k = 6 := by omega
      clear hlt hR
      go_wp2_with fail
      go_ret
      exact ⟨ret_n HE.out.symm, by repeat' (first | with_reducible assumption | with_reducible exact Below.refl _ _ | (with_reducible refine Below.setCell ?_ ?_ _) | (with_reducible refine Below.alloc ?_ ?_ _) | (with_reducible refine Below.drew ?_) | (with_reducible refine below_dr ?_ _) | (with_reducible refine Below.trans ?_ (Below.mono (by with_reducible assumption) ?_)) | omega | (simp; done) | (simp; omega))⟩
    case pos =>
      obtain ⟨v, hv⟩ : ∃ v, stNm[k]? = some v := ⟨stNm[k]'(by rw [HL.out]; omega), List.getElem?_eq_getElem (by rw [HL.out]; omega)⟩
      have hx := fun W => HX.out W k v hv
      have hki : (k : Int) < 6 := by omega
      by_cases he : (v.toList == s.toList) = true
      case pos =>
        have HE := Lib.hid (hR.trans (nmG_hit hv he))
        clear hR hv
        go_wp2_with fail
        go_ret
        exact ⟨ret_n HE.out.symm, by repeat' (first | with_reducible assumption | with_reducible exact Below.refl _ _ | (with_reducible refine Below.setCell ?_ ?_ _) | (with_reducible refine Below.alloc ?_ ?_ _) | (with_reducible refine Below.drew ?_) | (with_reducible refine below_dr ?_ _) | (with_reducible refine Below.trans ?_ (Below.mono (by with_reducible assumption) ?_)) | omega | (simp; done) | (simp; omega))⟩
      case neg =>
        have HE := Lib.hid (hR.trans (nmG_miss hv he))
        have he' : (v.toList == s.toList) = false := by simpa using he
        clear hR hv he
        go_wp2_with fail
        go_roundw
        case rel => exact ⟨k + 1, by omega, by go_num, HE.out, by first | rfl | trivial⟩
        case measure => simp [intOf]; omega
end Go.Proofs.YtdikenapnncmfaaDoor.Nam
