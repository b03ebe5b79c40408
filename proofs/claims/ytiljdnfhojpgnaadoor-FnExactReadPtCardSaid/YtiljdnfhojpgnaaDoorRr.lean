/- The walk of the law on ReadPt: it returns true. -/
import Derived.Test.YtiljdnfhojpgnaaDoorRq
namespace Go.Proofs.YtiljdnfhojpgnaaDoor
open Go.RowKit
theorem ptR_form (o : Option (Int × Int)) : ∃ n d b, ptR o = .tuple #[.agg #[.int .i64 n, .int .i64 d], .bool b] := by
  cases o with
  | none => exact ⟨_, _, _, rfl⟩
  | some p => exact ⟨_, _, _, rfl⟩
set_option maxHeartbeats 1600000 in
theorem walk_ReadPt (s : ByteArray) (w : World) (hT : Tabs w) (hM : MaxIs w) :
    Calls Tryd.prog 4 #[.string s] w fun e w' => e = .returned (.bool true) ∧ Below w.heap.size w w' := by
  by_cases hs : 1048576 < s.size
  · clear hT hM
    go_enter Tryd.func4, Tryd.ntmps4
    go_wp2
    go_ret
    exact ⟨rfl, Below.refl _ _⟩
  · have c1 := fun w => specReadPt_any s w (by omega)
    have c2 := fun w1 (hb : Below w.heap.size w w1) => implReadPt_any s w1 (by omega) (hT.stay hb) (hM.stay hb)
    obtain ⟨n, d, b, hv⟩ := ptR_form (ptA s.data.toList)
    rw [hv] at c1 c2
    have C1 := Lib.hid c1
    have C2 := Lib.hid c2
    clear c1 c2 hT hM hv
    have e1 : (b != b) = false := by simp
    go_enter Tryd.func4, Tryd.ntmps4
    go_wp2_with fail
    refine (C1.out _).mono ?_
    rintro e w1 ⟨rfl, hb1⟩
    go_wp2_with fail
    refine (C2.out _ (hb1.alloc hb1.size _)).mono ?_
    rintro e w2 ⟨rfl, hb2⟩
    have g2 : Below w.heap.size w w2 := (hb1.alloc hb1.size _).trans (hb2.mono (by have := hb1.size; simp; omega))
    obtain ⟨hc2, hf2⟩ := bcell hb2
    have hz2 : w1.heap.size < w2.heap.size := by have := hb2.size; simp at this; omega
    go_wp2_with fail
    refine (eqPt_same _ _ _).mono ?_
    rintro e w3 ⟨rfl, hb3⟩
    go_wp2
    go_ret
    exact ⟨rfl, (g2.alloc g2.size _).trans (hb3.mono (by have := g2.size; simp; omega))⟩
end Go.Proofs.YtiljdnfhojpgnaaDoor
