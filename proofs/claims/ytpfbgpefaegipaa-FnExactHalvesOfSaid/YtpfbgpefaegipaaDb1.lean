/- Walks: HalvesOf, the reference's side. -/
import Derived.Test.YtpfbgpefaegipaaDa1
import Derived.Test.YtpfbgpefaegipaaCa
import Derived.Lib.SliceRun
namespace Go.Proofs.Ytpfbgpefaegipaa
open Go.RowKit
set_option maxHeartbeats 800000 in
theorem l09Sum_g (a b c d : Int) (w : World) (h1 : (-9223372036854775808 ≤ a + c ∧ a + c ≤ 9223372036854775807)) (h2 : (-9223372036854775808 ≤ b + d ∧ b + d ≤ 9223372036854775807)) :
    Calls Try.prog 62 #[.agg #[.int .i64 a, .int .i64 b], .agg #[.int .i64 c, .int .i64 d]] w fun e w' => e = .returned (.agg #[.int .i64 (a + c), .int .i64 (b + d)]) ∧ Below w.heap.size w w' := by
  have e1 : IntKind.i64.wrap (a + c) = a + c := IntWalk.i64_in _ h1
  have e2 : IntKind.i64.wrap (b + d) = b + d := IntWalk.i64_in _ h2
  clear h1 h2
  go_enter Try.func62, Try.ntmps62
  go_wp2
  refine bodyPost_ret (v := .agg #[.int .i64 (a + c), .int .i64 (b + d)]) (by simp [results, Try.results62, go_sem]) rfl ⟨rfl, ?_⟩
  repeat' (first | with_reducible assumption | with_reducible exact Below.refl _ _ | (with_reducible refine Below.setCell ?_ ?_ _) | (with_reducible refine Below.alloc ?_ ?_ _) | (with_reducible refine Below.drew ?_) | (with_reducible refine below_dr ?_ _) | (with_reducible refine Below.trans ?_ (Below.mono (by with_reducible assumption) ?_)) | omega | (simp; done) | (simp; omega))
set_option maxHeartbeats 800000 in
theorem l09Times_g (a b c : Int) (w : World) (h1 : (-9223372036854775808 ≤ a * c ∧ a * c ≤ 9223372036854775807)) (h2 : (-9223372036854775808 ≤ b * c ∧ b * c ≤ 9223372036854775807)) :
    Calls Try.prog 61 #[.agg #[.int .i64 a, .int .i64 b], .int .i64 c] w fun e w' => e = .returned (.agg #[.int .i64 (a * c), .int .i64 (b * c)]) ∧ Below w.heap.size w w' := by
  have e1 : IntKind.i64.wrap (a * c) = a * c := IntWalk.i64_in _ h1
  have e2 : IntKind.i64.wrap (b * c) = b * c := IntWalk.i64_in _ h2
  clear h1 h2
  go_enter Try.func61, Try.ntmps61
  go_wp2
  refine bodyPost_ret (v := .agg #[.int .i64 (a * c), .int .i64 (b * c)]) (by simp [results, Try.results61, go_sem]) rfl ⟨rfl, ?_⟩
  repeat' (first | with_reducible assumption | with_reducible exact Below.refl _ _ | (with_reducible refine Below.setCell ?_ ?_ _) | (with_reducible refine Below.alloc ?_ ?_ _) | (with_reducible refine Below.drew ?_) | (with_reducible refine below_dr ?_ _) | (with_reducible refine Below.trans ?_ (Below.mono (by with_reducible assumption) ?_)) | omega | (simp; done) | (simp; omega))
def hvC (m0 m1 m2 m3 m4 m5 m6 m7 : Int) : Int := bif okC m0 m1 m2 m3 m4 m5 m6 m7 then (bif okH m0 m1 m2 m3 m4 m5 m6 m7 then 0 else 2) else 1
def hv0 (m0 m1 m2 m3 m4 m5 m6 m7 : Int) : Int := bif okC m0 m1 m2 m3 m4 m5 m6 m7 && okH m0 m1 m2 m3 m4 m5 m6 m7 then m0 * 8 else 0
def hv1 (m0 m1 m2 m3 m4 m5 m6 m7 : Int) : Int := bif okC m0 m1 m2 m3 m4 m5 m6 m7 && okH m0 m1 m2 m3 m4 m5 m6 m7 then m1 * 8 else 0
def hv2 (m0 m1 m2 m3 m4 m5 m6 m7 : Int) : Int := bif okC m0 m1 m2 m3 m4 m5 m6 m7 && okH m0 m1 m2 m3 m4 m5 m6 m7 then (m0 + m2) * 4 else 0
def hv3 (m0 m1 m2 m3 m4 m5 m6 m7 : Int) : Int := bif okC m0 m1 m2 m3 m4 m5 m6 m7 && okH m0 m1 m2 m3 m4 m5 m6 m7 then (m1 + m3) * 4 else 0
def hv4 (m0 m1 m2 m3 m4 m5 m6 m7 : Int) : Int := bif okC m0 m1 m2 m3 m4 m5 m6 m7 && okH m0 m1 m2 m3 m4 m5 m6 m7 then (m0 + m2 + (m2 + m4)) * 2 else 0
def hv5 (m0 m1 m2 m3 m4 m5 m6 m7 : Int) : Int := bif okC m0 m1 m2 m3 m4 m5 m6 m7 && okH m0 m1 m2 m3 m4 m5 m6 m7 then (m1 + m3 + (m3 + m5)) * 2 else 0
def hv6 (m0 m1 m2 m3 m4 m5 m6 m7 : Int) : Int := bif okC m0 m1 m2 m3 m4 m5 m6 m7 && okH m0 m1 m2 m3 m4 m5 m6 m7 then m0 + m2 + (m2 + m4) + (m2 + m4 + (m4 + m6)) else 0
def hv7 (m0 m1 m2 m3 m4 m5 m6 m7 : Int) : Int := bif okC m0 m1 m2 m3 m4 m5 m6 m7 && okH m0 m1 m2 m3 m4 m5 m6 m7 then m1 + m3 + (m3 + m5) + (m3 + m5 + (m5 + m7)) else 0
def hv8 (m0 m1 m2 m3 m4 m5 m6 m7 : Int) : Int := bif okC m0 m1 m2 m3 m4 m5 m6 m7 && okH m0 m1 m2 m3 m4 m5 m6 m7 then m0 + m2 + (m2 + m4) + (m2 + m4 + (m4 + m6)) else 0
def hv9 (m0 m1 m2 m3 m4 m5 m6 m7 : Int) : Int := bif okC m0 m1 m2 m3 m4 m5 m6 m7 && okH m0 m1 m2 m3 m4 m5 m6 m7 then m1 + m3 + (m3 + m5) + (m3 + m5 + (m5 + m7)) else 0
def hv10 (m0 m1 m2 m3 m4 m5 m6 m7 : Int) : Int := bif okC m0 m1 m2 m3 m4 m5 m6 m7 && okH m0 m1 m2 m3 m4 m5 m6 m7 then (m2 + m4 + (m4 + m6)) * 2 else 0
def hv11 (m0 m1 m2 m3 m4 m5 m6 m7 : Int) : Int := bif okC m0 m1 m2 m3 m4 m5 m6 m7 && okH m0 m1 m2 m3 m4 m5 m6 m7 then (m3 + m5 + (m5 + m7)) * 2 else 0
def hv12 (m0 m1 m2 m3 m4 m5 m6 m7 : Int) : Int := bif okC m0 m1 m2 m3 m4 m5 m6 m7 && okH m0 m1 m2 m3 m4 m5 m6 m7 then (m4 + m6) * 4 else 0
def hv13 (m0 m1 m2 m3 m4 m5 m6 m7 : Int) : Int := bif okC m0 m1 m2 m3 m4 m5 m6 m7 && okH m0 m1 m2 m3 m4 m5 m6 m7 then (m5 + m7) * 4 else 0
def hv14 (m0 m1 m2 m3 m4 m5 m6 m7 : Int) : Int := bif okC m0 m1 m2 m3 m4 m5 m6 m7 && okH m0 m1 m2 m3 m4 m5 m6 m7 then m6 * 8 else 0
def hv15 (m0 m1 m2 m3 m4 m5 m6 m7 : Int) : Int := bif okC m0 m1 m2 m3 m4 m5 m6 m7 && okH m0 m1 m2 m3 m4 m5 m6 m7 then m7 * 8 else 0
def HvRet (m0 m1 m2 m3 m4 m5 m6 m7 : Int) (w : World) (e : Ending) (w' : World) : Prop := e = .returned (.tuple #[.agg #[.int .i64 (hv0 m0 m1 m2 m3 m4 m5 m6 m7), .int .i64 (hv1 m0 m1 m2 m3 m4 m5 m6 m7), .int .i64 (hv2 m0 m1 m2 m3 m4 m5 m6 m7), .int .i64 (hv3 m0 m1 m2 m3 m4 m5 m6 m7), .int .i64 (hv4 m0 m1 m2 m3 m4 m5 m6 m7), .int .i64 (hv5 m0 m1 m2 m3 m4 m5 m6 m7), .int .i64 (hv6 m0 m1 m2 m3 m4 m5 m6 m7), .int .i64 (hv7 m0 m1 m2 m3 m4 m5 m6 m7)], .agg #[.int .i64 (hv8 m0 m1 m2 m3 m4 m5 m6 m7), .int .i64 (hv9 m0 m1 m2 m3 m4 m5 m6 m7), .int .i64 (hv10 m0 m1 m2 m3 m4 m5 m6 m7), .int .i64 (hv11 m0 m1 m2 m3 m4 m5 m6 m7), .int .i64 (hv12 m0 m1 m2 m3 m4 m5 m6 m7), .int .i64 (hv13 m0 m1 m2 m3 m4 m5 m6 m7), .int .i64 (hv14 m0 m1 m2 m3 m4 m5 m6 m7), .int .i64 (hv15 m0 m1 m2 m3 m4 m5 m6 m7)], .int .i64 (hvC m0 m1 m2 m3 m4 m5 m6 m7)]) ∧ Below w.heap.size w w'
theorem HvRet.f {m0 m1 m2 m3 m4 m5 m6 m7 : Int} {w w' : World} (h : okC m0 m1 m2 m3 m4 m5 m6 m7 = false) (hb : Below w.heap.size w w') : HvRet m0 m1 m2 m3 m4 m5 m6 m7 w (.returned (.tuple #[.agg #[.int .i64 0, .int .i64 0, .int .i64 0, .int .i64 0, .int .i64 0, .int .i64 0, .int .i64 0, .int .i64 0], .agg #[.int .i64 0, .int .i64 0, .int .i64 0, .int .i64 0, .int .i64 0, .int .i64 0, .int .i64 0, .int .i64 0], .int .i64 1])) w' := by
  unfold HvRet hv0 hv1 hv2 hv3 hv4 hv5 hv6 hv7 hv8 hv9 hv10 hv11 hv12 hv13 hv14 hv15 hvC
  rw [h]
  exact ⟨rfl, hb⟩
theorem HvRet.r {m0 m1 m2 m3 m4 m5 m6 m7 : Int} {w w' : World} (h : okC m0 m1 m2 m3 m4 m5 m6 m7 = true) (h2 : okH m0 m1 m2 m3 m4 m5 m6 m7 = false) (hb : Below w.heap.size w w') : HvRet m0 m1 m2 m3 m4 m5 m6 m7 w (.returned (.tuple #[.agg #[.int .i64 0, .int .i64 0, .int .i64 0, .int .i64 0, .int .i64 0, .int .i64 0, .int .i64 0, .int .i64 0], .agg #[.int .i64 0, .int .i64 0, .int .i64 0, .int .i64 0, .int .i64 0, .int .i64 0, .int .i64 0, .int .i64 0], .int .i64 2])) w' := by
  unfold HvRet hv0 hv1 hv2 hv3 hv4 hv5 hv6 hv7 hv8 hv9 hv10 hv11 hv12 hv13 hv14 hv15 hvC
  rw [h, h2]
  exact ⟨rfl, hb⟩
theorem HvRet.t {m0 m1 m2 m3 m4 m5 m6 m7 : Int} {w w' : World} (h : okC m0 m1 m2 m3 m4 m5 m6 m7 = true) (h2 : okH m0 m1 m2 m3 m4 m5 m6 m7 = true) (hb : Below w.heap.size w w') : HvRet m0 m1 m2 m3 m4 m5 m6 m7 w (.returned (.tuple #[.agg #[.int .i64 (m0 * 8), .int .i64 (m1 * 8), .int .i64 ((m0 + m2) * 4), .int .i64 ((m1 + m3) * 4), .int .i64 ((m0 + m2 + (m2 + m4)) * 2), .int .i64 ((m1 + m3 + (m3 + m5)) * 2), .int .i64 (m0 + m2 + (m2 + m4) + (m2 + m4 + (m4 + m6))), .int .i64 (m1 + m3 + (m3 + m5) + (m3 + m5 + (m5 + m7)))], .agg #[.int .i64 (m0 + m2 + (m2 + m4) + (m2 + m4 + (m4 + m6))), .int .i64 (m1 + m3 + (m3 + m5) + (m3 + m5 + (m5 + m7))), .int .i64 ((m2 + m4 + (m4 + m6)) * 2), .int .i64 ((m3 + m5 + (m5 + m7)) * 2), .int .i64 ((m4 + m6) * 4), .int .i64 ((m5 + m7) * 4), .int .i64 (m6 * 8), .int .i64 (m7 * 8)], .int .i64 0])) w' := by
  unfold HvRet hv0 hv1 hv2 hv3 hv4 hv5 hv6 hv7 hv8 hv9 hv10 hv11 hv12 hv13 hv14 hv15 hvC
  rw [h, h2]
  exact ⟨rfl, hb⟩
end Go.Proofs.Ytpfbgpefaegipaa
