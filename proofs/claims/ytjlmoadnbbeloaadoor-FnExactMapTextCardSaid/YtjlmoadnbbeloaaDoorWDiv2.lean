/- Walks: DivFrac on both sides. -/
import Derived.Test.YtjlmoadnbbeloaaDoorW4
import Derived.Deep.RegionWith
import Derived.RegionTactic
namespace Go.Proofs.YtjlmoadnbbeloaaDoor
open Go.RowKit

def divNum (n1 d1 n2 d2 : Int) : Int := if n2 = 0 then 0 else mkNum (n1 * d2) (d1 * n2)
def divDen (n1 d1 n2 d2 : Int) : Int := if n2 = 0 then 0 else mkDen (n1 * d2) (d1 * n2)
def divCode (n1 d1 n2 d2 : Int) : Int := if n2 = 0 then 2 else mkCode (n1 * d2) (d1 * n2)
theorem div_zero (n1 d1 d2 : Int) : divNum n1 d1 0 d2 = 0 ∧ divDen n1 d1 0 d2 = 0 ∧ divCode n1 d1 0 d2 = 2 := ⟨rfl, rfl, rfl⟩
theorem div_some {n2 : Int} (h : ¬ n2 = 0) (n1 d1 d2 : Int) : divNum n1 d1 n2 d2 = mkNum (n1 * d2) (d1 * n2) ∧ divDen n1 d1 n2 d2 = mkDen (n1 * d2) (d1 * n2) ∧ divCode n1 d1 n2 d2 = mkCode (n1 * d2) (d1 * n2) := by
  unfold divNum divDen divCode
  rw [if_neg h, if_neg h, if_neg h]
  exact ⟨rfl, rfl, rfl⟩
theorem OpRet.yes3 {ok : Bool} {a b c x y z : Int} {w w' : World} (h : ok = true) (he : a = x ∧ b = y ∧ c = z) (hb : Below w.heap.size w w') : OpRet ok a b c w (.returned (.tuple #[.agg #[.int .i64 x, .int .i64 y], .int .i64 z])) w' := by
  obtain ⟨rfl, rfl, rfl⟩ := he
  exact OpRet.yes h hb
theorem zero_valid {d : Int} (h : validB 0 d = true) : d = 1 := by
  have := validB_bounds h
  simp at this
  omega


/-- What the method returns. -/
def DivRet (n1 d1 n2 d2 : Int) (w : World) (e : Ending) (w' : World) : Prop :=
  e = .returned (.tuple #[.agg #[.int .i64 (divNum n1 d1 n2 d2), .int .i64 (divDen n1 d1 n2 d2)], .int .i64 (divCode n1 d1 n2 d2)]) ∧ Below w.heap.size w w'
theorem DivRet.mk {n1 d1 n2 d2 x y z : Int} {w w' : World} (he : (divNum n1 d1 n2 d2) = x ∧ (divDen n1 d1 n2 d2) = y ∧ (divCode n1 d1 n2 d2) = z) (hb : Below w.heap.size w w') : DivRet n1 d1 n2 d2 w (.returned (.tuple #[.agg #[.int .i64 x, .int .i64 y], .int .i64 z])) w' := by
  obtain ⟨rfl, rfl, rfl⟩ := he
  exact ⟨rfl, hb⟩

set_option maxHeartbeats 400000 in
theorem whole_any (n : Int) (w : World) :
    Calls Tryd.prog 41 #[.int .i64 n] w fun e w' => e = .returned (.agg #[.int .i64 n, .int .i64 1]) ∧ w' = w.alloc (.cells #[.int .i64 n, .int .i64 1] 27) := by
  go_enter Tryd.func41, Tryd.ntmps41
  go_wp2
  exact bodyPost_ret (v := .agg #[.int .i64 n, .int .i64 1]) (by simp [results, Tryd.results41, go_sem]) rfl ⟨rfl, rfl⟩

end Go.Proofs.YtjlmoadnbbeloaaDoor
