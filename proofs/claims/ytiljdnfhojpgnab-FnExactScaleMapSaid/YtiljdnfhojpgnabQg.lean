/- Walks: a map that is checked, a translation, a scaling, a slant: the reference's side; checkedMap. -/
import Derived.Test.YtiljdnfhojpgnabQf
import Derived.Test.YtiljdnfhojpgnabQa
namespace Go.Proofs.Ytiljdnfhojpgnab
open Go.RowKit
/-- A map and ok where the arguments are valid, else ErrInvalid. -/
def MapRet (ok : Bool) (v0 v1 v2 v3 v4 v5 v6 v7 v8 v9 v10 v11 : Int) (w : World) (e : Ending) (w' : World) : Prop :=
  e = .returned (.tuple #[.agg #[.int .i64 (bif ok then v0 else 0), .int .i64 (bif ok then v1 else 0), .int .i64 (bif ok then v2 else 0), .int .i64 (bif ok then v3 else 0), .int .i64 (bif ok then v4 else 0), .int .i64 (bif ok then v5 else 0), .int .i64 (bif ok then v6 else 0), .int .i64 (bif ok then v7 else 0), .int .i64 (bif ok then v8 else 0), .int .i64 (bif ok then v9 else 0), .int .i64 (bif ok then v10 else 0), .int .i64 (bif ok then v11 else 0)], .int .i64 (bif ok then 0 else 1)]) ∧ Below w.heap.size w w'
theorem MapRet.no {ok : Bool} {v0 v1 v2 v3 v4 v5 v6 v7 v8 v9 v10 v11 : Int} {w w' : World} (h : ok = false) (hb : Below w.heap.size w w') : MapRet ok v0 v1 v2 v3 v4 v5 v6 v7 v8 v9 v10 v11 w (.returned (.tuple #[.agg #[.int .i64 0, .int .i64 0, .int .i64 0, .int .i64 0, .int .i64 0, .int .i64 0, .int .i64 0, .int .i64 0, .int .i64 0, .int .i64 0, .int .i64 0, .int .i64 0], .int .i64 1])) w' := by
  subst h; exact ⟨rfl, hb⟩
theorem MapRet.yes {ok : Bool} {v0 v1 v2 v3 v4 v5 v6 v7 v8 v9 v10 v11 : Int} {w w' : World} (h : ok = true) (hb : Below w.heap.size w w') : MapRet ok v0 v1 v2 v3 v4 v5 v6 v7 v8 v9 v10 v11 w (.returned (.tuple #[.agg #[.int .i64 v0, .int .i64 v1, .int .i64 v2, .int .i64 v3, .int .i64 v4, .int .i64 v5, .int .i64 v6, .int .i64 v7, .int .i64 v8, .int .i64 v9, .int .i64 v10, .int .i64 v11], .int .i64 0])) w' := by
  subst h; exact ⟨rfl, hb⟩
set_option maxHeartbeats 3200000 in
theorem checkedMap_any (m0 m1 m2 m3 m4 m5 m6 m7 m8 m9 m10 m11 : Int) (w : World) (h0 : -9223372036854775808 ≤ m0 ∧ m0 ≤ 9223372036854775807) (h1 : -9223372036854775808 ≤ m1 ∧ m1 ≤ 9223372036854775807) (h2 : -9223372036854775808 ≤ m2 ∧ m2 ≤ 9223372036854775807) (h3 : -9223372036854775808 ≤ m3 ∧ m3 ≤ 9223372036854775807) (h4 : -9223372036854775808 ≤ m4 ∧ m4 ≤ 9223372036854775807) (h5 : -9223372036854775808 ≤ m5 ∧ m5 ≤ 9223372036854775807) (h6 : -9223372036854775808 ≤ m6 ∧ m6 ≤ 9223372036854775807) (h7 : -9223372036854775808 ≤ m7 ∧ m7 ≤ 9223372036854775807) (h8 : -9223372036854775808 ≤ m8 ∧ m8 ≤ 9223372036854775807) (h9 : -9223372036854775808 ≤ m9 ∧ m9 ≤ 9223372036854775807) (h10 : -9223372036854775808 ≤ m10 ∧ m10 ≤ 9223372036854775807) (h11 : -9223372036854775808 ≤ m11 ∧ m11 ≤ 9223372036854775807) :
    Calls Try.prog 47 #[.agg #[.int .i64 m0, .int .i64 m1, .int .i64 m2, .int .i64 m3, .int .i64 m4, .int .i64 m5, .int .i64 m6, .int .i64 m7, .int .i64 m8, .int .i64 m9, .int .i64 m10, .int .i64 m11]] w (MapRet (validA m0 m1 m2 m3 m4 m5 m6 m7 m8 m9 m10 m11) m0 m1 m2 m3 m4 m5 m6 m7 m8 m9 m10 m11 w) := by
  have C := Lib.hid (fun w => implValidAffine_any m0 m1 m2 m3 m4 m5 m6 m7 m8 m9 m10 m11 w h0 h1 h2 h3 h4 h5 h6 h7 h8 h9 h10 h11)
  clear h0 h1 h2 h3 h4 h5 h6 h7 h8 h9 h10 h11
  rcases hv : validA m0 m1 m2 m3 m4 m5 m6 m7 m8 m9 m10 m11 with _ | _
  · rw [hv] at C
    clear hv
    go_enter Try.func47, Try.ntmps47
    go_wp2_with fail
    refine (C.out _).mono ?_
    rintro e w1 ⟨rfl, hb1⟩
    obtain ⟨hc1, hf1⟩ := bcell hb1
    have hz1 := hb1.size
    simp only [World.size_alloc] at hz1
    go_wp2
    refine bodyPost_ret (v := .tuple #[.agg #[.int .i64 0, .int .i64 0, .int .i64 0, .int .i64 0, .int .i64 0, .int .i64 0, .int .i64 0, .int .i64 0, .int .i64 0, .int .i64 0, .int .i64 0, .int .i64 0], .int .i64 1]) (by simp [results, Try.results47, go_sem, hc1]) rfl (MapRet.no rfl ?_)
    repeat' (first | with_reducible assumption | with_reducible exact Below.refl _ _ | (with_reducible refine Below.setCell ?_ ?_ _) | (with_reducible refine Below.alloc ?_ ?_ _) | (with_reducible refine Below.drew ?_) | (with_reducible refine below_dr ?_ _) | (with_reducible refine Below.trans ?_ (Below.mono (by with_reducible assumption) ?_)) | omega | (simp; done) | (simp; omega))
  · rw [hv] at C
    clear hv
    go_enter Try.func47, Try.ntmps47
    go_wp2_with fail
    refine (C.out _).mono ?_
    rintro e w1 ⟨rfl, hb1⟩
    obtain ⟨hc1, hf1⟩ := bcell hb1
    have hz1 := hb1.size
    simp only [World.size_alloc] at hz1
    have qz : w.heap.size < w1.heap.size := by omega
    have qz2 : w.heap.size + 1 < w1.heap.size := by omega
    go_wp2
    refine bodyPost_ret (v := .tuple #[.agg #[.int .i64 m0, .int .i64 m1, .int .i64 m2, .int .i64 m3, .int .i64 m4, .int .i64 m5, .int .i64 m6, .int .i64 m7, .int .i64 m8, .int .i64 m9, .int .i64 m10, .int .i64 m11], .int .i64 0]) (by simp [results, Try.results47, go_sem, hc1]) rfl (MapRet.yes rfl ?_)
    repeat' (first | with_reducible assumption | with_reducible exact Below.refl _ _ | (with_reducible refine Below.setCell ?_ ?_ _) | (with_reducible refine Below.alloc ?_ ?_ _) | (with_reducible refine Below.drew ?_) | (with_reducible refine below_dr ?_ _) | (with_reducible refine Below.trans ?_ (Below.mono (by with_reducible assumption) ?_)) | omega | (simp; done) | (simp; omega))
end Go.Proofs.Ytiljdnfhojpgnab
