/- Walks: BendOf, both sides, and the law: it returns true. -/
import Derived.Test.YticgomikfleabaaCd
namespace Go.Proofs.Yticgomikfleabaa
open Go.RowKit
theorem bend_is (m0 m1 m2 m3 m4 m5 m6 m7 : Int) : max (szI (m0 - 2 * m2 + m4) (m1 - 2 * m3 + m5)) (szI (m2 - 2 * m4 + m6) (m3 - 2 * m5 + m7)) = bendI m0 m1 m2 m3 m4 m5 m6 m7 := rfl
set_option maxHeartbeats 3200000 in
theorem l09Bend_any (m0 m1 m2 m3 m4 m5 m6 m7 : Int) (b : Nat) (w : World) (hb : b < w.heap.size) (c0 : w.cell? ⟨b, 0, none⟩ = some (.int .i64 m0)) (c1 : w.cell? ⟨b, 1, none⟩ = some (.int .i64 m1)) (c2 : w.cell? ⟨b, 2, none⟩ = some (.int .i64 m2)) (c3 : w.cell? ⟨b, 3, none⟩ = some (.int .i64 m3)) (c4 : w.cell? ⟨b, 4, none⟩ = some (.int .i64 m4)) (c5 : w.cell? ⟨b, 5, none⟩ = some (.int .i64 m5)) (c6 : w.cell? ⟨b, 6, none⟩ = some (.int .i64 m6)) (c7 : w.cell? ⟨b, 7, none⟩ = some (.int .i64 m7)) (h0 : okB m0 m1 = true) (h1 : okB m2 m3 = true) (h2 : okB m4 m5 = true) (h3 : okB m6 m7 = true) :
    Calls Try.prog 73 #[.pointer (some ⟨b, 0, none⟩)] w fun e w' => e = .returned (.int .i64 (bendI m0 m1 m2 m3 m4 m5 m6 m7)) ∧ Below w.heap.size w w' := by
  have HH0 := Lib.hid h0
  have HH1 := Lib.hid h1
  have HH2 := Lib.hid h2
  have HH3 := Lib.hid h3
  obtain ⟨z01, z02, z03, z04⟩ := okB_bounds h0
  obtain ⟨z11, z12, z13, z14⟩ := okB_bounds h1
  obtain ⟨z21, z22, z23, z24⟩ := okB_bounds h2
  obtain ⟨z31, z32, z33, z34⟩ := okB_bounds h3
  clear h0 h1 h2 h3
  go_enter Try.func73, Try.ntmps73
  go_wp2_with fail
  have g0 : Below w.heap.size w w := Below.refl _ _
  go_region_held3 (fun w' => w'.cell? ⟨b, 0, none⟩ = some (.int .i64 m0) ∧ w'.cell? ⟨b, 1, none⟩ = some (.int .i64 m1) ∧ w'.cell? ⟨b, 2, none⟩ = some (.int .i64 m2) ∧ w'.cell? ⟨b, 3, none⟩ = some (.int .i64 m3) ∧ w'.cell? ⟨b, 4, none⟩ = some (.int .i64 m4) ∧ w'.cell? ⟨b, 5, none⟩ = some (.int .i64 m5) ∧ w'.cell? ⟨b, 6, none⟩ = some (.int .i64 m6) ∧ w'.cell? ⟨b, 7, none⟩ = some (.int .i64 m7) ∧ b < w'.heap.size)
    (first | ((try dsimp only); (repeat' apply And.intro); all_goals (first | assumption | omega | (simp (disch := omega) [*]; done) | (simp; omega))) | fail)
    (first
      | (go_at_call 94; (with_reducible refine (l09Second_any _ _ _ _ _ _ _ HH0.out HH1.out HH2.out).mono ?_); rintro e wA ⟨rfl, hbwA⟩; obtain ⟨hcwA, hfwA⟩ := bcell hbwA; have hzwA := hbwA.size; (try simp only [World.size_drew] at hcwA hfwA hzwA))
      | (go_at_call 94; (with_reducible refine (l09Second_any _ _ _ _ _ _ _ HH1.out HH2.out HH3.out).mono ?_); rintro e wB ⟨rfl, hbwB⟩; obtain ⟨hcwB, hfwB⟩ := bcell hbwB; have hzwB := hbwB.size; (try simp only [World.size_drew] at hcwB hfwB hzwB))
      | (go_at_call 93; (with_reducible refine (l09Size_any _ _ _ (by omega) (by omega)).mono ?_); rintro e wC ⟨rfl, hbwC⟩; obtain ⟨hcwC, hfwC⟩ := bcell hbwC; have hzwC := hbwC.size; (try simp only [World.size_drew] at hcwC hfwC hzwC))
      | (go_at_call 99; (with_reducible refine (l00MaxC_any _ _ _).mono ?_); rintro e wD ⟨rfl, rfl⟩))
  go_wp2
  go_ret
  exact ⟨ret_i64 (bend_is m0 m1 m2 m3 m4 m5 m6 m7), by repeat' (first | with_reducible assumption | with_reducible exact Below.refl _ _ | (with_reducible refine Below.setCell ?_ ?_ _) | (with_reducible refine Below.alloc ?_ ?_ _) | (with_reducible refine Below.drew ?_) | (with_reducible refine below_dr ?_ _) | (with_reducible refine Below.trans ?_ (Below.mono (by with_reducible assumption) ?_)) | omega | (simp; done) | (simp; omega))⟩
end Go.Proofs.Yticgomikfleabaa
