/- Walks: the point in the middle, on both sides. -/
import Derived.Test.YtcjjmkkphbeoeaaPv
namespace Go.Proofs.Ytcjjmkkphbeoeaa
open Go.RowKit

theorem near2_bounds {n : Int} (h1 : -524288 ≤ n) (h2 : n ≤ 524288) : -262144 ≤ near n 2 ∧ near n 2 ≤ 262144 := by unfold near; omega
/-- What MidPt answers. -/
def midX (ax ay bx ey : Int) : Int := bif okB ax ay && okB bx ey then near (ax + bx) 2 else 0
def midY (ax ay bx ey : Int) : Int := bif okB ax ay && okB bx ey then near (ay + ey) 2 else 0
def midC (ax ay bx ey : Int) : Int := bif okB ax ay && okB bx ey then 0 else 1
def MidRet (ax ay bx ey : Int) (w : World) (e : Ending) (w' : World) : Prop :=
  e = .returned (.tuple #[.agg #[.int .i64 (midX ax ay bx ey), .int .i64 (midY ax ay bx ey)], .int .i64 (midC ax ay bx ey)]) ∧ Below w.heap.size w w'
theorem MidRet.mk {ax ay bx ey a b c : Int} {w w' : World} (h : midX ax ay bx ey = a ∧ midY ax ay bx ey = b ∧ midC ax ay bx ey = c) (hb : Below w.heap.size w w') :
    MidRet ax ay bx ey w (.returned (.tuple #[.agg #[.int .i64 a, .int .i64 b], .int .i64 c])) w' := by
  obtain ⟨rfl, rfl, rfl⟩ := h
  exact ⟨rfl, hb⟩
theorem mid_no {ax ay bx ey : Int} (h : (okB ax ay && okB bx ey) = false) : midX ax ay bx ey = 0 ∧ midY ax ay bx ey = 0 ∧ midC ax ay bx ey = 1 := by simp [midX, midY, midC, h]
theorem mid_yes {ax ay bx ey : Int} (h : (okB ax ay && okB bx ey) = true) : midX ax ay bx ey = near (ax + bx) 2 ∧ midY ax ay bx ey = near (ay + ey) 2 ∧ midC ax ay bx ey = 0 := by simp [midX, midY, midC, h]
theorem mid_f1 {ax ay bx ey : Int} (h : okB ax ay = false) : (okB ax ay && okB bx ey) = false := by simp [h]
theorem mid_f2 {ax ay bx ey : Int} (h : okB bx ey = false) : (okB ax ay && okB bx ey) = false := by simp [h]

set_option maxHeartbeats 1600000 in
theorem l03Mid_any (ax ay bx ey : Int) (w : World) (va : okB ax ay = true) (vb : okB bx ey = true) :
    Calls Try.prog 36 #[.agg #[.int .i64 ax, .int .i64 ay], .agg #[.int .i64 bx, .int .i64 ey]] w fun e w' => e = .returned (.agg #[.int .i64 (near (ax + bx) 2), .int .i64 (near (ay + ey) 2)]) ∧ Below w.heap.size w w' := by
  obtain ⟨a1, a2, a3, a4⟩ := okB_bounds va
  obtain ⟨b1, b2, b3, b4⟩ := okB_bounds vb
  clear va vb
  have e1 : IntKind.i64.wrap (ax + bx) = ax + bx := IntWalk.i64_in _ (by omega)
  have e2 : IntKind.i64.wrap (ay + ey) = ay + ey := IntWalk.i64_in _ (by omega)
  go_enter Try.func36, Try.ntmps36
  go_wp2_with fail
  generalize hW : ((w.alloc (.cells #[.int .i64 ax, .int .i64 ay] 24)).alloc (.cells #[.int .i64 bx, .int .i64 ey] 24)).alloc (.cells #[.int .i64 0, .int .i64 0] 24) = W0
  have g0 : Below w.heap.size w W0 := by rw [← hW]; repeat' (first | assumption | exact Below.refl _ _ | (refine Below.setCell ?_ ?_ _) | (refine Below.alloc ?_ ?_ _) | (refine below_dr ?_ _) | exact Nat.le_refl _ | (simp; done) | (simp; omega))
  have s1 : W0.cell? ⟨w.heap.size, 0, none⟩ = some (.int .i64 ax) := by rw [← hW]; simp [go_sem]
  have s2 : W0.cell? ⟨w.heap.size, 1, none⟩ = some (.int .i64 ay) := by rw [← hW]; simp [go_sem]
  have s3 : W0.cell? ⟨w.heap.size + 1, 0, none⟩ = some (.int .i64 bx) := by rw [← hW]; simp [go_sem]
  have s4 : W0.cell? ⟨w.heap.size + 1, 1, none⟩ = some (.int .i64 ey) := by rw [← hW]; simp [go_sem]
  have s5 : W0.cell? ⟨w.heap.size + 1 + 1, 0, none⟩ = some (.int .i64 0) := by rw [← hW]; simp [go_sem]
  have s6 : W0.cell? ⟨w.heap.size + 1 + 1, 1, none⟩ = some (.int .i64 0) := by rw [← hW]; simp [go_sem]
  have f5 : W0.frozen? ⟨w.heap.size + 1 + 1, 0, none⟩ = false := by rw [← hW]; simp [go_sem]
  have f6 : W0.frozen? ⟨w.heap.size + 1 + 1, 1, none⟩ = false := by rw [← hW]; simp [go_sem]
  have sz : w.heap.size + 1 + 1 < W0.heap.size := by rw [← hW]; simp
  clear hW
  go_region_held3 (fun w' => w'.frozen? ⟨w.heap.size + 1 + 1, 0, none⟩ = false ∧ w'.frozen? ⟨w.heap.size + 1 + 1, 1, none⟩ = false ∧ w'.cell? ⟨w.heap.size, 0, none⟩ = some (.int .i64 ax) ∧ w'.cell? ⟨w.heap.size, 1, none⟩ = some (.int .i64 ay) ∧ w'.cell? ⟨w.heap.size + 1, 0, none⟩ = some (.int .i64 bx) ∧ w'.cell? ⟨w.heap.size + 1, 1, none⟩ = some (.int .i64 ey) ∧ w.heap.size + 1 + 1 < w'.heap.size)
    (first | ((try dsimp only); (repeat' apply And.intro); all_goals (first | assumption | omega | (simp (disch := first | omega | (simp; omega)) [*]; done) | (rw [cell_set_at _ _ (by first | omega | (simp; omega)), cell_set_at _ _ (by first | omega | (simp; omega))]; first | assumption | (simp (disch := first | omega | (simp; omega)) [*]; done)) | (simp; omega))) | fail)
    (first
      | (go_at_call 69; (with_reducible refine (l03Round_any _ _ _ (by omega) (by omega) (by omega)).mono ?_); rintro e wA ⟨rfl, hbwA⟩; obtain ⟨hcwA, hfwA⟩ := bcell hbwA; have hzwA := hbwA.size; (try simp only [World.size_drew] at hcwA hfwA hzwA); (try simp only [World.size_alloc] at hcwA hfwA hzwA); have qA : w.heap.size + 1 + 1 < wA.heap.size := (by omega)))
  have ra := AtL.of2 s5 s6 sz
  have rb : AtL (w.heap.size + 1 + 1) [.int .i64 0, .int .i64 0] wA := by repeat' (first | with_reducible assumption | with_reducible exact AtL.new _ _ _ | (with_reducible refine AtL.drew ?_) | (with_reducible apply AtL.store2) | (with_reducible refine AtL.alloc ?_ _) | (with_reducible refine AtL.far ?_ ?_ _ _) | (with_reducible refine AtL.below ?_ (by with_reducible assumption)) | omega | (simp; done) | (simp; omega))
  have rc := rb.store2 (a := .int .i64 (near (ax + bx) 2)) (b := .int .i64 (near (ay + ey) 2))
  have r0 := rc.cell 0 rfl
  have r1 := rc.cell 1 rfl
  clear ra rb rc
  go_wp2
  refine bodyPost_ret (v := .agg #[.int .i64 (near (ax + bx) 2), .int .i64 (near (ay + ey) 2)]) (by simp [results, Try.results36, go_sem, r0, r1]) rfl ⟨rfl, ?_⟩
  repeat' (first | with_reducible assumption | with_reducible exact Below.refl _ _ | (with_reducible refine Below.setCell ?_ ?_ _) | (with_reducible refine Below.alloc ?_ ?_ _) | (with_reducible refine Below.drew ?_) | (with_reducible refine below_dr ?_ _) | (with_reducible refine Below.trans ?_ (Below.mono (by with_reducible assumption) ?_)) | omega | (simp; done) | (simp; omega))
set_option maxHeartbeats 1600000 in
theorem specMidPt_any (ax ay bx ey : Int) (w : World) :
    Calls Try.prog 9 #[.agg #[.int .i64 ax, .int .i64 ay], .agg #[.int .i64 bx, .int .i64 ey]] w (MidRet ax ay bx ey w) := by
  rcases h1 : okB ax ay with _ | _
  · have H1 := Lib.hid h1
    clear h1
    go_enter Try.func9, Try.ntmps9
    go_wp2_with (first | (go_at_call 35; (with_reducible refine (l03Ok_f H1.out _).mono ?_); rintro e wq0 ⟨rfl, hbwq0⟩; have gq0 : Below w.heap.size w wq0 := (by repeat' (first | with_reducible assumption | with_reducible exact Below.refl _ _ | (with_reducible refine Below.setCell ?_ ?_ _) | (with_reducible refine Below.alloc ?_ ?_ _) | (with_reducible refine Below.drew ?_) | (with_reducible refine below_dr ?_ _) | (with_reducible refine Below.trans ?_ (Below.mono (by with_reducible assumption) ?_)) | omega | (simp; done) | (simp; omega))); obtain ⟨hcwq0, hfwq0⟩ := bcell hbwq0; have hzwq0 := hbwq0.size; (try simp only [World.size_alloc] at hcwq0 hfwq0 hzwq0); have sq01 : wq0.cell? ⟨w.heap.size, 0, none⟩ = some (.int .i64 ax) := (hcwq0 _ _ (by omega)).trans (by first | assumption | (refine (cell_alloc_at _ _ ?_).trans ?_; omega; assumption) | (simp [go_sem]; done) | (simp [go_sem, *]; done)); have sq02 : wq0.cell? ⟨w.heap.size, 1, none⟩ = some (.int .i64 ay) := (hcwq0 _ _ (by omega)).trans (by first | assumption | (refine (cell_alloc_at _ _ ?_).trans ?_; omega; assumption) | (simp [go_sem]; done) | (simp [go_sem, *]; done)); have sq03 : wq0.cell? ⟨w.heap.size + 1, 0, none⟩ = some (.int .i64 bx) := (hcwq0 _ _ (by omega)).trans (by first | assumption | (refine (cell_alloc_at _ _ ?_).trans ?_; omega; assumption) | (simp [go_sem]; done) | (simp [go_sem, *]; done)); have sq04 : wq0.cell? ⟨w.heap.size + 1, 1, none⟩ = some (.int .i64 ey) := (hcwq0 _ _ (by omega)).trans (by first | assumption | (refine (cell_alloc_at _ _ ?_).trans ?_; omega; assumption) | (simp [go_sem]; done) | (simp [go_sem, *]; done)); have sq05 : wq0.cell? ⟨w.heap.size + 1 + 1, 0, none⟩ = some (.int .i64 0) := (hcwq0 _ _ (by omega)).trans (by first | assumption | (refine (cell_alloc_at _ _ ?_).trans ?_; omega; assumption) | (simp [go_sem]; done) | (simp [go_sem, *]; done)); have sq06 : wq0.cell? ⟨w.heap.size + 1 + 1, 1, none⟩ = some (.int .i64 0) := (hcwq0 _ _ (by omega)).trans (by first | assumption | (refine (cell_alloc_at _ _ ?_).trans ?_; omega; assumption) | (simp [go_sem]; done) | (simp [go_sem, *]; done)); have sq0zq0 : w.heap.size < wq0.heap.size := (by omega); have sq0zq1 : w.heap.size + 1 < wq0.heap.size := (by omega); have sq0z : w.heap.size + 1 + 1 < wq0.heap.size := (by omega); have fsq020 : wq0.frozen? ⟨w.heap.size + 1 + 1, 0, none⟩ = false := (hfwq0 _ _ (by omega)).trans (by first | assumption | (refine (World.frozen?_alloc_old _ _ _ ?_).trans ?_; (simp; omega); assumption) | (simp [go_sem]; done) | (simp [go_sem, *]; done)); have fsq021 : wq0.frozen? ⟨w.heap.size + 1 + 1, 1, none⟩ = false := (hfwq0 _ _ (by omega)).trans (by first | assumption | (refine (World.frozen?_alloc_old _ _ _ ?_).trans ?_; (simp; omega); assumption) | (simp [go_sem]; done) | (simp [go_sem, *]; done)); clear hcwq0 hfwq0 hzwq0))
    have ra := AtL.of2 sq05 sq06 sq0z
    have rb : AtL (w.heap.size + 1 + 1) [.int .i64 0, .int .i64 0] wq0 := by repeat' (first | with_reducible assumption | with_reducible exact AtL.new _ _ _ | (with_reducible refine AtL.drew ?_) | (with_reducible apply AtL.store2) | (with_reducible refine AtL.alloc ?_ _) | (with_reducible refine AtL.far ?_ ?_ _ _) | (with_reducible refine AtL.below ?_ (by with_reducible assumption)) | omega | (simp; done) | (simp; omega))
    have rc := rb.store2 (a := .int .i64 0) (b := .int .i64 0)
    have r0 := rc.cell 0 rfl
    have r1 := rc.cell 1 rfl
    clear ra rb rc
    refine bodyPost_ret (v := .tuple #[.agg #[.int .i64 0, .int .i64 0], .int .i64 1]) (by simp [results, Try.results9, go_sem, r0, r1]) rfl (MidRet.mk (mid_no (mid_f1 H1.out)) ?_)
    repeat' (first | with_reducible assumption | with_reducible exact Below.refl _ _ | (with_reducible refine Below.setCell ?_ ?_ _) | (with_reducible refine Below.alloc ?_ ?_ _) | (with_reducible refine Below.drew ?_) | (with_reducible refine below_dr ?_ _) | (with_reducible refine Below.trans ?_ (Below.mono (by with_reducible assumption) ?_)) | omega | (simp; done) | (simp; omega))
  have H1 := Lib.hid h1
  clear h1
  rcases h2 : okB bx ey with _ | _
  · have H2 := Lib.hid h2
    clear h2
    go_enter Try.func9, Try.ntmps9
    go_wp2_with (first | (go_at_call 35; (with_reducible refine (l03Ok_t H1.out _).mono ?_); rintro e wq0 ⟨rfl, hbwq0⟩; have gq0 : Below w.heap.size w wq0 := (by repeat' (first | with_reducible assumption | with_reducible exact Below.refl _ _ | (with_reducible refine Below.setCell ?_ ?_ _) | (with_reducible refine Below.alloc ?_ ?_ _) | (with_reducible refine Below.drew ?_) | (with_reducible refine below_dr ?_ _) | (with_reducible refine Below.trans ?_ (Below.mono (by with_reducible assumption) ?_)) | omega | (simp; done) | (simp; omega))); obtain ⟨hcwq0, hfwq0⟩ := bcell hbwq0; have hzwq0 := hbwq0.size; (try simp only [World.size_alloc] at hcwq0 hfwq0 hzwq0); have sq01 : wq0.cell? ⟨w.heap.size, 0, none⟩ = some (.int .i64 ax) := (hcwq0 _ _ (by omega)).trans (by first | assumption | (refine (cell_alloc_at _ _ ?_).trans ?_; omega; assumption) | (simp [go_sem]; done) | (simp [go_sem, *]; done)); have sq02 : wq0.cell? ⟨w.heap.size, 1, none⟩ = some (.int .i64 ay) := (hcwq0 _ _ (by omega)).trans (by first | assumption | (refine (cell_alloc_at _ _ ?_).trans ?_; omega; assumption) | (simp [go_sem]; done) | (simp [go_sem, *]; done)); have sq03 : wq0.cell? ⟨w.heap.size + 1, 0, none⟩ = some (.int .i64 bx) := (hcwq0 _ _ (by omega)).trans (by first | assumption | (refine (cell_alloc_at _ _ ?_).trans ?_; omega; assumption) | (simp [go_sem]; done) | (simp [go_sem, *]; done)); have sq04 : wq0.cell? ⟨w.heap.size + 1, 1, none⟩ = some (.int .i64 ey) := (hcwq0 _ _ (by omega)).trans (by first | assumption | (refine (cell_alloc_at _ _ ?_).trans ?_; omega; assumption) | (simp [go_sem]; done) | (simp [go_sem, *]; done)); have sq05 : wq0.cell? ⟨w.heap.size + 1 + 1, 0, none⟩ = some (.int .i64 0) := (hcwq0 _ _ (by omega)).trans (by first | assumption | (refine (cell_alloc_at _ _ ?_).trans ?_; omega; assumption) | (simp [go_sem]; done) | (simp [go_sem, *]; done)); have sq06 : wq0.cell? ⟨w.heap.size + 1 + 1, 1, none⟩ = some (.int .i64 0) := (hcwq0 _ _ (by omega)).trans (by first | assumption | (refine (cell_alloc_at _ _ ?_).trans ?_; omega; assumption) | (simp [go_sem]; done) | (simp [go_sem, *]; done)); have sq0zq0 : w.heap.size < wq0.heap.size := (by omega); have sq0zq1 : w.heap.size + 1 < wq0.heap.size := (by omega); have sq0z : w.heap.size + 1 + 1 < wq0.heap.size := (by omega); have fsq020 : wq0.frozen? ⟨w.heap.size + 1 + 1, 0, none⟩ = false := (hfwq0 _ _ (by omega)).trans (by first | assumption | (refine (World.frozen?_alloc_old _ _ _ ?_).trans ?_; (simp; omega); assumption) | (simp [go_sem]; done) | (simp [go_sem, *]; done)); have fsq021 : wq0.frozen? ⟨w.heap.size + 1 + 1, 1, none⟩ = false := (hfwq0 _ _ (by omega)).trans (by first | assumption | (refine (World.frozen?_alloc_old _ _ _ ?_).trans ?_; (simp; omega); assumption) | (simp [go_sem]; done) | (simp [go_sem, *]; done)); clear hcwq0 hfwq0 hzwq0) | (go_at_call 35; (with_reducible refine (l03Ok_f H2.out _).mono ?_); rintro e wq1 ⟨rfl, hbwq1⟩; have gq1 : Below w.heap.size w wq1 := (by repeat' (first | with_reducible assumption | with_reducible exact Below.refl _ _ | (with_reducible refine Below.setCell ?_ ?_ _) | (with_reducible refine Below.alloc ?_ ?_ _) | (with_reducible refine Below.drew ?_) | (with_reducible refine below_dr ?_ _) | (with_reducible refine Below.trans ?_ (Below.mono (by with_reducible assumption) ?_)) | omega | (simp; done) | (simp; omega))); obtain ⟨hcwq1, hfwq1⟩ := bcell hbwq1; have hzwq1 := hbwq1.size; (try simp only [World.size_alloc] at hcwq1 hfwq1 hzwq1); have sq11 : wq1.cell? ⟨w.heap.size, 0, none⟩ = some (.int .i64 ax) := (hcwq1 _ _ (by omega)).trans (by first | assumption | (refine (cell_alloc_at _ _ ?_).trans ?_; omega; assumption) | (simp [go_sem]; done) | (simp [go_sem, *]; done)); have sq12 : wq1.cell? ⟨w.heap.size, 1, none⟩ = some (.int .i64 ay) := (hcwq1 _ _ (by omega)).trans (by first | assumption | (refine (cell_alloc_at _ _ ?_).trans ?_; omega; assumption) | (simp [go_sem]; done) | (simp [go_sem, *]; done)); have sq13 : wq1.cell? ⟨w.heap.size + 1, 0, none⟩ = some (.int .i64 bx) := (hcwq1 _ _ (by omega)).trans (by first | assumption | (refine (cell_alloc_at _ _ ?_).trans ?_; omega; assumption) | (simp [go_sem]; done) | (simp [go_sem, *]; done)); have sq14 : wq1.cell? ⟨w.heap.size + 1, 1, none⟩ = some (.int .i64 ey) := (hcwq1 _ _ (by omega)).trans (by first | assumption | (refine (cell_alloc_at _ _ ?_).trans ?_; omega; assumption) | (simp [go_sem]; done) | (simp [go_sem, *]; done)); have sq15 : wq1.cell? ⟨w.heap.size + 1 + 1, 0, none⟩ = some (.int .i64 0) := (hcwq1 _ _ (by omega)).trans (by first | assumption | (refine (cell_alloc_at _ _ ?_).trans ?_; omega; assumption) | (simp [go_sem]; done) | (simp [go_sem, *]; done)); have sq16 : wq1.cell? ⟨w.heap.size + 1 + 1, 1, none⟩ = some (.int .i64 0) := (hcwq1 _ _ (by omega)).trans (by first | assumption | (refine (cell_alloc_at _ _ ?_).trans ?_; omega; assumption) | (simp [go_sem]; done) | (simp [go_sem, *]; done)); have sq1zq0 : w.heap.size < wq1.heap.size := (by omega); have sq1zq1 : w.heap.size + 1 < wq1.heap.size := (by omega); have sq1z : w.heap.size + 1 + 1 < wq1.heap.size := (by omega); have fsq120 : wq1.frozen? ⟨w.heap.size + 1 + 1, 0, none⟩ = false := (hfwq1 _ _ (by omega)).trans (by first | assumption | (refine (World.frozen?_alloc_old _ _ _ ?_).trans ?_; (simp; omega); assumption) | (simp [go_sem]; done) | (simp [go_sem, *]; done)); have fsq121 : wq1.frozen? ⟨w.heap.size + 1 + 1, 1, none⟩ = false := (hfwq1 _ _ (by omega)).trans (by first | assumption | (refine (World.frozen?_alloc_old _ _ _ ?_).trans ?_; (simp; omega); assumption) | (simp [go_sem]; done) | (simp [go_sem, *]; done)); clear hcwq1 hfwq1 hzwq1))
    have ra := AtL.of2 sq15 sq16 sq1z
    have rb : AtL (w.heap.size + 1 + 1) [.int .i64 0, .int .i64 0] wq1 := by repeat' (first | with_reducible assumption | with_reducible exact AtL.new _ _ _ | (with_reducible refine AtL.drew ?_) | (with_reducible apply AtL.store2) | (with_reducible refine AtL.alloc ?_ _) | (with_reducible refine AtL.far ?_ ?_ _ _) | (with_reducible refine AtL.below ?_ (by with_reducible assumption)) | omega | (simp; done) | (simp; omega))
    have rc := rb.store2 (a := .int .i64 0) (b := .int .i64 0)
    have r0 := rc.cell 0 rfl
    have r1 := rc.cell 1 rfl
    clear ra rb rc
    refine bodyPost_ret (v := .tuple #[.agg #[.int .i64 0, .int .i64 0], .int .i64 1]) (by simp [results, Try.results9, go_sem, r0, r1]) rfl (MidRet.mk (mid_no (mid_f2 H2.out)) ?_)
    repeat' (first | with_reducible assumption | with_reducible exact Below.refl _ _ | (with_reducible refine Below.setCell ?_ ?_ _) | (with_reducible refine Below.alloc ?_ ?_ _) | (with_reducible refine Below.drew ?_) | (with_reducible refine below_dr ?_ _) | (with_reducible refine Below.trans ?_ (Below.mono (by with_reducible assumption) ?_)) | omega | (simp; done) | (simp; omega))
  have H2 := Lib.hid h2
  clear h2
  go_enter Try.func9, Try.ntmps9
  go_wp2_with (first | (go_at_call 35; (with_reducible refine (l03Ok_t H1.out _).mono ?_); rintro e wq0 ⟨rfl, hbwq0⟩; have gq0 : Below w.heap.size w wq0 := (by repeat' (first | with_reducible assumption | with_reducible exact Below.refl _ _ | (with_reducible refine Below.setCell ?_ ?_ _) | (with_reducible refine Below.alloc ?_ ?_ _) | (with_reducible refine Below.drew ?_) | (with_reducible refine below_dr ?_ _) | (with_reducible refine Below.trans ?_ (Below.mono (by with_reducible assumption) ?_)) | omega | (simp; done) | (simp; omega))); obtain ⟨hcwq0, hfwq0⟩ := bcell hbwq0; have hzwq0 := hbwq0.size; (try simp only [World.size_alloc] at hcwq0 hfwq0 hzwq0); have sq01 : wq0.cell? ⟨w.heap.size, 0, none⟩ = some (.int .i64 ax) := (hcwq0 _ _ (by omega)).trans (by first | assumption | (refine (cell_alloc_at _ _ ?_).trans ?_; omega; assumption) | (simp [go_sem]; done) | (simp [go_sem, *]; done)); have sq02 : wq0.cell? ⟨w.heap.size, 1, none⟩ = some (.int .i64 ay) := (hcwq0 _ _ (by omega)).trans (by first | assumption | (refine (cell_alloc_at _ _ ?_).trans ?_; omega; assumption) | (simp [go_sem]; done) | (simp [go_sem, *]; done)); have sq03 : wq0.cell? ⟨w.heap.size + 1, 0, none⟩ = some (.int .i64 bx) := (hcwq0 _ _ (by omega)).trans (by first | assumption | (refine (cell_alloc_at _ _ ?_).trans ?_; omega; assumption) | (simp [go_sem]; done) | (simp [go_sem, *]; done)); have sq04 : wq0.cell? ⟨w.heap.size + 1, 1, none⟩ = some (.int .i64 ey) := (hcwq0 _ _ (by omega)).trans (by first | assumption | (refine (cell_alloc_at _ _ ?_).trans ?_; omega; assumption) | (simp [go_sem]; done) | (simp [go_sem, *]; done)); have sq05 : wq0.cell? ⟨w.heap.size + 1 + 1, 0, none⟩ = some (.int .i64 0) := (hcwq0 _ _ (by omega)).trans (by first | assumption | (refine (cell_alloc_at _ _ ?_).trans ?_; omega; assumption) | (simp [go_sem]; done) | (simp [go_sem, *]; done)); have sq06 : wq0.cell? ⟨w.heap.size + 1 + 1, 1, none⟩ = some (.int .i64 0) := (hcwq0 _ _ (by omega)).trans (by first | assumption | (refine (cell_alloc_at _ _ ?_).trans ?_; omega; assumption) | (simp [go_sem]; done) | (simp [go_sem, *]; done)); have sq0zq0 : w.heap.size < wq0.heap.size := (by omega); have sq0zq1 : w.heap.size + 1 < wq0.heap.size := (by omega); have sq0z : w.heap.size + 1 + 1 < wq0.heap.size := (by omega); have fsq020 : wq0.frozen? ⟨w.heap.size + 1 + 1, 0, none⟩ = false := (hfwq0 _ _ (by omega)).trans (by first | assumption | (refine (World.frozen?_alloc_old _ _ _ ?_).trans ?_; (simp; omega); assumption) | (simp [go_sem]; done) | (simp [go_sem, *]; done)); have fsq021 : wq0.frozen? ⟨w.heap.size + 1 + 1, 1, none⟩ = false := (hfwq0 _ _ (by omega)).trans (by first | assumption | (refine (World.frozen?_alloc_old _ _ _ ?_).trans ?_; (simp; omega); assumption) | (simp [go_sem]; done) | (simp [go_sem, *]; done)); clear hcwq0 hfwq0 hzwq0) | (go_at_call 35; (with_reducible refine (l03Ok_t H2.out _).mono ?_); rintro e wq1 ⟨rfl, hbwq1⟩; have gq1 : Below w.heap.size w wq1 := (by repeat' (first | with_reducible assumption | with_reducible exact Below.refl _ _ | (with_reducible refine Below.setCell ?_ ?_ _) | (with_reducible refine Below.alloc ?_ ?_ _) | (with_reducible refine Below.drew ?_) | (with_reducible refine below_dr ?_ _) | (with_reducible refine Below.trans ?_ (Below.mono (by with_reducible assumption) ?_)) | omega | (simp; done) | (simp; omega))); obtain ⟨hcwq1, hfwq1⟩ := bcell hbwq1; have hzwq1 := hbwq1.size; (try simp only [World.size_alloc] at hcwq1 hfwq1 hzwq1); have sq11 : wq1.cell? ⟨w.heap.size, 0, none⟩ = some (.int .i64 ax) := (hcwq1 _ _ (by omega)).trans (by first | assumption | (refine (cell_alloc_at _ _ ?_).trans ?_; omega; assumption) | (simp [go_sem]; done) | (simp [go_sem, *]; done)); have sq12 : wq1.cell? ⟨w.heap.size, 1, none⟩ = some (.int .i64 ay) := (hcwq1 _ _ (by omega)).trans (by first | assumption | (refine (cell_alloc_at _ _ ?_).trans ?_; omega; assumption) | (simp [go_sem]; done) | (simp [go_sem, *]; done)); have sq13 : wq1.cell? ⟨w.heap.size + 1, 0, none⟩ = some (.int .i64 bx) := (hcwq1 _ _ (by omega)).trans (by first | assumption | (refine (cell_alloc_at _ _ ?_).trans ?_; omega; assumption) | (simp [go_sem]; done) | (simp [go_sem, *]; done)); have sq14 : wq1.cell? ⟨w.heap.size + 1, 1, none⟩ = some (.int .i64 ey) := (hcwq1 _ _ (by omega)).trans (by first | assumption | (refine (cell_alloc_at _ _ ?_).trans ?_; omega; assumption) | (simp [go_sem]; done) | (simp [go_sem, *]; done)); have sq15 : wq1.cell? ⟨w.heap.size + 1 + 1, 0, none⟩ = some (.int .i64 0) := (hcwq1 _ _ (by omega)).trans (by first | assumption | (refine (cell_alloc_at _ _ ?_).trans ?_; omega; assumption) | (simp [go_sem]; done) | (simp [go_sem, *]; done)); have sq16 : wq1.cell? ⟨w.heap.size + 1 + 1, 1, none⟩ = some (.int .i64 0) := (hcwq1 _ _ (by omega)).trans (by first | assumption | (refine (cell_alloc_at _ _ ?_).trans ?_; omega; assumption) | (simp [go_sem]; done) | (simp [go_sem, *]; done)); have sq1zq0 : w.heap.size < wq1.heap.size := (by omega); have sq1zq1 : w.heap.size + 1 < wq1.heap.size := (by omega); have sq1z : w.heap.size + 1 + 1 < wq1.heap.size := (by omega); have fsq120 : wq1.frozen? ⟨w.heap.size + 1 + 1, 0, none⟩ = false := (hfwq1 _ _ (by omega)).trans (by first | assumption | (refine (World.frozen?_alloc_old _ _ _ ?_).trans ?_; (simp; omega); assumption) | (simp [go_sem]; done) | (simp [go_sem, *]; done)); have fsq121 : wq1.frozen? ⟨w.heap.size + 1 + 1, 1, none⟩ = false := (hfwq1 _ _ (by omega)).trans (by first | assumption | (refine (World.frozen?_alloc_old _ _ _ ?_).trans ?_; (simp; omega); assumption) | (simp [go_sem]; done) | (simp [go_sem, *]; done)); clear hcwq1 hfwq1 hzwq1))
  refine (l03Mid_any _ _ _ _ _ H1.out H2.out).mono ?_
  rintro e wz ⟨rfl, hbwz⟩
  have gz : Below w.heap.size w wz := (by repeat' (first | with_reducible assumption | with_reducible exact Below.refl _ _ | (with_reducible refine Below.setCell ?_ ?_ _) | (with_reducible refine Below.alloc ?_ ?_ _) | (with_reducible refine Below.drew ?_) | (with_reducible refine below_dr ?_ _) | (with_reducible refine Below.trans ?_ (Below.mono (by with_reducible assumption) ?_)) | omega | (simp; done) | (simp; omega)))
  obtain ⟨hcwz, hfwz⟩ := bcell hbwz
  have hzwz := hbwz.size
  (try simp only [World.size_alloc] at hcwz hfwz hzwz)
  have sz1 : wz.cell? ⟨w.heap.size, 0, none⟩ = some (.int .i64 ax) := (hcwz _ _ (by omega)).trans (by first | assumption | (refine (cell_alloc_at _ _ ?_).trans ?_; omega; assumption) | (simp [go_sem]; done) | (simp [go_sem, *]; done))
  have sz2 : wz.cell? ⟨w.heap.size, 1, none⟩ = some (.int .i64 ay) := (hcwz _ _ (by omega)).trans (by first | assumption | (refine (cell_alloc_at _ _ ?_).trans ?_; omega; assumption) | (simp [go_sem]; done) | (simp [go_sem, *]; done))
  have sz3 : wz.cell? ⟨w.heap.size + 1, 0, none⟩ = some (.int .i64 bx) := (hcwz _ _ (by omega)).trans (by first | assumption | (refine (cell_alloc_at _ _ ?_).trans ?_; omega; assumption) | (simp [go_sem]; done) | (simp [go_sem, *]; done))
  have sz4 : wz.cell? ⟨w.heap.size + 1, 1, none⟩ = some (.int .i64 ey) := (hcwz _ _ (by omega)).trans (by first | assumption | (refine (cell_alloc_at _ _ ?_).trans ?_; omega; assumption) | (simp [go_sem]; done) | (simp [go_sem, *]; done))
  have sz5 : wz.cell? ⟨w.heap.size + 1 + 1, 0, none⟩ = some (.int .i64 0) := (hcwz _ _ (by omega)).trans (by first | assumption | (refine (cell_alloc_at _ _ ?_).trans ?_; omega; assumption) | (simp [go_sem]; done) | (simp [go_sem, *]; done))
  have sz6 : wz.cell? ⟨w.heap.size + 1 + 1, 1, none⟩ = some (.int .i64 0) := (hcwz _ _ (by omega)).trans (by first | assumption | (refine (cell_alloc_at _ _ ?_).trans ?_; omega; assumption) | (simp [go_sem]; done) | (simp [go_sem, *]; done))
  have szzq0 : w.heap.size < wz.heap.size := (by omega)
  have szzq1 : w.heap.size + 1 < wz.heap.size := (by omega)
  have szz : w.heap.size + 1 + 1 < wz.heap.size := (by omega)
  have fsz20 : wz.frozen? ⟨w.heap.size + 1 + 1, 0, none⟩ = false := (hfwz _ _ (by omega)).trans (by first | assumption | (refine (World.frozen?_alloc_old _ _ _ ?_).trans ?_; (simp; omega); assumption) | (simp [go_sem]; done) | (simp [go_sem, *]; done))
  have fsz21 : wz.frozen? ⟨w.heap.size + 1 + 1, 1, none⟩ = false := (hfwz _ _ (by omega)).trans (by first | assumption | (refine (World.frozen?_alloc_old _ _ _ ?_).trans ?_; (simp; omega); assumption) | (simp [go_sem]; done) | (simp [go_sem, *]; done))
  clear hcwz hfwz hzwz
  go_wp2
  have ra := AtL.of2 sz5 sz6 szz
  have rb : AtL (w.heap.size + 1 + 1) [.int .i64 0, .int .i64 0] wz := by repeat' (first | with_reducible assumption | with_reducible exact AtL.new _ _ _ | (with_reducible refine AtL.drew ?_) | (with_reducible apply AtL.store2) | (with_reducible refine AtL.alloc ?_ _) | (with_reducible refine AtL.far ?_ ?_ _ _) | (with_reducible refine AtL.below ?_ (by with_reducible assumption)) | omega | (simp; done) | (simp; omega))
  have rc := rb.store2 (a := .int .i64 (near (ax + bx) 2)) (b := .int .i64 (near (ay + ey) 2))
  have r0 := rc.cell 0 rfl
  have r1 := rc.cell 1 rfl
  clear ra rb rc
  refine bodyPost_ret (v := .tuple #[.agg #[.int .i64 (near (ax + bx) 2), .int .i64 (near (ay + ey) 2)], .int .i64 0]) (by simp [results, Try.results9, go_sem, r0, r1]) rfl (MidRet.mk (mid_yes (by simp [H1.out, H2.out])) ?_)
  repeat' (first | with_reducible assumption | with_reducible exact Below.refl _ _ | (with_reducible refine Below.setCell ?_ ?_ _) | (with_reducible refine Below.alloc ?_ ?_ _) | (with_reducible refine Below.drew ?_) | (with_reducible refine below_dr ?_ _) | (with_reducible refine Below.trans ?_ (Below.mono (by with_reducible assumption) ?_)) | omega | (simp; done) | (simp; omega))
set_option maxHeartbeats 1600000 in
theorem implMidPt_any (ax ay bx ey : Int) (w : World) :
    Calls Try.prog 11 #[.agg #[.int .i64 ax, .int .i64 ay], .agg #[.int .i64 bx, .int .i64 ey]] w (MidRet ax ay bx ey w) := by
  rcases hv : (okB ax ay && okB bx ey) with _ | _
  · have HV := Lib.hid hv
    clear hv
    go_enter Try.func11, Try.ntmps11
    go_wp2_with fail
    refine (valid2 ax ay bx ey _ _ (by simp) (by simp [go_sem]) (by simp [go_sem]) (by simp [go_sem]) (by simp [go_sem])).mono ?_
    rw [HV.out]; rintro e w1 ⟨rfl, hbw1⟩
    have g1 : Below w.heap.size w w1 := (by repeat' (first | with_reducible assumption | with_reducible exact Below.refl _ _ | (with_reducible refine Below.setCell ?_ ?_ _) | (with_reducible refine Below.alloc ?_ ?_ _) | (with_reducible refine Below.drew ?_) | (with_reducible refine below_dr ?_ _) | (with_reducible refine Below.trans ?_ (Below.mono (by with_reducible assumption) ?_)) | omega | (simp; done) | (simp; omega)))
    obtain ⟨hcw1, hfw1⟩ := bcell hbw1
    have hzw1 := hbw1.size
    (try simp only [World.size_alloc] at hcw1 hfw1 hzw1)
    have s1 : w1.cell? ⟨w.heap.size, 0, none⟩ = some (.int .i64 ax) := (hcw1 _ _ (by omega)).trans (by first | assumption | (refine (cell_alloc_at _ _ ?_).trans ?_; omega; assumption) | (simp [go_sem]; done) | (simp [go_sem, *]; done))
    have s2 : w1.cell? ⟨w.heap.size, 1, none⟩ = some (.int .i64 ay) := (hcw1 _ _ (by omega)).trans (by first | assumption | (refine (cell_alloc_at _ _ ?_).trans ?_; omega; assumption) | (simp [go_sem]; done) | (simp [go_sem, *]; done))
    have s3 : w1.cell? ⟨w.heap.size + 1, 0, none⟩ = some (.int .i64 bx) := (hcw1 _ _ (by omega)).trans (by first | assumption | (refine (cell_alloc_at _ _ ?_).trans ?_; omega; assumption) | (simp [go_sem]; done) | (simp [go_sem, *]; done))
    have s4 : w1.cell? ⟨w.heap.size + 1, 1, none⟩ = some (.int .i64 ey) := (hcw1 _ _ (by omega)).trans (by first | assumption | (refine (cell_alloc_at _ _ ?_).trans ?_; omega; assumption) | (simp [go_sem]; done) | (simp [go_sem, *]; done))
    have s5 : w1.cell? ⟨w.heap.size + 1 + 1, 0, none⟩ = some (.int .i64 0) := (hcw1 _ _ (by omega)).trans (by first | assumption | (refine (cell_alloc_at _ _ ?_).trans ?_; omega; assumption) | (simp [go_sem]; done) | (simp [go_sem, *]; done))
    have s6 : w1.cell? ⟨w.heap.size + 1 + 1, 1, none⟩ = some (.int .i64 0) := (hcw1 _ _ (by omega)).trans (by first | assumption | (refine (cell_alloc_at _ _ ?_).trans ?_; omega; assumption) | (simp [go_sem]; done) | (simp [go_sem, *]; done))
    have szq0 : w.heap.size < w1.heap.size := (by omega)
    have szq1 : w.heap.size + 1 < w1.heap.size := (by omega)
    have sz : w.heap.size + 1 + 1 < w1.heap.size := (by omega)
    have fs20 : w1.frozen? ⟨w.heap.size + 1 + 1, 0, none⟩ = false := (hfw1 _ _ (by omega)).trans (by first | assumption | (refine (World.frozen?_alloc_old _ _ _ ?_).trans ?_; (simp; omega); assumption) | (simp [go_sem]; done) | (simp [go_sem, *]; done))
    have fs21 : w1.frozen? ⟨w.heap.size + 1 + 1, 1, none⟩ = false := (hfw1 _ _ (by omega)).trans (by first | assumption | (refine (World.frozen?_alloc_old _ _ _ ?_).trans ?_; (simp; omega); assumption) | (simp [go_sem]; done) | (simp [go_sem, *]; done))
    clear hcw1 hfw1 hzw1
    go_wp2
    have ra := AtL.of2 s5 s6 sz
    have rb : AtL (w.heap.size + 1 + 1) [.int .i64 0, .int .i64 0] w1 := by repeat' (first | with_reducible assumption | with_reducible exact AtL.new _ _ _ | (with_reducible refine AtL.drew ?_) | (with_reducible apply AtL.store2) | (with_reducible refine AtL.alloc ?_ _) | (with_reducible refine AtL.far ?_ ?_ _ _) | (with_reducible refine AtL.below ?_ (by with_reducible assumption)) | omega | (simp; done) | (simp; omega))
    have rc := rb.store2 (a := .int .i64 0) (b := .int .i64 0)
    have r0 := rc.cell 0 rfl
    have r1 := rc.cell 1 rfl
    clear ra rb rc
    refine bodyPost_ret (v := .tuple #[.agg #[.int .i64 0, .int .i64 0], .int .i64 1]) (by simp [results, Try.results11, go_sem, r0, r1]) rfl (MidRet.mk (mid_no HV.out) ?_)
    repeat' (first | with_reducible assumption | with_reducible exact Below.refl _ _ | (with_reducible refine Below.setCell ?_ ?_ _) | (with_reducible refine Below.alloc ?_ ?_ _) | (with_reducible refine Below.drew ?_) | (with_reducible refine below_dr ?_ _) | (with_reducible refine Below.trans ?_ (Below.mono (by with_reducible assumption) ?_)) | omega | (simp; done) | (simp; omega))
  · have HV := Lib.hid hv
    obtain ⟨va, vb⟩ := and2 hv
    obtain ⟨a1, a2, a3, a4⟩ := okB_bounds va
    obtain ⟨b1, b2, b3, b4⟩ := okB_bounds vb
    clear hv va vb
    have e1 : IntKind.i64.wrap (ax + bx) = ax + bx := IntWalk.i64_in _ (by omega)
    have e2 : IntKind.i64.wrap (ay + ey) = ay + ey := IntWalk.i64_in _ (by omega)
    go_enter Try.func11, Try.ntmps11
    go_wp2_with fail
    refine (valid2 ax ay bx ey _ _ (by simp) (by simp [go_sem]) (by simp [go_sem]) (by simp [go_sem]) (by simp [go_sem])).mono ?_
    rw [HV.out]; rintro e w1 ⟨rfl, hbw1⟩
    have g1 : Below w.heap.size w w1 := (by repeat' (first | with_reducible assumption | with_reducible exact Below.refl _ _ | (with_reducible refine Below.setCell ?_ ?_ _) | (with_reducible refine Below.alloc ?_ ?_ _) | (with_reducible refine Below.drew ?_) | (with_reducible refine below_dr ?_ _) | (with_reducible refine Below.trans ?_ (Below.mono (by with_reducible assumption) ?_)) | omega | (simp; done) | (simp; omega)))
    obtain ⟨hcw1, hfw1⟩ := bcell hbw1
    have hzw1 := hbw1.size
    (try simp only [World.size_alloc] at hcw1 hfw1 hzw1)
    have s1 : w1.cell? ⟨w.heap.size, 0, none⟩ = some (.int .i64 ax) := (hcw1 _ _ (by omega)).trans (by first | assumption | (refine (cell_alloc_at _ _ ?_).trans ?_; omega; assumption) | (simp [go_sem]; done) | (simp [go_sem, *]; done))
    have s2 : w1.cell? ⟨w.heap.size, 1, none⟩ = some (.int .i64 ay) := (hcw1 _ _ (by omega)).trans (by first | assumption | (refine (cell_alloc_at _ _ ?_).trans ?_; omega; assumption) | (simp [go_sem]; done) | (simp [go_sem, *]; done))
    have s3 : w1.cell? ⟨w.heap.size + 1, 0, none⟩ = some (.int .i64 bx) := (hcw1 _ _ (by omega)).trans (by first | assumption | (refine (cell_alloc_at _ _ ?_).trans ?_; omega; assumption) | (simp [go_sem]; done) | (simp [go_sem, *]; done))
    have s4 : w1.cell? ⟨w.heap.size + 1, 1, none⟩ = some (.int .i64 ey) := (hcw1 _ _ (by omega)).trans (by first | assumption | (refine (cell_alloc_at _ _ ?_).trans ?_; omega; assumption) | (simp [go_sem]; done) | (simp [go_sem, *]; done))
    have s5 : w1.cell? ⟨w.heap.size + 1 + 1, 0, none⟩ = some (.int .i64 0) := (hcw1 _ _ (by omega)).trans (by first | assumption | (refine (cell_alloc_at _ _ ?_).trans ?_; omega; assumption) | (simp [go_sem]; done) | (simp [go_sem, *]; done))
    have s6 : w1.cell? ⟨w.heap.size + 1 + 1, 1, none⟩ = some (.int .i64 0) := (hcw1 _ _ (by omega)).trans (by first | assumption | (refine (cell_alloc_at _ _ ?_).trans ?_; omega; assumption) | (simp [go_sem]; done) | (simp [go_sem, *]; done))
    have szq0 : w.heap.size < w1.heap.size := (by omega)
    have szq1 : w.heap.size + 1 < w1.heap.size := (by omega)
    have sz : w.heap.size + 1 + 1 < w1.heap.size := (by omega)
    have fs20 : w1.frozen? ⟨w.heap.size + 1 + 1, 0, none⟩ = false := (hfw1 _ _ (by omega)).trans (by first | assumption | (refine (World.frozen?_alloc_old _ _ _ ?_).trans ?_; (simp; omega); assumption) | (simp [go_sem]; done) | (simp [go_sem, *]; done))
    have fs21 : w1.frozen? ⟨w.heap.size + 1 + 1, 1, none⟩ = false := (hfw1 _ _ (by omega)).trans (by first | assumption | (refine (World.frozen?_alloc_old _ _ _ ?_).trans ?_; (simp; omega); assumption) | (simp [go_sem]; done) | (simp [go_sem, *]; done))
    clear hcw1 hfw1 hzw1
    go_wp2_with fail
    refine (plus_g _ _ _ _ _ (by omega) (by omega)).mono ?_
    rintro e w2 ⟨rfl, hbw2⟩
    have g2 : Below w.heap.size w w2 := (by repeat' (first | with_reducible assumption | with_reducible exact Below.refl _ _ | (with_reducible refine Below.setCell ?_ ?_ _) | (with_reducible refine Below.alloc ?_ ?_ _) | (with_reducible refine Below.drew ?_) | (with_reducible refine below_dr ?_ _) | (with_reducible refine Below.trans ?_ (Below.mono (by with_reducible assumption) ?_)) | omega | (simp; done) | (simp; omega)))
    obtain ⟨hcw2, hfw2⟩ := bcell hbw2
    have hzw2 := hbw2.size
    (try simp only [World.size_alloc] at hcw2 hfw2 hzw2)
    have t1 : w2.cell? ⟨w.heap.size, 0, none⟩ = some (.int .i64 ax) := (hcw2 _ _ (by omega)).trans (by first | assumption | (refine (cell_alloc_at _ _ ?_).trans ?_; omega; assumption) | (simp [go_sem]; done) | (simp [go_sem, *]; done))
    have t2 : w2.cell? ⟨w.heap.size, 1, none⟩ = some (.int .i64 ay) := (hcw2 _ _ (by omega)).trans (by first | assumption | (refine (cell_alloc_at _ _ ?_).trans ?_; omega; assumption) | (simp [go_sem]; done) | (simp [go_sem, *]; done))
    have t3 : w2.cell? ⟨w.heap.size + 1, 0, none⟩ = some (.int .i64 bx) := (hcw2 _ _ (by omega)).trans (by first | assumption | (refine (cell_alloc_at _ _ ?_).trans ?_; omega; assumption) | (simp [go_sem]; done) | (simp [go_sem, *]; done))
    have t4 : w2.cell? ⟨w.heap.size + 1, 1, none⟩ = some (.int .i64 ey) := (hcw2 _ _ (by omega)).trans (by first | assumption | (refine (cell_alloc_at _ _ ?_).trans ?_; omega; assumption) | (simp [go_sem]; done) | (simp [go_sem, *]; done))
    have t5 : w2.cell? ⟨w.heap.size + 1 + 1, 0, none⟩ = some (.int .i64 0) := (hcw2 _ _ (by omega)).trans (by first | assumption | (refine (cell_alloc_at _ _ ?_).trans ?_; omega; assumption) | (simp [go_sem]; done) | (simp [go_sem, *]; done))
    have t6 : w2.cell? ⟨w.heap.size + 1 + 1, 1, none⟩ = some (.int .i64 0) := (hcw2 _ _ (by omega)).trans (by first | assumption | (refine (cell_alloc_at _ _ ?_).trans ?_; omega; assumption) | (simp [go_sem]; done) | (simp [go_sem, *]; done))
    have tzq0 : w.heap.size < w2.heap.size := (by omega)
    have tzq1 : w.heap.size + 1 < w2.heap.size := (by omega)
    have tz : w.heap.size + 1 + 1 < w2.heap.size := (by omega)
    have ft20 : w2.frozen? ⟨w.heap.size + 1 + 1, 0, none⟩ = false := (hfw2 _ _ (by omega)).trans (by first | assumption | (refine (World.frozen?_alloc_old _ _ _ ?_).trans ?_; (simp; omega); assumption) | (simp [go_sem]; done) | (simp [go_sem, *]; done))
    have ft21 : w2.frozen? ⟨w.heap.size + 1 + 1, 1, none⟩ = false := (hfw2 _ _ (by omega)).trans (by first | assumption | (refine (World.frozen?_alloc_old _ _ _ ?_).trans ?_; (simp; omega); assumption) | (simp [go_sem]; done) | (simp [go_sem, *]; done))
    clear hcw2 hfw2 hzw2
    go_wp2_with fail
    refine (over_any _ _ _ _ (by omega) (by omega) (by omega) (by omega)).mono ?_
    rintro e wA ⟨rfl, hbwA⟩
    have g3 : Below w.heap.size w wA := (by repeat' (first | with_reducible assumption | with_reducible exact Below.refl _ _ | (with_reducible refine Below.setCell ?_ ?_ _) | (with_reducible refine Below.alloc ?_ ?_ _) | (with_reducible refine Below.drew ?_) | (with_reducible refine below_dr ?_ _) | (with_reducible refine Below.trans ?_ (Below.mono (by with_reducible assumption) ?_)) | omega | (simp; done) | (simp; omega)))
    obtain ⟨hcwA, hfwA⟩ := bcell hbwA
    have hzwA := hbwA.size
    (try simp only [World.size_alloc] at hcwA hfwA hzwA)
    have r1 : wA.cell? ⟨w.heap.size, 0, none⟩ = some (.int .i64 ax) := (hcwA _ _ (by omega)).trans (by first | assumption | (refine (cell_alloc_at _ _ ?_).trans ?_; omega; assumption) | (simp [go_sem]; done) | (simp [go_sem, *]; done))
    have r2 : wA.cell? ⟨w.heap.size, 1, none⟩ = some (.int .i64 ay) := (hcwA _ _ (by omega)).trans (by first | assumption | (refine (cell_alloc_at _ _ ?_).trans ?_; omega; assumption) | (simp [go_sem]; done) | (simp [go_sem, *]; done))
    have r3 : wA.cell? ⟨w.heap.size + 1, 0, none⟩ = some (.int .i64 bx) := (hcwA _ _ (by omega)).trans (by first | assumption | (refine (cell_alloc_at _ _ ?_).trans ?_; omega; assumption) | (simp [go_sem]; done) | (simp [go_sem, *]; done))
    have r4 : wA.cell? ⟨w.heap.size + 1, 1, none⟩ = some (.int .i64 ey) := (hcwA _ _ (by omega)).trans (by first | assumption | (refine (cell_alloc_at _ _ ?_).trans ?_; omega; assumption) | (simp [go_sem]; done) | (simp [go_sem, *]; done))
    have r5 : wA.cell? ⟨w.heap.size + 1 + 1, 0, none⟩ = some (.int .i64 0) := (hcwA _ _ (by omega)).trans (by first | assumption | (refine (cell_alloc_at _ _ ?_).trans ?_; omega; assumption) | (simp [go_sem]; done) | (simp [go_sem, *]; done))
    have r6 : wA.cell? ⟨w.heap.size + 1 + 1, 1, none⟩ = some (.int .i64 0) := (hcwA _ _ (by omega)).trans (by first | assumption | (refine (cell_alloc_at _ _ ?_).trans ?_; omega; assumption) | (simp [go_sem]; done) | (simp [go_sem, *]; done))
    have rzq0 : w.heap.size < wA.heap.size := (by omega)
    have rzq1 : w.heap.size + 1 < wA.heap.size := (by omega)
    have rz : w.heap.size + 1 + 1 < wA.heap.size := (by omega)
    have fr20 : wA.frozen? ⟨w.heap.size + 1 + 1, 0, none⟩ = false := (hfwA _ _ (by omega)).trans (by first | assumption | (refine (World.frozen?_alloc_old _ _ _ ?_).trans ?_; (simp; omega); assumption) | (simp [go_sem]; done) | (simp [go_sem, *]; done))
    have fr21 : wA.frozen? ⟨w.heap.size + 1 + 1, 1, none⟩ = false := (hfwA _ _ (by omega)).trans (by first | assumption | (refine (World.frozen?_alloc_old _ _ _ ?_).trans ?_; (simp; omega); assumption) | (simp [go_sem]; done) | (simp [go_sem, *]; done))
    clear hcwA hfwA hzwA
    go_wp2
    have ra := AtL.of2 r5 r6 rz
    have rb : AtL (w.heap.size + 1 + 1) [.int .i64 0, .int .i64 0] wA := by repeat' (first | with_reducible assumption | with_reducible exact AtL.new _ _ _ | (with_reducible refine AtL.drew ?_) | (with_reducible apply AtL.store2) | (with_reducible refine AtL.alloc ?_ _) | (with_reducible refine AtL.far ?_ ?_ _ _) | (with_reducible refine AtL.below ?_ (by with_reducible assumption)) | omega | (simp; done) | (simp; omega))
    have rc := rb.store2 (a := .int .i64 (near (ax + bx) 2)) (b := .int .i64 (near (ay + ey) 2))
    have r0 := rc.cell 0 rfl
    have r1 := rc.cell 1 rfl
    clear ra rb rc
    refine bodyPost_ret (v := .tuple #[.agg #[.int .i64 (near (ax + bx) 2), .int .i64 (near (ay + ey) 2)], .int .i64 0]) (by simp [results, Try.results11, go_sem, r0, r1]) rfl (MidRet.mk (mid_yes HV.out) ?_)
    repeat' (first | with_reducible assumption | with_reducible exact Below.refl _ _ | (with_reducible refine Below.setCell ?_ ?_ _) | (with_reducible refine Below.alloc ?_ ?_ _) | (with_reducible refine Below.drew ?_) | (with_reducible refine below_dr ?_ _) | (with_reducible refine Below.trans ?_ (Below.mono (by with_reducible assumption) ?_)) | omega | (simp; done) | (simp; omega))
end Go.Proofs.Ytcjjmkkphbeoeaa
