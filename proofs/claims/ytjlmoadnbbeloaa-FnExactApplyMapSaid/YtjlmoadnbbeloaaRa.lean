/- Walks: a coordinate of a mapped point, the reference's side. -/
import Derived.Test.YtjlmoadnbbeloaaDa
import Derived.Test.YtjlmoadnbbeloaaW6
import Derived.Test.YtjlmoadnbbeloaaPa2
namespace Go.Proofs.Ytjlmoadnbbeloaa
open Go.RowKit

theorem whole_valid {n : Int} (h1 : -262144 ≤ n) (h2 : n ≤ 262144) : validB n 1 = true := by
  unfold validB
  rw [decide_eq_true_iff]
  exact ⟨by omega, by omega, by omega, by omega, Nat.gcd_one_right _⟩
/-- a/b times x plus c/d times y plus e/f, if it exists; its nearest integer, 0 if it does not. -/
def rowF (a b c d e f x y : Int) : OF := plusF (twoF a b x 1 c d y 1) (some (e, f))
def rowN (o : OF) : Int := bif validB (oN o) (oD o) then near (oN o) (oD o) else 0
def RRet (o : OF) (w : World) (e : Ending) (w' : World) : Prop := e = .returned (.tuple #[.int .i64 (rowN o), .bool (decide (oC o = 0))]) ∧ Below w.heap.size w w'
theorem RRet.none {o : OF} {w w' : World} (h : o = none) (hb : Below w.heap.size w w') : RRet o w (.returned (.tuple #[.int .i64 0, .bool false])) w' := by
  subst h; exact ⟨rfl, hb⟩
theorem specRowN {o : OF} (h : okF o) (w : World) : Calls Try.prog 89 #[.agg #[.int .i64 (oN o), .int .i64 (oD o)]] w fun e w' => e = .returned (.int .i64 (rowN o)) ∧ Below w.heap.size w w' := by
  unfold rowN
  refine specRound_any (oN o) (oD o) w ?_ ?_
  · rcases o with _ | ⟨u, v⟩
    · exact ⟨by simp [oN], by simp [oN]⟩
    · exact vb_n (h u v rfl)
  · rcases o with _ | ⟨u, v⟩
    · exact ⟨by simp [oD], by simp [oD]⟩
    · exact vb_d (h u v rfl)
theorem implRowN {o : OF} (h : okF o) (w : World) : Calls Try.prog 44 #[.agg #[.int .i64 (oN o), .int .i64 (oD o)]] w fun e w' => e = .returned (.int .i64 (rowN o)) ∧ Below w.heap.size w w' := by
  unfold rowN
  refine implRound_any (oN o) (oD o) w ?_ ?_
  · rcases o with _ | ⟨u, v⟩
    · exact ⟨by simp [oN], by simp [oN]⟩
    · exact vb_n (h u v rfl)
  · rcases o with _ | ⟨u, v⟩
    · exact ⟨by simp [oD], by simp [oD]⟩
    · exact vb_d (h u v rfl)
theorem l04Int_b (n : Int) (w : World) :
    Calls Try.prog 88 #[.int .i64 n] w fun e w' => e = .returned (.agg #[.int .i64 n, .int .i64 1]) ∧ w' = w.alloc (.cells #[.int .i64 n, .int .i64 1] 26) := by
  go_enter Try.func88, Try.ntmps88
  go_wp2
  exact bodyPost_ret (v := .agg #[.int .i64 n, .int .i64 1]) (by simp [results, Try.results88, go_sem]) rfl ⟨rfl, rfl⟩
set_option maxHeartbeats 6400000 in
theorem l04Row_any (a b c d e f x y : Int) (w : World) (v0 : validB a b = true) (v1 : validB c d = true) (v2 : validB e f = true) (vp : okB x y = true) :
    Calls Try.prog 72 #[.agg #[.int .i64 a, .int .i64 b], .agg #[.int .i64 c, .int .i64 d], .agg #[.int .i64 e, .int .i64 f], .agg #[.int .i64 x, .int .i64 y]] w (RRet (rowF a b c d e f x y) w) := by
  obtain ⟨k1, k2, k3, k4⟩ := okB_bounds vp
  have CT := Lib.hid (fun w => l04Two_any a b x 1 c d y 1 w v0 (whole_valid k1 k2) v1 (whole_valid k3 k4))
  unfold BRet at CT
  unfold rowF
  have hok := plusF_ok2 a b x 1 c d y 1
  generalize twoF a b x 1 c d y 1 = o at *
  clear k1 k2 k3 k4 vp v0 v1
  rcases o with _ | ⟨p, q⟩
  · simp only [oN, oD, oC] at CT
    go_enter Try.func72, Try.ntmps72
    go_upto_region 1 with fail
    generalize hW : ((((w.alloc (.cells #[.int .i64 a, .int .i64 b] 26)).alloc (.cells #[.int .i64 c, .int .i64 d] 26)).alloc (.cells #[.int .i64 e, .int .i64 f] 26)).alloc (.cells #[.int .i64 x, .int .i64 y] 38)) = W0
    have g0 : Below w.heap.size w W0 := by rw [← hW]; repeat' (first | with_reducible assumption | with_reducible exact Below.refl _ _ | (with_reducible refine Below.setCell ?_ ?_ _) | (with_reducible refine Below.alloc ?_ ?_ _) | (with_reducible refine Below.drew ?_) | (with_reducible refine below_dr ?_ _) | (with_reducible refine Below.trans ?_ (Below.mono (by with_reducible assumption) ?_)) | omega | (simp; done) | (simp; omega))
    have s1 : W0.cell? ⟨w.heap.size, 0, none⟩ = some (.int .i64 a) := by rw [← hW]; simp [go_sem]
    have s2 : W0.cell? ⟨w.heap.size, 1, none⟩ = some (.int .i64 b) := by rw [← hW]; simp [go_sem]
    have s3 : W0.cell? ⟨w.heap.size + 1, 0, none⟩ = some (.int .i64 c) := by rw [← hW]; simp [go_sem]
    have s4 : W0.cell? ⟨w.heap.size + 1, 1, none⟩ = some (.int .i64 d) := by rw [← hW]; simp [go_sem]
    have s5 : W0.cell? ⟨w.heap.size + 1 + 1, 0, none⟩ = some (.int .i64 e) := by rw [← hW]; simp [go_sem]
    have s6 : W0.cell? ⟨w.heap.size + 1 + 1, 1, none⟩ = some (.int .i64 f) := by rw [← hW]; simp [go_sem]
    have s7 : W0.cell? ⟨w.heap.size + 1 + 1 + 1, 0, none⟩ = some (.int .i64 x) := by rw [← hW]; simp [go_sem]
    have s8 : W0.cell? ⟨w.heap.size + 1 + 1 + 1, 1, none⟩ = some (.int .i64 y) := by rw [← hW]; simp [go_sem]
    have z0 : w.heap.size < W0.heap.size := by rw [← hW]; simp; try omega
    have z1 : w.heap.size + 1 < W0.heap.size := by rw [← hW]; simp; try omega
    have z2 : w.heap.size + 1 + 1 < W0.heap.size := by rw [← hW]; simp; try omega
    have z3 : w.heap.size + 1 + 1 + 1 < W0.heap.size := by rw [← hW]; simp
    clear hW
    go_cut [10, 11] (fun u10 u11 wx => LeftP [.int .i64 0, .int .i64 0] u10 wx ∧ u11 = .bool false ∧ Below W0.heap.size W0 wx)
    case first =>
      go_region_held3 (fun w' => (∀ b o, b < W0.heap.size → w'.cell? ⟨b, o, none⟩ = W0.cell? ⟨b, o, none⟩) ∧ W0.heap.size ≤ w'.heap.size)
        (first | ((try dsimp only); exact ⟨fun b o h => (by (repeat (first | with_reducible exact rfl | (with_reducible refine (cell_drew_at _ _).trans ?_) | (with_reducible refine (cell_set_at _ _ (by first | omega | (simp; done) | (simp; omega))).trans ?_) | (with_reducible refine (cell_alloc_at _ _ (by first | omega | (simp; done) | (simp; omega))).trans ?_) | (with_reducible refine (hcwT b o (by first | omega | (simp; done) | (simp; omega))).trans ?_)))), (by first | omega | (simp; done) | (simp; omega))⟩) | fail)
        (first
          | (go_at_call 88; (with_reducible refine (l04Int_b _ _).mono ?_); rintro e wI ⟨rfl, rfl⟩)
          | (go_at_call 33; (with_reducible refine (CT.out _).mono ?_); rintro e wT ⟨rfl, hbwT⟩; obtain ⟨hcwT, hfwT⟩ := bcell hbwT; have hzwT := hbwT.size; (try simp only [World.size_drew] at hcwT hfwT hzwT); (try simp only [World.size_alloc] at hcwT hfwT hzwT); (try have q_T : W0.heap.size ≤ wT.heap.size := (by omega))))
      all_goals
        go_wp2_with fail
        go_meet
      all_goals exact ⟨⟨_, rfl, by repeat' (first | ((with_reducible refine AtL.newAt ?_); (first | rfl | (simp; done))) | with_reducible assumption | with_reducible exact AtL.new _ _ _ | (with_reducible refine AtL.drew ?_) | (with_reducible apply AtL.store2) | (with_reducible refine AtL.alloc ?_ _) | (with_reducible refine AtL.far ?_ ?_ _ _) | (with_reducible refine AtL.below ?_ (by with_reducible assumption)) | omega | (simp; done) | (simp; omega))⟩, rfl, by repeat' (first | with_reducible assumption | with_reducible exact Below.refl _ _ | (with_reducible refine Below.setCell ?_ ?_ _) | (with_reducible refine Below.alloc ?_ ?_ _) | (with_reducible refine Below.drew ?_) | (with_reducible refine below_dr ?_ _) | (with_reducible refine Below.trans ?_ (Below.mono (by with_reducible assumption) ?_)) | omega | (simp; done) | (simp; omega))⟩
    case rest =>
      obtain ⟨⟨g8, rfl, at8⟩, rfl, hbx⟩ := hcut
      have gx : Below w.heap.size w wc := g0.trans (hbx.mono (by omega))
      go_wp2
      exact bodyPost_ret (v := .tuple #[.int .i64 0, .bool false]) (by simp [results, Try.results72]) rfl (RRet.none rfl gx)
  have vpq := hok p q rfl
  have CA := Lib.hid (fun w => specAdd_f vpq v2 w)
  unfold FRet at CA
  have ho : plusF (some (p, q)) (some (e, f)) = addF p q e f := rfl
  rw [ho]
  have hok2 := addF_ok (a := p) (b := q) (c := e) (d := f)
  generalize addF p q e f = o2 at *
  clear ho vpq v2 hok
  have CR := Lib.hid (fun w => specRowN hok2 w)
  clear hok2
  simp only [oN, oD, oC] at CT
  go_enter Try.func72, Try.ntmps72
  go_upto_region 1 with fail
  generalize hW : ((((w.alloc (.cells #[.int .i64 a, .int .i64 b] 26)).alloc (.cells #[.int .i64 c, .int .i64 d] 26)).alloc (.cells #[.int .i64 e, .int .i64 f] 26)).alloc (.cells #[.int .i64 x, .int .i64 y] 38)) = W0
  have g0 : Below w.heap.size w W0 := by rw [← hW]; repeat' (first | with_reducible assumption | with_reducible exact Below.refl _ _ | (with_reducible refine Below.setCell ?_ ?_ _) | (with_reducible refine Below.alloc ?_ ?_ _) | (with_reducible refine Below.drew ?_) | (with_reducible refine below_dr ?_ _) | (with_reducible refine Below.trans ?_ (Below.mono (by with_reducible assumption) ?_)) | omega | (simp; done) | (simp; omega))
  have s1 : W0.cell? ⟨w.heap.size, 0, none⟩ = some (.int .i64 a) := by rw [← hW]; simp [go_sem]
  have s2 : W0.cell? ⟨w.heap.size, 1, none⟩ = some (.int .i64 b) := by rw [← hW]; simp [go_sem]
  have s3 : W0.cell? ⟨w.heap.size + 1, 0, none⟩ = some (.int .i64 c) := by rw [← hW]; simp [go_sem]
  have s4 : W0.cell? ⟨w.heap.size + 1, 1, none⟩ = some (.int .i64 d) := by rw [← hW]; simp [go_sem]
  have s5 : W0.cell? ⟨w.heap.size + 1 + 1, 0, none⟩ = some (.int .i64 e) := by rw [← hW]; simp [go_sem]
  have s6 : W0.cell? ⟨w.heap.size + 1 + 1, 1, none⟩ = some (.int .i64 f) := by rw [← hW]; simp [go_sem]
  have s7 : W0.cell? ⟨w.heap.size + 1 + 1 + 1, 0, none⟩ = some (.int .i64 x) := by rw [← hW]; simp [go_sem]
  have s8 : W0.cell? ⟨w.heap.size + 1 + 1 + 1, 1, none⟩ = some (.int .i64 y) := by rw [← hW]; simp [go_sem]
  have z0 : w.heap.size < W0.heap.size := by rw [← hW]; simp; try omega
  have z1 : w.heap.size + 1 < W0.heap.size := by rw [← hW]; simp; try omega
  have z2 : w.heap.size + 1 + 1 < W0.heap.size := by rw [← hW]; simp; try omega
  have z3 : w.heap.size + 1 + 1 + 1 < W0.heap.size := by rw [← hW]; simp
  clear hW
  go_cut [10, 11] (fun u10 u11 wx => LeftP [.int .i64 p, .int .i64 q] u10 wx ∧ u11 = .bool true ∧ Below W0.heap.size W0 wx)
  case first =>
    go_region_held3 (fun w' => (∀ b o, b < W0.heap.size → w'.cell? ⟨b, o, none⟩ = W0.cell? ⟨b, o, none⟩) ∧ W0.heap.size ≤ w'.heap.size)
      (first | ((try dsimp only); exact ⟨fun b o h => (by (repeat (first | with_reducible exact rfl | (with_reducible refine (cell_drew_at _ _).trans ?_) | (with_reducible refine (cell_set_at _ _ (by first | omega | (simp; done) | (simp; omega))).trans ?_) | (with_reducible refine (cell_alloc_at _ _ (by first | omega | (simp; done) | (simp; omega))).trans ?_) | (with_reducible refine (hcwT b o (by first | omega | (simp; done) | (simp; omega))).trans ?_)))), (by first | omega | (simp; done) | (simp; omega))⟩) | fail)
      (first
        | (go_at_call 88; (with_reducible refine (l04Int_b _ _).mono ?_); rintro e wI ⟨rfl, rfl⟩)
        | (go_at_call 33; (with_reducible refine (CT.out _).mono ?_); rintro e wT ⟨rfl, hbwT⟩; obtain ⟨hcwT, hfwT⟩ := bcell hbwT; have hzwT := hbwT.size; (try simp only [World.size_drew] at hcwT hfwT hzwT); (try simp only [World.size_alloc] at hcwT hfwT hzwT); (try have q_T : W0.heap.size ≤ wT.heap.size := (by omega))))
    all_goals
      go_wp2_with fail
      go_meet
    all_goals exact ⟨⟨_, rfl, by repeat' (first | ((with_reducible refine AtL.newAt ?_); (first | rfl | (simp; done))) | with_reducible assumption | with_reducible exact AtL.new _ _ _ | (with_reducible refine AtL.drew ?_) | (with_reducible apply AtL.store2) | (with_reducible refine AtL.alloc ?_ _) | (with_reducible refine AtL.far ?_ ?_ _ _) | (with_reducible refine AtL.below ?_ (by with_reducible assumption)) | omega | (simp; done) | (simp; omega))⟩, rfl, by repeat' (first | with_reducible assumption | with_reducible exact Below.refl _ _ | (with_reducible refine Below.setCell ?_ ?_ _) | (with_reducible refine Below.alloc ?_ ?_ _) | (with_reducible refine Below.drew ?_) | (with_reducible refine below_dr ?_ _) | (with_reducible refine Below.trans ?_ (Below.mono (by with_reducible assumption) ?_)) | omega | (simp; done) | (simp; omega))⟩
  case rest =>
    obtain ⟨⟨g8, rfl, at8⟩, rfl, hbx⟩ := hcut
    have gx : Below w.heap.size w wc := g0.trans (hbx.mono (by omega))
    have p0 := at8.cell 0 rfl
    have p1 := at8.cell 1 rfl
    have l8 := at8.lt
    have t5 : wc.cell? ⟨w.heap.size + 1 + 1, 0, none⟩ = some (.int .i64 e) := (hbx.cell (p := ⟨w.heap.size + 1 + 1, 0, none⟩) (by simp only; omega)).trans s5
    have t6 : wc.cell? ⟨w.heap.size + 1 + 1, 1, none⟩ = some (.int .i64 f) := (hbx.cell (p := ⟨w.heap.size + 1 + 1, 1, none⟩) (by simp only; omega)).trans s6
    go_wp2_with fail
    refine (CA.out _).mono ?_
    rintro e2 w2 ⟨rfl, hbw2⟩
    have g2 : Below w.heap.size w w2 := gx.trans (hbw2.mono (by have := gx.size; omega))
    go_wp2_with fail
    refine (CR.out _).mono ?_
    rintro e3 w3 ⟨rfl, hbw3⟩
    have q2 := g2.size
    have g3 : Below w.heap.size w w3 := by repeat' (first | with_reducible assumption | with_reducible exact Below.refl _ _ | (with_reducible refine Below.setCell ?_ ?_ _) | (with_reducible refine Below.alloc ?_ ?_ _) | (with_reducible refine Below.drew ?_) | (with_reducible refine below_dr ?_ _) | (with_reducible refine Below.trans ?_ (Below.mono (by with_reducible assumption) ?_)) | omega | (simp; done) | (simp; omega))
    go_wp2
    exact bodyPost_ret (v := .tuple #[.int .i64 (rowN o2), .bool (oC o2 == 0)]) (by simp [results, Try.results72]) rfl ⟨rfl, g3⟩
end Go.Proofs.Ytjlmoadnbbeloaa
