/- Plain facts on how two segments meet: the signs of the turns of their ends, and the ends that are on both; no program in sight. -/
import Derived.Test.YtjhboedaaeaomaaMg
namespace Go.Proofs.Ytjhboedaaeaomaa

/-- Is a point on both segments? -/
def bothB (ax ay bx ey cx cy dx dy : Int) (p : Int × Int) : Bool := onB ax ay bx ey p.1 p.2 && onB cx cy dx dy p.1 p.2
theorem on_turn {ax ay bx ey px py : Int} (h : onB ax ay bx ey px py = true) : turnI ax ay bx ey px py = 0 := by
  simp only [onB, Bool.and_eq_true, decide_eq_true_eq] at h; exact h.1
theorem both_on {ax ay bx ey cx cy dx dy : Int} {p : Int × Int} (h : bothB ax ay bx ey cx cy dx dy p = true) : onB ax ay bx ey p.1 p.2 = true ∧ onB cx cy dx dy p.1 p.2 = true := by
  simpa [bothB] using h
theorem turn_a (ax ay bx ey : Int) : turnI ax ay bx ey ax ay = 0 := by unfold turnI; grind
theorem turn_b (ax ay bx ey : Int) : turnI ax ay bx ey bx ey = 0 := by unfold turnI; grind
theorem on_a (ax ay bx ey : Int) : onB ax ay bx ey ax ay = true := by
  simp only [onB, boxB, btwB, Bool.and_eq_true, decide_eq_true_eq, btw_iff]
  exact ⟨turn_a _ _ _ _, by omega, by omega⟩
theorem on_b (ax ay bx ey : Int) : onB ax ay bx ey bx ey = true := by
  simp only [onB, boxB, btwB, Bool.and_eq_true, decide_eq_true_eq, btw_iff]
  exact ⟨turn_b _ _ _ _, by omega, by omega⟩
/-- Both ends of one segment strictly on the same side of the other one: nothing is on both. -/
theorem both_no {ax ay bx ey cx cy dx dy : Int} (h : (0 < turnI cx cy dx dy ax ay ∧ 0 < turnI cx cy dx dy bx ey) ∨ (turnI cx cy dx dy ax ay < 0 ∧ turnI cx cy dx dy bx ey < 0) ∨ (0 < turnI ax ay bx ey cx cy ∧ 0 < turnI ax ay bx ey dx dy) ∨ (turnI ax ay bx ey cx cy < 0 ∧ turnI ax ay bx ey dx dy < 0)) (p : Int × Int) : bothB ax ay bx ey cx cy dx dy p = false := by
  rcases hp : bothB ax ay bx ey cx cy dx dy p with _ | _
  · rfl
  · exfalso
    obtain ⟨h1, h2⟩ := both_on hp
    have t1 := on_turn h1
    have t2 := on_turn h2
    rcases h with h | h | h | h
    · have := side_pos h.1 h.2 h1; omega
    · have := side_neg h.1 h.2 h1; omega
    · have := side_pos h.1 h.2 h2; omega
    · have := side_neg h.1 h.2 h2; omega
/-- The product of the directions: not 0 if they are not parallel. -/
def crossI (ax ay bx ey cx cy dx dy : Int) : Int := (bx - ax) * (dy - cy) - (ey - ay) * (dx - cx)
theorem cross_cd (ax ay bx ey cx cy dx dy : Int) : turnI ax ay bx ey dx dy = turnI ax ay bx ey cx cy + crossI ax ay bx ey cx cy dx dy := by unfold turnI crossI; grind
theorem cross_ab (ax ay bx ey cx cy dx dy : Int) : turnI cx cy dx dy ax ay = turnI cx cy dx dy bx ey + crossI ax ay bx ey cx cy dx dy := by unfold turnI crossI; grind
theorem at_most_one {ax ay bx ey cx cy dx dy : Int} (hW : ¬ crossI ax ay bx ey cx cy dx dy = 0) {p q : Int × Int} (hp : bothB ax ay bx ey cx cy dx dy p = true) (hq : bothB ax ay bx ey cx cy dx dy q = true) : p = q := by
  obtain ⟨h1, h2⟩ := both_on hp
  obtain ⟨h3, h4⟩ := both_on hq
  have t1 := on_turn h1
  have t2 := on_turn h2
  have t3 := on_turn h3
  have t4 := on_turn h4
  obtain ⟨px, py⟩ := p
  obtain ⟨qx, qy⟩ := q
  simp only at t1 t2 t3 t4
  have e1 : crossI ax ay bx ey cx cy dx dy * (qx - px) = 0 := by unfold turnI crossI at *; grind
  have e2 : crossI ax ay bx ey cx cy dx dy * (qy - py) = 0 := by unfold turnI crossI at *; grind
  have f1 := (Int.mul_eq_zero.1 e1).resolve_left hW
  have f2 := (Int.mul_eq_zero.1 e2).resolve_left hW
  exact Prod.ext (by simp only; omega) (by simp only; omega)
theorem sgn_mul {W s m e : Int} (hW : 0 < W) (hs : 0 ≤ s) (h : W * m = s * e) : (0 ≤ e → 0 ≤ m) ∧ (e ≤ 0 → m ≤ 0) := by
  constructor
  · intro he
    apply Classical.byContradiction; intro hn
    have := Int.mul_neg_of_pos_of_neg hW (show m < 0 by omega)
    have := Int.mul_nonneg hs he
    omega
  · intro he
    apply Classical.byContradiction; intro hn
    have := Int.mul_pos hW (show 0 < m by omega)
    have := Int.mul_nonneg hs (show 0 ≤ -e by omega)
    have : s * -e = -(s * e) := Int.mul_neg _ _
    omega
theorem box_of {ax ay bx ey cx cy dx dy : Int} (hW : 0 < crossI ax ay bx ey cx cy dx dy) (ha : turnI cx cy dx dy ax ay = 0) (hc : turnI ax ay bx ey cx cy ≤ 0) (hd : 0 ≤ turnI ax ay bx ey dx dy) : onB cx cy dx dy ax ay = true := by
  have e := cross_cd ax ay bx ey cx cy dx dy
  have x1 : crossI ax ay bx ey cx cy dx dy * (ax - cx) = -(turnI ax ay bx ey cx cy) * (dx - cx) := by unfold turnI crossI at *; grind
  have x2 : crossI ax ay bx ey cx cy dx dy * (dx - ax) = turnI ax ay bx ey dx dy * (dx - cx) := by unfold turnI crossI at *; grind
  have y1 : crossI ax ay bx ey cx cy dx dy * (ay - cy) = -(turnI ax ay bx ey cx cy) * (dy - cy) := by unfold turnI crossI at *; grind
  have y2 : crossI ax ay bx ey cx cy dx dy * (dy - ay) = turnI ax ay bx ey dx dy * (dy - cy) := by unfold turnI crossI at *; grind
  have X1 := sgn_mul hW (by omega) x1
  have X2 := sgn_mul hW hd x2
  have Y1 := sgn_mul hW (by omega) y1
  have Y2 := sgn_mul hW hd y2
  simp only [onB, boxB, btwB, Bool.and_eq_true, decide_eq_true_eq, btw_iff]
  exact ⟨ha, by omega, by omega⟩
theorem cross_swap (ax ay bx ey cx cy dx dy : Int) : crossI ax ay bx ey dx dy cx cy = -(crossI ax ay bx ey cx cy dx dy) := by unfold crossI; grind
theorem on_swap (ax ay bx ey px py : Int) : onB bx ey ax ay px py = onB ax ay bx ey px py := by
  rw [Bool.eq_iff_iff]
  simp only [onB, boxB, btwB, Bool.and_eq_true, decide_eq_true_eq, btw_iff, turn_neg ax ay bx ey]
  omega
theorem box_of' {ax ay bx ey cx cy dx dy : Int} (hW : ¬ crossI ax ay bx ey cx cy dx dy = 0) (ha : turnI cx cy dx dy ax ay = 0) (h1 : ¬ (0 < turnI ax ay bx ey cx cy ∧ 0 < turnI ax ay bx ey dx dy)) (h2 : ¬ (turnI ax ay bx ey cx cy < 0 ∧ turnI ax ay bx ey dx dy < 0)) : onB cx cy dx dy ax ay = true := by
  have e := cross_cd ax ay bx ey cx cy dx dy
  by_cases hp : 0 < crossI ax ay bx ey cx cy dx dy
  · exact box_of hp ha (by omega) (by omega)
  · rw [← on_swap]
    exact box_of (ax := ax) (ay := ay) (bx := bx) (ey := ey) (cx := dx) (cy := dy) (dx := cx) (dy := cy) (by rw [cross_swap]; omega) (by rw [turn_neg cx cy dx dy]; omega) (by omega) (by omega)
theorem cross_rev (ax ay bx ey cx cy dx dy : Int) : crossI bx ey ax ay cx cy dx dy = -(crossI ax ay bx ey cx cy dx dy) := by unfold crossI; grind
theorem cross_com (ax ay bx ey cx cy dx dy : Int) : crossI cx cy dx dy ax ay bx ey = -(crossI ax ay bx ey cx cy dx dy) := by unfold crossI; grind
/-- One of the ends is on the other segment, if the lines are not parallel and no segment is strictly on one side of the other one, and a turn is 0. -/
theorem both_some {ax ay bx ey cx cy dx dy : Int} (hW : ¬ crossI ax ay bx ey cx cy dx dy = 0)
    (h1 : ¬ (0 < turnI ax ay bx ey cx cy ∧ 0 < turnI ax ay bx ey dx dy)) (h2 : ¬ (turnI ax ay bx ey cx cy < 0 ∧ turnI ax ay bx ey dx dy < 0))
    (h3 : ¬ (0 < turnI cx cy dx dy ax ay ∧ 0 < turnI cx cy dx dy bx ey)) (h4 : ¬ (turnI cx cy dx dy ax ay < 0 ∧ turnI cx cy dx dy bx ey < 0))
    (hz : turnI cx cy dx dy ax ay = 0 ∨ turnI cx cy dx dy bx ey = 0 ∨ turnI ax ay bx ey cx cy = 0 ∨ turnI ax ay bx ey dx dy = 0) :
    bothB ax ay bx ey cx cy dx dy (ax, ay) = true ∨ bothB ax ay bx ey cx cy dx dy (bx, ey) = true ∨ bothB ax ay bx ey cx cy dx dy (cx, cy) = true ∨ bothB ax ay bx ey cx cy dx dy (dx, dy) = true := by
  rcases hz with hz | hz | hz | hz
  · left; simp only [bothB, on_a, Bool.true_and]; exact box_of' hW hz h1 h2
  · right; left; simp only [bothB, on_b, Bool.true_and]
    exact box_of' (ax := bx) (ay := ey) (bx := ax) (ey := ay) (by rw [cross_rev]; omega) hz (by rw [turn_neg ax ay bx ey, turn_neg ax ay bx ey]; omega) (by rw [turn_neg ax ay bx ey, turn_neg ax ay bx ey]; omega)
  · right; right; left; simp only [bothB, on_a, Bool.and_true]
    exact box_of' (ax := cx) (ay := cy) (bx := dx) (ey := dy) (by rw [cross_com]; omega) hz h3 h4
  · right; right; right; simp only [bothB, on_b, Bool.and_true]
    exact box_of' (ax := dx) (ay := dy) (bx := cx) (ey := cy) (by rw [cross_rev, cross_com]; omega) hz (by rw [turn_neg cx cy dx dy, turn_neg cx cy dx dy]; omega) (by rw [turn_neg cx cy dx dy, turn_neg cx cy dx dy]; omega)

/-- The different points of a list that fulfil a condition. -/
def endsF (f : Int × Int → Bool) (l : List (Int × Int)) : List (Int × Int) := l.foldl (fun out p => if p ∈ out then out else if f p then out ++ [p] else out) []
theorem ends_fold (f : Int × Int → Bool) : ∀ (l out : List (Int × Int)), out.Nodup → (∀ p ∈ out, f p = true) →
    (l.foldl (fun out p => if p ∈ out then out else if f p then out ++ [p] else out) out).Nodup ∧
    ∀ p, p ∈ l.foldl (fun out p => if p ∈ out then out else if f p then out ++ [p] else out) out ↔ (p ∈ out ∨ (p ∈ l ∧ f p = true))
  | [], out, hn, hf => ⟨hn, fun p => by simp⟩
  | q :: l, out, hn, hf => by
    rw [List.foldl_cons]
    split
    · rename_i hq
      obtain ⟨h1, h2⟩ := ends_fold f l out hn hf
      refine ⟨h1, fun p => ?_⟩
      rw [h2]
      constructor
      · rintro (h | ⟨h, k⟩)
        · exact .inl h
        · exact .inr ⟨by simp [h], k⟩
      · rintro (h | ⟨h, k⟩)
        · exact .inl h
        · rcases List.mem_cons.1 h with e | h
          · subst e; exact .inl hq
          · exact .inr ⟨h, k⟩
    · rename_i hq
      split
      · rename_i hfq
        obtain ⟨h1, h2⟩ := ends_fold f l (out ++ [q]) (by rw [List.nodup_append]; exact ⟨hn, by simp, by intro a ha b hb; simp at hb; subst hb; intro e; subst e; exact hq ha⟩) (by
          intro p hp
          rcases List.mem_append.1 hp with h | h
          · exact hf p h
          · simp at h; subst h; exact hfq)
        refine ⟨h1, fun p => ?_⟩
        rw [h2]
        simp only [List.mem_append, List.mem_cons, List.not_mem_nil, or_false]
        constructor
        · rintro ((h | h) | ⟨h, k⟩)
          · exact .inl h
          · subst h; exact .inr ⟨.inl rfl, hfq⟩
          · exact .inr ⟨.inr h, k⟩
        · rintro (h | ⟨h | h, k⟩)
          · exact .inl (.inl h)
          · exact .inl (.inr h)
          · exact .inr ⟨h, k⟩
      · rename_i hfq
        obtain ⟨h1, h2⟩ := ends_fold f l out hn hf
        refine ⟨h1, fun p => ?_⟩
        rw [h2]
        simp only [List.mem_cons]
        constructor
        · rintro (h | ⟨h, k⟩)
          · exact .inl h
          · exact .inr ⟨.inr h, k⟩
        · rintro (h | ⟨h | h, k⟩)
          · exact .inl h
          · subst h; exact absurd k hfq
          · exact .inr ⟨h, k⟩
theorem ends_mem (f : Int × Int → Bool) (l : List (Int × Int)) (p : Int × Int) : p ∈ endsF f l ↔ (p ∈ l ∧ f p = true) := by
  have := (ends_fold f l [] List.nodup_nil (by simp)).2 p
  simpa [endsF] using this
theorem ends_nodup (f : Int × Int → Bool) (l : List (Int × Int)) : (endsF f l).Nodup := (ends_fold f l [] List.nodup_nil (by simp)).1
theorem ends_none {f : Int × Int → Bool} {l : List (Int × Int)} (h : ∀ p ∈ l, f p = false) : endsF f l = [] := by
  rw [List.eq_nil_iff_forall_not_mem]
  intro p hp
  have := (ends_mem f l p).1 hp
  rw [h p this.1] at this
  simp at this
theorem ends_one {f : Int × Int → Bool} {l : List (Int × Int)} {p : Int × Int} (hp : p ∈ l) (hf : f p = true) (h : ∀ q ∈ l, f q = true → q = p) : endsF f l = [p] := by
  have hm := (ends_mem f l p).2 ⟨hp, hf⟩
  have ha : ∀ q ∈ endsF f l, q = p := fun q hq => by
    have := (ends_mem f l q).1 hq
    exact h q this.1 this.2
  have hn := ends_nodup f l
  match he : endsF f l with
  | [] => rw [he] at hm; simp at hm
  | [x] => rw [he] at ha; rw [ha x (by simp)]
  | x :: y :: r =>
    rw [he] at ha hn
    have e1 := ha x (by simp)
    have e2 := ha y (by simp)
    subst e1
    rw [e2] at hn
    simp at hn
theorem ends_two {f : Int × Int → Bool} {l : List (Int × Int)} {p q : Int × Int} (hp : p ∈ l) (hf : f p = true) (hq : q ∈ l) (hg : f q = true) (hne : ¬ p = q) : 2 ≤ (endsF f l).length := by
  have h1 := (ends_mem f l p).2 ⟨hp, hf⟩
  have h2 := (ends_mem f l q).2 ⟨hq, hg⟩
  match he : endsF f l with
  | [] => rw [he] at h1; simp at h1
  | [x] => rw [he] at h1 h2; simp at h1 h2; exact absurd (h1.trans h2.symm) hne
  | x :: y :: r => simp
end Go.Proofs.Ytjhboedaaeaomaa
