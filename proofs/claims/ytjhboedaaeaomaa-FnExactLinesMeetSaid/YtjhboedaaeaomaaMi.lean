/- Plain facts on two segments of one line: the two inner ones of their ends; and how two segments meet, said once. -/
import Derived.Test.YtjhboedaaeaomaaMh
namespace Go.Proofs.Ytjhboedaaeaomaa

theorem perm_pick {α : Type} {p : α} {l m : List α} (h : (p :: l).Perm m) : ∃ m1 m2, m = m1 ++ p :: m2 ∧ l.Perm (m1 ++ m2) := by
  have hp : p ∈ m := h.mem_iff.1 (by simp)
  obtain ⟨m1, m2, rfl⟩ := List.append_of_mem hp
  exact ⟨m1, m2, rfl, (List.perm_cons p).1 (h.trans List.perm_middle)⟩
theorem perm1 {α : Type} {p a : α} (h : [p].Perm [a]) : p = a := by simpa using h
theorem perm2 {α : Type} {p q a b : α} (h : [p, q].Perm [a, b]) : (p = a ∧ q = b) ∨ (p = b ∧ q = a) := by
  obtain ⟨m1, m2, e, h⟩ := perm_pick h
  match m1, e with
  | [], e => simp at e; obtain ⟨rfl, rfl⟩ := e; exact .inl ⟨rfl, perm1 h⟩
  | [x], e => simp at e; obtain ⟨rfl, rfl, rfl⟩ := e; exact .inr ⟨rfl, perm1 h⟩
  | x :: y :: r, e => simp at e
theorem perm3 {α : Type} {p q r a b c : α} (h : [p, q, r].Perm [a, b, c]) : (p = a ∧ ((q = b ∧ r = c) ∨ (q = c ∧ r = b))) ∨ (p = b ∧ ((q = a ∧ r = c) ∨ (q = c ∧ r = a))) ∨ (p = c ∧ ((q = a ∧ r = b) ∨ (q = b ∧ r = a))) := by
  obtain ⟨m1, m2, e, h⟩ := perm_pick h
  match m1, e with
  | [], e => simp at e; obtain ⟨rfl, rfl⟩ := e; exact .inl ⟨rfl, perm2 h⟩
  | [x], e => simp at e; obtain ⟨rfl, rfl, rfl⟩ := e; exact .inr (.inl ⟨rfl, perm2 h⟩)
  | [x, y], e => simp at e; obtain ⟨rfl, rfl, rfl, rfl⟩ := e; exact .inr (.inr ⟨rfl, perm2 h⟩)
  | x :: y :: z :: r, e => simp at e
theorem perm4 {α : Type} {p q r s a b c d : α} (h : [p, q, r, s].Perm [a, b, c, d]) : (p = a ∧ [q, r, s].Perm [b, c, d]) ∨ (p = b ∧ [q, r, s].Perm [a, c, d]) ∨ (p = c ∧ [q, r, s].Perm [a, b, d]) ∨ (p = d ∧ [q, r, s].Perm [a, b, c]) := by
  obtain ⟨m1, m2, e, h⟩ := perm_pick h
  match m1, e with
  | [], e => simp at e; obtain ⟨rfl, rfl⟩ := e; exact .inl ⟨rfl, h⟩
  | [x], e => simp at e; obtain ⟨rfl, rfl, rfl⟩ := e; exact .inr (.inl ⟨rfl, h⟩)
  | [x, y], e => simp at e; obtain ⟨rfl, rfl, rfl, rfl⟩ := e; exact .inr (.inr (.inl ⟨rfl, h⟩))
  | [x, y, z], e => simp at e; obtain ⟨rfl, rfl, rfl, rfl, rfl⟩ := e; exact .inr (.inr (.inr ⟨rfl, h⟩))
  | x :: y :: z :: u :: r, e => simp at e
/-- Is a number between the first two and between the last two? -/
def InK (ka kb kc kd k : Int) : Prop := ((ka ≤ k ∧ k ≤ kb) ∨ (kb ≤ k ∧ k ≤ ka)) ∧ ((kc ≤ k ∧ k ≤ kd) ∨ (kd ≤ k ∧ k ≤ kc))
theorem inner_keys {ka kb kc kd k0 k1 k2 k3 : Int} (h : [k0, k1, k2, k3].Perm [ka, kb, kc, kd]) (h1 : k0 ≤ k1) (h2 : k1 ≤ k2) (h3 : k2 ≤ k3) :
    (¬ InK ka kb kc kd k1 → ¬ InK ka kb kc kd ka ∧ ¬ InK ka kb kc kd kb ∧ ¬ InK ka kb kc kd kc ∧ ¬ InK ka kb kc kd kd) ∧
    (k1 = k2 → (InK ka kb kc kd ka → ka = k1) ∧ (InK ka kb kc kd kb → kb = k1) ∧ (InK ka kb kc kd kc → kc = k1) ∧ (InK ka kb kc kd kd → kd = k1)) ∧
    (InK ka kb kc kd k1 → InK ka kb kc kd k2) := by
  unfold InK
  rcases perm4 h with ⟨rfl, k⟩ | ⟨rfl, k⟩ | ⟨rfl, k⟩ | ⟨rfl, k⟩ <;> clear h <;>
    rcases perm3 k with ⟨rfl, ⟨rfl, rfl⟩ | ⟨rfl, rfl⟩⟩ | ⟨rfl, ⟨rfl, rfl⟩ | ⟨rfl, rfl⟩⟩ | ⟨rfl, ⟨rfl, rfl⟩ | ⟨rfl, rfl⟩⟩ <;> omega
section
variable {ax ay bx ey cx cy dx dy : Int}
/-- How two segments meet: by the ends that are on both, or by the signs of turns. -/
def meetI (ax ay bx ey cx cy dx dy : Int) : Int :=
  let n := (endsF (bothB ax ay bx ey cx cy dx dy) [(ax, ay), (bx, ey), (cx, cy), (dx, dy)]).length
  if n = 0 then (if sgnI (turnI ax ay bx ey cx cy) * sgnI (turnI ax ay bx ey dx dy) < 0 ∧ sgnI (turnI cx cy dx dy ax ay) * sgnI (turnI cx cy dx dy bx ey) < 0 then 2 else 0)
  else if n = 1 then 1 else 3
theorem sgn_cases (n : Int) : (0 < n ∧ sgnI n = 1) ∨ (n < 0 ∧ sgnI n = -1) ∨ (n = 0 ∧ sgnI n = 0) := by unfold sgnI; split <;> (try split) <;> omega
theorem sgn_prod (m n : Int) : (0 < sgnI m * sgnI n ↔ (0 < m ∧ 0 < n) ∨ (m < 0 ∧ n < 0)) ∧ (sgnI m * sgnI n = 0 ↔ m = 0 ∨ n = 0) ∧ (sgnI m * sgnI n < 0 ↔ (0 < m ∧ n < 0) ∨ (m < 0 ∧ 0 < n)) := by
  rcases sgn_cases m with ⟨h1, e1⟩ | ⟨h1, e1⟩ | ⟨h1, e1⟩ <;> rcases sgn_cases n with ⟨h2, e2⟩ | ⟨h2, e2⟩ | ⟨h2, e2⟩ <;> rw [e1, e2] <;> omega
theorem meet_none (h : 0 < sgnI (turnI cx cy dx dy ax ay) * sgnI (turnI cx cy dx dy bx ey) ∨ 0 < sgnI (turnI ax ay bx ey cx cy) * sgnI (turnI ax ay bx ey dx dy)) : 0 = meetI ax ay bx ey cx cy dx dy := by
  have hn := ends_none (l := [(ax, ay), (bx, ey), (cx, cy), (dx, dy)]) (fun p _ => both_no (ax := ax) (ay := ay) (bx := bx) (ey := ey) (cx := cx) (cy := cy) (dx := dx) (dy := dy) (by
    rw [(sgn_prod _ _).1, (sgn_prod _ _).1] at h; omega) p)
  unfold meetI
  rw [hn]
  simp only [List.length_nil, if_true]
  rw [if_neg (by omega)]
theorem meet_cross (h1 : sgnI (turnI cx cy dx dy ax ay) * sgnI (turnI cx cy dx dy bx ey) < 0) (h2 : sgnI (turnI ax ay bx ey cx cy) * sgnI (turnI ax ay bx ey dx dy) < 0) :
    endsF (bothB ax ay bx ey cx cy dx dy) [(ax, ay), (bx, ey), (cx, cy), (dx, dy)] = [] ∧ 2 = meetI ax ay bx ey cx cy dx dy := by
  have k1 := (sgn_prod _ _).2.2.1 h1
  have k2 := (sgn_prod _ _).2.2.1 h2
  have hn : endsF (bothB ax ay bx ey cx cy dx dy) [(ax, ay), (bx, ey), (cx, cy), (dx, dy)] = [] := ends_none (fun p hp => by
    rcases hb : bothB ax ay bx ey cx cy dx dy p with _ | _
    · rfl
    · exfalso
      obtain ⟨o1, o2⟩ := both_on hb
      have t1 := on_turn o1
      have t2 := on_turn o2
      simp only [List.mem_cons, List.not_mem_nil, or_false] at hp
      rcases hp with rfl | rfl | rfl | rfl <;> simp only at t1 t2 <;> omega)
  refine ⟨hn, ?_⟩
  unfold meetI
  rw [hn]
  simp only [List.length_nil, if_true]
  rw [if_pos ⟨h2, h1⟩]
/-- They touch: one end, the same one whichever is found. -/
theorem meet_touch (h0 : ¬ (turnI cx cy dx dy ax ay = 0 ∧ turnI cx cy dx dy bx ey = 0 ∧ turnI ax ay bx ey cx cy = 0 ∧ turnI ax ay bx ey dx dy = 0))
    (h1 : ¬ 0 < sgnI (turnI cx cy dx dy ax ay) * sgnI (turnI cx cy dx dy bx ey)) (h2 : ¬ 0 < sgnI (turnI ax ay bx ey cx cy) * sgnI (turnI ax ay bx ey dx dy))
    (h3 : sgnI (turnI cx cy dx dy ax ay) * sgnI (turnI cx cy dx dy bx ey) = 0 ∨ sgnI (turnI ax ay bx ey cx cy) * sgnI (turnI ax ay bx ey dx dy) = 0) :
    ∃ p, p ∈ [(ax, ay), (bx, ey), (cx, cy), (dx, dy)] ∧ bothB ax ay bx ey cx cy dx dy p = true ∧ ∀ q, bothB ax ay bx ey cx cy dx dy q = true → q = p := by
  rw [(sgn_prod _ _).1] at h1 h2
  rw [(sgn_prod _ _).2.1, (sgn_prod _ _).2.1] at h3
  have e1 := cross_cd ax ay bx ey cx cy dx dy
  have e2 := cross_ab ax ay bx ey cx cy dx dy
  have hW : ¬ crossI ax ay bx ey cx cy dx dy = 0 := by omega
  rcases both_some hW (by omega) (by omega) (by omega) (by omega) (by omega) with h | h | h | h
  · exact ⟨_, by simp, h, fun q hq => at_most_one hW hq h⟩
  · exact ⟨_, by simp, h, fun q hq => at_most_one hW hq h⟩
  · exact ⟨_, by simp, h, fun q hq => at_most_one hW hq h⟩
  · exact ⟨_, by simp, h, fun q hq => at_most_one hW hq h⟩
theorem meet_one {p : Int × Int} (hp : p ∈ [(ax, ay), (bx, ey), (cx, cy), (dx, dy)]) (hf : bothB ax ay bx ey cx cy dx dy p = true) (h : ∀ q ∈ [(ax, ay), (bx, ey), (cx, cy), (dx, dy)], bothB ax ay bx ey cx cy dx dy q = true → q = p) :
    endsF (bothB ax ay bx ey cx cy dx dy) [(ax, ay), (bx, ey), (cx, cy), (dx, dy)] = [p] ∧ 1 = meetI ax ay bx ey cx cy dx dy := by
  have he := ends_one hp hf h
  refine ⟨he, ?_⟩
  unfold meetI
  rw [he]; rfl
theorem both_key (va : okB ax ay = true) (vb : okB bx ey = true) (vc : okB cx cy = true) (vd : okB dx dy = true)
    (h0 : turnI cx cy dx dy ax ay = 0 ∧ turnI cx cy dx dy bx ey = 0 ∧ turnI ax ay bx ey cx cy = 0 ∧ turnI ax ay bx ey dx dy = 0) {p : Int × Int} (hp : p ∈ [(ax, ay), (bx, ey), (cx, cy), (dx, dy)]) :
    bothB ax ay bx ey cx cy dx dy p = true ↔ InK (keyI ax ay) (keyI bx ey) (keyI cx cy) (keyI dx dy) (keyI p.1 p.2) := by
  have hok : okB p.1 p.2 = true ∧ turnI ax ay bx ey p.1 p.2 = 0 ∧ turnI cx cy dx dy p.1 p.2 = 0 := by
    simp only [List.mem_cons, List.not_mem_nil, or_false] at hp
    rcases hp with rfl | rfl | rfl | rfl
    · exact ⟨va, turn_a _ _ _ _, h0.1⟩
    · exact ⟨vb, turn_b _ _ _ _, h0.2.1⟩
    · exact ⟨vc, h0.2.2.1, turn_a _ _ _ _⟩
    · exact ⟨vd, h0.2.2.2, turn_b _ _ _ _⟩
  obtain ⟨vp, t1, t2⟩ := hok
  unfold bothB onB
  rw [box_key va vb vp t1, box_key vc vd vp t2, decide_eq_true t1, decide_eq_true t2]
  simp only [btwB, Bool.true_and, Bool.and_eq_true, decide_eq_true_eq, btw_iff, InK]
/-- On one line: the ends in order p, q, r, s. -/
theorem meet_line {p q r s : Int × Int} (va : okB ax ay = true) (vb : okB bx ey = true) (vc : okB cx cy = true) (vd : okB dx dy = true)
    (h0 : turnI cx cy dx dy ax ay = 0 ∧ turnI cx cy dx dy bx ey = 0 ∧ turnI ax ay bx ey cx cy = 0 ∧ turnI ax ay bx ey dx dy = 0)
    (hp : [p, q, r, s].Perm [(ax, ay), (bx, ey), (cx, cy), (dx, dy)]) (h1 : keyI p.1 p.2 ≤ keyI q.1 q.2) (h2 : keyI q.1 q.2 ≤ keyI r.1 r.2) (h3 : keyI r.1 r.2 ≤ keyI s.1 s.2) :
    (bothB ax ay bx ey cx cy dx dy q = false → 0 = meetI ax ay bx ey cx cy dx dy) ∧
    (bothB ax ay bx ey cx cy dx dy q = true → q = r → endsF (bothB ax ay bx ey cx cy dx dy) [(ax, ay), (bx, ey), (cx, cy), (dx, dy)] = [q] ∧ 1 = meetI ax ay bx ey cx cy dx dy) ∧
    (bothB ax ay bx ey cx cy dx dy q = true → ¬ q = r → 3 = meetI ax ay bx ey cx cy dx dy) := by
  have K := fun {x : Int × Int} hx => both_key va vb vc vd h0 (p := x) hx
  have hk : [keyI p.1 p.2, keyI q.1 q.2, keyI r.1 r.2, keyI s.1 s.2].Perm [keyI ax ay, keyI bx ey, keyI cx cy, keyI dx dy] := hp.map (fun x : Int × Int => keyI x.1 x.2)
  obtain ⟨I1, I2, I3⟩ := inner_keys hk h1 h2 h3
  have mq : q ∈ [(ax, ay), (bx, ey), (cx, cy), (dx, dy)] := hp.mem_iff.1 (by simp)
  have mr : r ∈ [(ax, ay), (bx, ey), (cx, cy), (dx, dy)] := hp.mem_iff.1 (by simp)
  have hok : ∀ x ∈ [(ax, ay), (bx, ey), (cx, cy), (dx, dy)], okB x.1 x.2 = true := by
    intro x hx
    simp only [List.mem_cons, List.not_mem_nil, or_false] at hx
    rcases hx with rfl | rfl | rfl | rfl <;> assumption
  refine ⟨fun hb => ?_, fun hb e => ?_, fun hb e => ?_⟩
  · have hq : ¬ InK (keyI ax ay) (keyI bx ey) (keyI cx cy) (keyI dx dy) (keyI q.1 q.2) := fun h => by
      have := (K mq).2 h; rw [hb] at this; simp at this
    obtain ⟨J1, J2, J3, J4⟩ := I1 hq
    have hn : endsF (bothB ax ay bx ey cx cy dx dy) [(ax, ay), (bx, ey), (cx, cy), (dx, dy)] = [] := ends_none (fun x hx => by
      rcases hbx : bothB ax ay bx ey cx cy dx dy x with _ | _
      · rfl
      · exfalso
        have := (K hx).1 hbx
        simp only [List.mem_cons, List.not_mem_nil, or_false] at hx
        rcases hx with rfl | rfl | rfl | rfl
        · exact J1 this
        · exact J2 this
        · exact J3 this
        · exact J4 this)
    unfold meetI
    rw [hn]
    simp only [List.length_nil, if_true]
    rw [if_neg]
    rintro ⟨k1, k2⟩
    have := (sgn_prod _ _).2.2.1 k1
    omega
  · refine meet_one mq hb fun x hx hbx => ?_
    have hin := (K hx).1 hbx
    obtain ⟨J1, J2, J3, J4⟩ := I2 (by rw [e])
    have hkey : keyI x.1 x.2 = keyI q.1 q.2 := by
      have hx' := hx
      simp only [List.mem_cons, List.not_mem_nil, or_false] at hx'
      rcases hx' with rfl | rfl | rfl | rfl
      · exact J1 hin
      · exact J2 hin
      · exact J3 hin
      · exact J4 hin
    obtain ⟨e1, e2⟩ := key_inj (hok x hx) (hok q mq) hkey
    exact Prod.ext e1 e2
  · have hr : bothB ax ay bx ey cx cy dx dy r = true := (K mr).2 (I3 ((K mq).1 hb))
    have h2 := ends_two mq hb mr hr e
    unfold meetI
    rw [if_neg (by omega), if_neg (by omega)]
end
end Go.Proofs.Ytjhboedaaeaomaa
