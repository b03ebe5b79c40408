/- Flows: plain sums over edges and over the keys of a map. -/
import Derived.Test.YtdeemhfhmgnbgaaZa
namespace Go.Proofs.Ytdeemhfhmgnbgaa
open Go.RowKit Go.Maps
set_option linter.unusedVariables false
def befB (x y u v : Int) : Bool := decide (y < v ∨ (y = v ∧ x < u))
def befE (e : AEdge) : Bool := befB e.1 e.2.1 e.2.2.1 e.2.2.2
def revE (e : AEdge) : AEdge := (e.2.2.1, e.2.2.2, e.1, e.2.1)
def nrmE (e : AEdge) : AEdge := bif befE e then e else revE e
def sgE (e : AEdge) : Int := bif befE e then 1 else -1
def pt1 (e f : AEdge) : Int := if nrmE f = e then sgE f else 0
/-- How often a segment is passed, more one way than the other. -/
def netOf (es : List AEdge) (e : AEdge) : Int := (es.map (pt1 e)).sum
theorem okE_nrm {e : AEdge} (h : okE e) : okE (nrmE e) := by
  unfold nrmE; cases befE e
  · exact ⟨h.2, h.1⟩
  · exact h
theorem netOf_snoc (es : List AEdge) (f e : AEdge) : netOf (es ++ [f]) e = netOf es e + pt1 e f := by
  unfold netOf; rw [List.map_append, isum_app]; simp
theorem sg_bound (e : AEdge) : -1 ≤ sgE e ∧ sgE e ≤ 1 := by unfold sgE; cases befE e <;> simp
theorem pt1_bound (e f : AEdge) : -1 ≤ pt1 e f ∧ pt1 e f ≤ 1 := by
  unfold pt1; split
  · exact sg_bound f
  · simp
theorem netOf_bound (e : AEdge) : ∀ es : List AEdge, -(es.length : Int) ≤ netOf es e ∧ netOf es e ≤ es.length
  | [] => by simp [netOf]
  | f :: es => by
    have a := netOf_bound e es
    have b := pt1_bound e f
    unfold netOf at *
    simp only [List.map_cons, List.sum_cons, List.length_cons]
    omega
def ddup : List AEdge → List AEdge
  | [] => []
  | a :: l => if a ∈ l then ddup l else a :: ddup l
theorem ddup_mem {a : AEdge} : ∀ {l : List AEdge}, a ∈ ddup l ↔ a ∈ l
  | [] => by simp [ddup]
  | b :: l => by
    unfold ddup
    split
    · rename_i h
      rw [ddup_mem, List.mem_cons]
      exact ⟨.inr, fun q => q.elim (fun e => e ▸ h) id⟩
    · rw [List.mem_cons, List.mem_cons, ddup_mem]
theorem ddup_nodup : ∀ l : List AEdge, (ddup l).Nodup
  | [] => by simp [ddup]
  | b :: l => by
    unfold ddup
    split
    · exact ddup_nodup l
    · rename_i h
      exact List.nodup_cons.2 ⟨fun q => h (ddup_mem.1 q), ddup_nodup l⟩
theorem ddup_len : ∀ l : List AEdge, (ddup l).length ≤ l.length
  | [] => by simp [ddup]
  | b :: l => by
    have := ddup_len l
    unfold ddup
    split
    · simp only [List.length_cons]; omega
    · simp only [List.length_cons]; omega
/-- The keys of the flow, each once. -/
def keysOf (es : List AEdge) : List AEdge := ddup (es.map nrmE)
theorem keys_nodup (es : List AEdge) : (keysOf es).Nodup := ddup_nodup _
theorem keys_mem {es : List AEdge} {e : AEdge} : e ∈ keysOf es ↔ e ∈ es.map nrmE := ddup_mem
theorem keys_len (es : List AEdge) : (keysOf es).length ≤ es.length := by
  have := ddup_len (es.map nrmE)
  rw [List.length_map] at this
  exact this
theorem sum_at {a : AEdge} {g : AEdge → Int} : ∀ {K : List AEdge}, K.Nodup → (K.map fun e => if a = e then g e else 0).sum = if a ∈ K then g a else 0
  | [], _ => by simp
  | b :: K, h => by
    obtain ⟨h1, h2⟩ := List.nodup_cons.1 h
    simp only [List.map_cons, List.sum_cons]
    rw [sum_at h2]
    by_cases e : a = b
    · subst e; simp [h1]
    · simp [e]
theorem sum_zero {K : List AEdge} {g : AEdge → Int} (h : ∀ e ∈ K, g e = 0) : (K.map g).sum = 0 := by
  induction K with
  | nil => rfl
  | cons b K ih =>
    simp only [List.map_cons, List.sum_cons]
    rw [h b (List.mem_cons_self ..), ih (fun e he => h e (List.mem_cons_of_mem _ he))]; rfl
theorem sum_add (K : List AEdge) (f g : AEdge → Int) : (K.map fun e => f e + g e).sum = (K.map f).sum + (K.map g).sum := by
  induction K with
  | nil => rfl
  | cons b K ih => simp only [List.map_cons, List.sum_cons]; rw [ih]; omega
theorem sum_congr {K : List AEdge} {f g : AEdge → Int} (h : ∀ e ∈ K, f e = g e) : (K.map f).sum = (K.map g).sum := by
  rw [List.map_congr_left h]
/-- The sum over the keys is that over the edges. -/
theorem sum_swap (wt : AEdge → Int) {K : List AEdge} (hn : K.Nodup) : ∀ es : List AEdge, (∀ f ∈ es, nrmE f ∈ K) → (K.map fun e => netOf es e * wt e).sum = (es.map fun f => sgE f * wt (nrmE f)).sum
  | [], _ => by rw [sum_zero (fun e _ => by simp [netOf])]; rfl
  | f :: es, h => by
    have ih := sum_swap wt hn es (fun g hg => h g (List.mem_cons_of_mem _ hg))
    have e1 : (K.map fun e => netOf (f :: es) e * wt e).sum = (K.map fun e => (if nrmE f = e then sgE f * wt e else 0) + netOf es e * wt e).sum := by
      refine sum_congr (fun e _ => ?_)
      unfold netOf
      simp only [List.map_cons, List.sum_cons, Int.add_mul]
      congr 1
      unfold pt1
      by_cases c : nrmE f = e <;> simp [c]
    rw [e1, sum_add, ih, sum_at (a := nrmE f) (g := fun e => sgE f * wt e) hn, if_pos (h f (List.mem_cons_self ..))]
    simp
/-- What is still to come. -/
def restOf (K : List AEdge) (g : AEdge → Int) (left : Lit → Bool) : Int := (K.map fun e => if left (klE e) then g e else 0).sum
theorem rest_none {K : List AEdge} {g : AEdge → Int} {left : Lit → Bool} (h : ∀ kl, left kl = false) : restOf K g left = 0 := sum_zero (fun e _ => by simp [h])
theorem rest_step {K : List AEdge} {g : AEdge → Int} {left : Lit → Bool} {a : AEdge} (hn : K.Nodup) (ha : a ∈ K) (hi : ∀ e ∈ K, in64 e) (hl : left (klE a) = true) :
    restOf K g left = g a + restOf K g (fun z => left z && !z.sameKey (klE a)) := by
  unfold restOf
  have e1 : (K.map fun e => if left (klE e) then g e else 0).sum = (K.map fun e => (if a = e then g e else 0) + (if (left (klE e) && !(klE e).sameKey (klE a)) then g e else 0)).sum := by
    refine sum_congr (fun e he => ?_)
    rw [same_klE (hi e he) (hi a ha)]
    by_cases c : a = e
    · subst c; simp [hl]
    · have c2 : ¬ e = a := fun h => c h.symm
      simp [c, c2]
  rw [e1, sum_add, sum_at hn, if_pos ha]
theorem rest_bound {g : AEdge → Int} {left : Lit → Bool} {N : Nat} : ∀ {K : List AEdge}, (∀ e ∈ K, -(N : Int) ≤ g e ∧ g e ≤ N) → -((K.length : Int) * N) ≤ restOf K g left ∧ restOf K g left ≤ (K.length : Int) * N
  | [], _ => by simp [restOf]
  | b :: K, h => by
    have a := rest_bound (left := left) (K := K) (fun e he => h e (List.mem_cons_of_mem _ he))
    have c := h b (List.mem_cons_self ..)
    have e1 : restOf (b :: K) g left = (if left (klE b) then g b else 0) + restOf K g left := by unfold restOf; simp
    have e2 : (((b :: K).length : Nat) : Int) * N = N + (K.length : Int) * N := by rw [List.length_cons]; push_cast; grind
    rw [e1, e2]
    split <;> omega
/-- What the map of a flow reads as. -/
structure FlowIs (D : DataW Unit) (es : List AEdge) : Prop where
  ismap : IsMap D
  has : ∀ kl, Maps.has D kl = true → ∃ e ∈ keysOf es, kl = klE e
  all : ∀ e ∈ keysOf es, Maps.has D (klE e) = true
  at_ : ∀ e, in64 e → D.atKey (klE e) (.lit (.int .i64 0)) = .lit (.int .i64 (netOf es e))
theorem flow_nil : FlowIs (.map []) [] := ⟨isMap_empty, fun kl h => by simp [Maps.has] at h, fun e he => by simp [keysOf, ddup] at he, fun e _ => rfl⟩
theorem flow_snoc {D : DataW Unit} {es : List AEdge} {f : AEdge} (h : FlowIs D es) (hes : ∀ e ∈ es, okE e) (hf : okE f) :
    FlowIs (D.put (klE (nrmE f)) (.lit (.int .i64 (netOf es (nrmE f) + sgE f)))) (es ++ [f]) := by
  have hfi := okE_in (okE_nrm hf)
  have hk := klE_is _ hfi
  refine ⟨h.ismap.put _ _, fun kl hkl => ?_, fun e he => ?_, fun e he => ?_⟩
  · by_cases c : kl = klE (nrmE f)
    · exact ⟨nrmE f, keys_mem.2 (by simp), c⟩
    · rw [has_put_other c] at hkl
      obtain ⟨e, he, rfl⟩ := h.has kl hkl
      refine ⟨e, keys_mem.2 ?_, rfl⟩
      have := keys_mem.1 he
      simp only [List.map_append, List.mem_append]; exact .inl this
  · by_cases c : e = nrmE f
    · subst c; exact has_put_same h.ismap hk _
    · have hm := keys_mem.1 he
      simp only [List.map_append, List.mem_append, List.map_cons, List.map_nil, List.mem_singleton] at hm
      rcases hm with hm | hm
      · obtain ⟨g, hg, rfl⟩ := List.mem_map.1 hm
        have hgi := okE_in (okE_nrm (hes g hg))
        rw [has_put_other (fun e => c (klE_inj hgi hfi e))]
        exact h.all _ (keys_mem.2 hm)
      · exact absurd hm c
  · rw [netOf_snoc]
    by_cases c : e = nrmE f
    · subst c
      rw [atKey_put_same h.ismap hk]
      unfold pt1; rw [if_pos rfl]
    · rw [atKey_put_other (fun q => c (klE_inj he hfi q)), h.at_ e he]
      unfold pt1; rw [if_neg (fun q => c q.symm)]; simp
theorem keys_ok {es : List AEdge} (hes : ∀ e ∈ es, okE e) {e : AEdge} (he : e ∈ keysOf es) : okE e := by
  obtain ⟨g, hg, rfl⟩ := List.mem_map.1 (keys_mem.1 he)
  exact okE_nrm (hes g hg)
/-- Does the way to the right pass this segment: seen from a doubled point? -/
def cutB (P Q : Int) (e : AEdge) : Bool := decide (2 * e.2.1 ≤ Q) && (decide (Q < 2 * e.2.2.2) && decide (0 < crI (2 * e.2.2.1 - 2 * e.1) (2 * e.2.2.2 - 2 * e.2.1) (P - 2 * e.1) (Q - 2 * e.2.1)))
def wtE (P Q : Int) (e : AEdge) : Int := bif cutB P Q e then 1 else 0
/-- The winding number directly around a doubled point. -/
def aroundI (es : List AEdge) (P Q : Int) : Int := ((keysOf es).map fun e => netOf es e * wtE P Q e).sum
theorem around_sum (es : List AEdge) (P Q : Int) : aroundI es P Q = (es.map fun f => sgE f * wtE P Q (nrmE f)).sum :=
  sum_swap _ (keys_nodup es) es (fun f hf => keys_mem.2 (List.mem_map.2 ⟨f, hf, rfl⟩))
def windE (px py : Int) (e : AEdge) : Int :=
  if e.2.1 ≤ py ∧ py < e.2.2.2 ∧ 0 < turnI e.1 e.2.1 e.2.2.1 e.2.2.2 px py then 1
  else if e.2.2.2 ≤ py ∧ py < e.2.1 ∧ turnI e.1 e.2.1 e.2.2.1 e.2.2.2 px py < 0 then -1 else 0
def windS (es : List AEdge) (px py : Int) (k : Nat) : Int := ((es.take k).map (windE px py)).sum
def windI (es : List AEdge) (px py : Int) : Int := windS es px py es.length
theorem cr_four (x y u v px py : Int) : crI (2 * u - 2 * x) (2 * v - 2 * y) (2 * px - 2 * x) (2 * py - 2 * y) = 4 * turnI x y u v px py := by
  unfold crI turnI; grind
theorem turn_rev (x y u v px py : Int) : turnI u v x y px py = -(turnI x y u v px py) := by unfold turnI; grind
theorem wt_if (px py x y u v : Int) : wtE (2 * px) (2 * py) (x, y, u, v) = if y ≤ py ∧ py < v ∧ 0 < turnI x y u v px py then 1 else 0 := by
  have h : cutB (2 * px) (2 * py) (x, y, u, v) = true ↔ y ≤ py ∧ py < v ∧ 0 < turnI x y u v px py := by
    unfold cutB
    simp only [Bool.and_eq_true, decide_eq_true_eq, cr_four]
    generalize turnI x y u v px py = t
    omega
  unfold wtE
  by_cases c : y ≤ py ∧ py < v ∧ 0 < turnI x y u v px py
  · rw [h.2 c, if_pos c]; rfl
  · rw [if_neg c]
    cases hc : cutB (2 * px) (2 * py) (x, y, u, v)
    · rfl
    · exact absurd (h.1 hc) c
theorem wind_is (px py : Int) (e : AEdge) : sgE e * wtE (2 * px) (2 * py) (nrmE e) = windE px py e := by
  obtain ⟨x, y, u, v⟩ := e
  unfold sgE windE nrmE
  cases hb : befE (x, y, u, v)
  · have hb' : ¬ (y < v ∨ (y = v ∧ x < u)) := by simpa [befE, befB] using hb
    simp only [cond_false, revE, wt_if, turn_rev x y u v px py]
    generalize turnI x y u v px py = t
    by_cases c1 : v ≤ py ∧ py < y ∧ t < 0
    · rw [if_pos (by omega), if_neg (by omega), if_pos c1]; rfl
    · rw [if_neg (by omega), if_neg (by omega), if_neg c1]; rfl
  · have hb' : y < v ∨ (y = v ∧ x < u) := by simpa [befE, befB] using hb
    simp only [cond_true, wt_if]
    generalize turnI x y u v px py = t
    by_cases c1 : y ≤ py ∧ py < v ∧ 0 < t
    · rw [if_pos c1, if_pos c1]; rfl
    · rw [if_neg c1, if_neg c1, if_neg (by omega)]; rfl
theorem around_wind (es : List AEdge) (px py : Int) : aroundI es (2 * px) (2 * py) = windI es px py := by
  rw [around_sum]
  unfold windI windS
  rw [List.take_length]
  exact sum_congr (fun e _ => wind_is px py e)
theorem windE_bound (px py : Int) (e : AEdge) : -1 ≤ windE px py e ∧ windE px py e ≤ 1 := by
  unfold windE; split
  · simp
  · split <;> simp
theorem windS_succ {es : List AEdge} {px py : Int} {k : Nat} {e : AEdge} (h : es[k]? = some e) : windS es px py k + windE px py e = windS es px py (k + 1) := by
  unfold windS; rw [List.take_add_one, h, List.map_append, isum_app]; simp
theorem windS_bound (es : List AEdge) (px py : Int) : ∀ k : Nat, -(k : Int) ≤ windS es px py k ∧ windS es px py k ≤ k
  | 0 => by simp [windS]
  | k + 1 => by
    have a := windS_bound es px py k
    rcases hk : es[k]? with _ | e
    · have : windS es px py (k + 1) = windS es px py k := by unfold windS; rw [List.take_add_one, hk]; simp
      rw [this]; omega
    · have b := windE_bound px py e
      rw [← windS_succ hk]; omega
end Go.Proofs.Ytdeemhfhmgnbgaa
