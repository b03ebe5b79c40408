/- Walks: the winding number around a doubled point, out of a flow: a map is ranged over. -/
import Derived.Test.YtdeemhfhmgnbgaaZc
namespace Go.Proofs.Ytdeemhfhmgnbgaa
open Go.RowKit Go.Maps Go.Sort
set_option linter.unusedVariables false
/-- The step of a range over a map whose keys are edges of a list. -/
theorem wpList_next_edges {w : World} {ops : Array Oper} {rest : List Oper} {o : Oper} {a : Act} {Q : Exit → Act → World → Prop} (hg : o.guard = none) (it : Operand) (hop : o.op = Op.next it false) (KS : List AEdge) (hks : ∀ e ∈ KS, in64 e)
    (b r n : Nat) (D : DataW Unit) (left : Lit → Bool) (cnt : Nat) (hit : a.eval it = .pointer (some ⟨r, 0, none⟩)) (h : w.ranges Try.prog 114 (plainElem Try.prog 2) b r n D left cnt)
    (hkeys : ∀ l, left l = true → ∃ e ∈ KS, l = klE e)
    (hDone : cnt = 0 → (∀ kl, left kl = false) → wpList Try.prog ops Q rest (a.put o.dst (.tuple #[.bool false])) w)
    (hMore : ∀ (x0 x1 x2 x3 c : Int) (w' : World) (cnt' : Nat), (x0, x1, x2, x3) ∈ KS → left (klE (x0, x1, x2, x3)) = true → (∀ zd, D.atKey (klE (x0, x1, x2, x3)) zd = .lit (.int .i64 c)) → w'.ranges Try.prog 114 (plainElem Try.prog 2) b r n D (fun z => left z && !z.sameKey (klE (x0, x1, x2, x3))) cnt' → cnt' < cnt →
      w.grownBy w' (some r) → w'.heap.size = w.heap.size → (Instr.entry (.pointer (some ⟨r, 0, none⟩))).run Try.prog w' = .ok (.tuple #[.agg #[.int .i64 x0, .int .i64 x1, .int .i64 x2, .int .i64 x3], .int .i64 c]) w' → wpList Try.prog ops Q rest (a.put o.dst (.tuple #[.bool true, .agg #[.int .i64 x0, .int .i64 x1, .int .i64 x2, .int .i64 x3], .int .i64 c])) w') :
    wpList Try.prog ops Q (o :: rest) a w := by
  refine wpList_plain hg fun K' hK' => ?_
  unfold Oper.wp
  rcases h.next lawEdge o.type with ⟨h0, hl, hrun⟩ | ⟨key, v, kl, y, w', cnt', hkey, hlk, hv, hat, hrun, hrg, hlt, hgr, hsz, hen⟩
  · simp [execOp, hop, hit, hrun, Result.andThen]
    exact hK' _ _ (hDone h0 hl)
  · obtain ⟨⟨x0, x1, x2, x3⟩, he, rfl⟩ := hkeys kl hlk
    obtain rfl : key = evE (x0, x1, x2, x3) := lawEdge.inj hkey (keyE _ (hks _ he))
    obtain ⟨c, rfl, hc, hwc⟩ := plainElem_int_inv Try.underlying2 hv
    simp [execOp, hop, hit, hrun, Result.andThen]
    refine hK' _ _ (hMore x0 x1 x2 x3 c w' cnt' he hlk (fun zd => ?_) hrg hlt hgr hsz hen)
    rw [hat zd, hc]
theorem below_row {b r : Nat} {w w1 w2 : World} (h : Below b w w1) (hg : w1.grownBy w2 (some r)) (hb : b ≤ r) (hb2 : b ≤ w1.heap.size) : Below b w w2 :=
  h.trans ⟨hg.os, hg.tape, hg.output, hg.size, fun k hk => hg.block k (by omega) (fun e => by have := Option.some.inj e; omega)⟩
theorem AtL.row {g r : Nat} {vs : List Value} {w w' : World} (h : AtL g vs w) (hg : w.grownBy w' (some r)) (hne : ¬ g = r) : AtL g vs w' :=
  ⟨fun i v hv => (World.cell?_of_block (hg.block g h.2 (fun e => hne (Option.some.inj e)))).trans (h.1 i v hv), Nat.lt_of_lt_of_le h.2 hg.size⟩
theorem prodB {a b : Int} (h1 : -2097152 ≤ a) (h2 : a ≤ 2097152) (h3 : -2097152 ≤ b) (h4 : b ≤ 2097152) : -4398046511104 ≤ a * b ∧ a * b ≤ 4398046511104 := mulB (A := 2097152) (B := 2097152) h1 h2 h3 h4
theorem wt_yes {P Q : Int} {e : AEdge} (h : cutB P Q e = true) (g : Int) : g * wtE P Q e = g := by unfold wtE; rw [h]; simp
theorem wt_no {P Q : Int} {e : AEdge} (h : cutB P Q e = false) (g : Int) : g * wtE P Q e = 0 := by unfold wtE; rw [h]; simp
theorem wt_abs {P Q : Int} {e : AEdge} {es : List AEdge} : -(es.length : Int) ≤ netOf es e * wtE P Q e ∧ netOf es e * wtE P Q e ≤ es.length := by
  have := netOf_bound e es
  cases h : cutB P Q e
  · rw [wt_no h]; omega
  · rw [wt_yes h]; omega
set_option maxRecDepth 100000 in
set_option maxHeartbeats 12800000 in
theorem around_any (es : List AEdge) (D : DataW Unit) (B n : Nat) (P Q : Int) (w : World) (hes : ∀ e ∈ es, okE e) (hl : es.length ≤ 400) (hP : -1048576 ≤ P ∧ P ≤ 1048576) (hQ : -1048576 ≤ Q ∧ Q ≤ 1048576)
    (own : w.ownsMap Try.prog 114 (plainElem Try.prog 2) B n D) (hfl : FlowIs D es) :
    Calls Try.prog 96 #[.map (some B), .agg #[.int .i64 P, .int .i64 Q]] w fun e w' => e = .returned (.int .i64 (aroundI es P Q)) ∧ Below w.heap.size w w' := by
  have hBw := own.lt
  obtain ⟨T, hT⟩ : ∃ T, T = aroundI es P Q := ⟨_, rfl⟩
  have HT := Lib.hid hT
  rw [← hT]
  clear hT
  have HKS := Lib.hid (fun (e : AEdge) (he : e ∈ keysOf es) => keys_ok hes he)
  have HFL := Lib.hid hfl
  have HL := Lib.hid hl
  clear hfl hes hl
  go_enter Try.func96, Try.ntmps96
  go_wp2_with (at_range; refine wpList_range_own _ rfl _ 131 rfl 114 2 lawEdge Try.underlying131 _ B n D rfl (own.alloc _) ?_; intro w0 hrg0 hg0 hs0)
  go_frame
  have hz0 : (w.alloc (.cells #[.int .i64 P, .int .i64 Q] 26)).heap.size = w.heap.size + 1 := by simp
  have at0 : AtL w.heap.size [.int .i64 P, .int .i64 Q] w0 := (AtL.new w [.int .i64 P, .int .i64 Q] 26).below (below_of_grown (Below.refl _ _) hg0 (Nat.le_refl _) (fun q hq => (by cases hq)))
  have g0 : Below w.heap.size w w0 := below_of_grown ((Below.refl _ _).alloc (Nat.le_refl _) _) hg0 (by simp) (fun q hq => (by cases hq))
  rw [hz0] at hrg0 ⊢
  clear hg0 hs0 own hz0
  go_loopw [5] (fun sv wr => ∃ (left : Lit → Bool) (cnt : Nat) (s : Int), sv = .int .i64 s ∧ s + restOf (keysOf es) (fun e => netOf es e * wtE P Q e) left = T ∧ (∀ l, left l = true → ∃ e ∈ keysOf es, l = klE e) ∧ wr.ranges Try.prog 114 (plainElem Try.prog 2) B (w.heap.size + 1) n D left cnt ∧ AtL w.heap.size [.int .i64 P, .int .i64 Q] wr ∧ Below w.heap.size w wr) (fun _ wr => wr.rangeLeft B (w.heap.size + 1))
  case atStart =>
    refine ⟨_, _, 0, rfl, ?_, HFL.out.has, hrg0, at0, g0⟩
    rw [HT.out]
    unfold restOf aroundI
    rw [Int.zero_add]
    exact sum_congr (fun e he => if_pos (HFL.out.all e he))
  case round =>
    clear hrg0 at0 g0
    obtain ⟨left, cnt, s, rfl, hsum, hkeys, hrg, at1, g1⟩ := hrel
    have HSUM := Lib.hid hsum
    have zw := g1.size
    have hsb : -320000 ≤ s ∧ s ≤ 320000 := by
      have a := rest_bound (N := es.length) (left := left) (K := keysOf es) (g := fun e => netOf es e * wtE P Q e) (fun e _ => wt_abs)
      have b := rest_bound (N := es.length) (left := fun _ => true) (K := keysOf es) (g := fun e => netOf es e * wtE P Q e) (fun e _ => wt_abs)
      have c : restOf (keysOf es) (fun e => netOf es e * wtE P Q e) (fun _ => true) = T := by rw [HT.out]; unfold restOf aroundI; exact sum_congr (fun e he => if_pos rfl)
      have d := keys_len es
      have e1 : ((keysOf es).length : Int) * (es.length : Int) ≤ 160000 := by
        have h1 : (keysOf es).length * es.length ≤ 400 * 400 := Nat.mul_le_mul (by have := HL.out; omega) HL.out
        have h2 : (((keysOf es).length * es.length : Nat) : Int) = ((keysOf es).length : Int) * (es.length : Int) := Int.natCast_mul _ _
        omega
      rw [c] at b
      omega
    clear hsum
    go_wp2_with (at_next; refine wpList_next_edges rfl _ rfl (keysOf es) (fun e he => okE_in (HKS.out e he)) B (w.heap.size + 1) n D left cnt rfl hrg hkeys ?_ ?_)
    · intro hc0 hl0
      have HR := Lib.hid (show s = T by rw [← HSUM.out, rest_none hl0]; omega)
      go_wp2_with fail
      go_ret
      exact ⟨ret_i64 HR.out, g1⟩
    · intro x0 x1 x2 x3 c w1 cnt1 hmem hlx hat hrg1 hlt hg1 hs1 hen
      have hok := HKS.out _ hmem
      have hcn : c = netOf es (x0, x1, x2, x3) := by
        have h1 := HFL.out.at_ _ (okE_in hok)
        rw [hat] at h1
        injection h1 with h1; injection h1
      have hcb := netOf_bound (x0, x1, x2, x3) es
      rw [← hcn] at hcb
      have hl4 := HL.out
      have HSTEP := Lib.hid (show s + (netOf es (x0, x1, x2, x3) * wtE P Q (x0, x1, x2, x3) + restOf (keysOf es) (fun e => netOf es e * wtE P Q e) (fun z => left z && !z.sameKey (klE (x0, x1, x2, x3)))) = T by
        rw [← HSUM.out, rest_step (keys_nodup es) hmem (fun e he => okE_in (HKS.out e he)) hlx])
      rw [← hcn] at HSTEP
      have HKEY := Lib.hid (show ∀ l, (left l && !l.sameKey (klE (x0, x1, x2, x3))) = true → ∃ e ∈ keysOf es, l = klE e from fun l h => hkeys l (by simp only [Bool.and_eq_true] at h; exact h.1))
      have at2 := at1.row hg1 (by omega)
      have g2 : Below w.heap.size w w1 := below_row g1 hg1 (by omega) (by omega)
      have HRG := Lib.hid hrg1
      have HMEA := Lib.hid (show cnt1 < wr.rangeLeft B (w.heap.size + 1) by rw [hrg.left_eq]; exact hlt)
      have o1 := okB_bounds hok.1
      have o2 := okB_bounds hok.2
      simp only at o1 o2
      clear hcn hmem hlx hat hrg1 hlt hg1 hs1 hkeys hrg at1 g1 hok hl4
      have b6 : IntKind.i64.wrap (s + c) = s + c := IntWalk.i64_in _ (by have := HL.out; omega)
      clear hcb hsb
      go_upto_region 5 with fail
      generalize hW : w1.alloc (.cells #[.int .i64 x0, .int .i64 x1, .int .i64 x2, .int .i64 x3] 114) = WE
      obtain ⟨G, hG⟩ : ∃ G, G = w1.heap.size := ⟨_, rfl⟩
      have bkE : Blk WE G 114 #[.int .i64 x0, .int .i64 x1, .int .i64 x2, .int .i64 x3] := by rw [← hW, hG]; exact Blk.new _ _ _
      have atE : AtL w.heap.size [.int .i64 P, .int .i64 Q] WE := by rw [← hW]; exact at2.alloc _
      have zg2 := g2.size
      have gE : Below w.heap.size w WE := by rw [← hW]; repeat' (first | with_reducible assumption | with_reducible exact Below.refl _ _ | (with_reducible refine Below.setCell ?_ ?_ _) | (with_reducible refine Below.alloc ?_ ?_ _) | (with_reducible refine Below.drew ?_) | (with_reducible refine below_dr ?_ _) | (with_reducible refine Below.trans ?_ (Below.mono (by with_reducible assumption) ?_)) | omega | (simp; done) | (simp; omega))
      have HRE := Lib.hid (show WE.ranges Try.prog 114 (plainElem Try.prog 2) B (w.heap.size + 1) n D (fun z => left z && !z.sameKey (klE (x0, x1, x2, x3))) cnt1 by rw [← hW]; exact HRG.out.alloc _)
      rw [← hG]
      clear hW hG at2 g2 HRG hen
      have s0 := bkE.cell 0 rfl
      have s1 := bkE.cell 1 rfl
      have s2 := bkE.cell 2 rfl
      have s3 := bkE.cell 3 rfl
      have lE := bkE.lt
      have CT1 := Lib.hid (fun w => timesZ_any x0 x1 2 w (IntWalk.i64_in _ (by omega)) (IntWalk.i64_in _ (by omega)))
      have CT2 := Lib.hid (fun w => timesZ_any x2 x3 2 w (IntWalk.i64_in _ (by omega)) (IntWalk.i64_in _ (by omega)))
      obtain ⟨a0, ha0⟩ : ∃ a, a = 2 * x0 := ⟨_, rfl⟩
      obtain ⟨a1, ha1⟩ : ∃ a, a = 2 * x1 := ⟨_, rfl⟩
      obtain ⟨a2, ha2⟩ : ∃ a, a = 2 * x2 := ⟨_, rfl⟩
      obtain ⟨a3, ha3⟩ : ∃ a, a = 2 * x3 := ⟨_, rfl⟩
      rw [← ha0, ← ha1] at CT1
      rw [← ha2, ← ha3] at CT2
      have HCUT := Lib.hid (show cutB P Q (x0, x1, x2, x3) = (decide (a1 ≤ Q) && (decide (Q < a3) && decide (0 < crI (a2 - a0) (a3 - a1) (P - a0) (Q - a1)))) by unfold cutB; rw [ha0, ha1, ha2, ha3])
      have d0 : -524288 ≤ a0 ∧ a0 ≤ 524288 := by omega
      have d1 : -524288 ≤ a1 ∧ a1 ≤ 524288 := by omega
      have d2 : -524288 ≤ a2 ∧ a2 ≤ 524288 := by omega
      have d3 : -524288 ≤ a3 ∧ a3 ≤ 524288 := by omega
      have CM1 := Lib.hid (fun w => minusZ_any a2 a3 a0 a1 w (IntWalk.i64_in _ (by omega)) (IntWalk.i64_in _ (by omega)))
      have CM2 := Lib.hid (fun w => minusZ_any P Q a0 a1 w (IntWalk.i64_in _ (by omega)) (IntWalk.i64_in _ (by omega)))
      have CC := Lib.hid (fun w => crossZ_any (a2 - a0) (a3 - a1) (P - a0) (Q - a1) w (IntWalk.i64_in _ (by have := prodB (a := a2 - a0) (b := Q - a1) (by omega) (by omega) (by omega) (by omega); omega)) (IntWalk.i64_in _ (by have := prodB (a := a3 - a1) (b := P - a0) (by omega) (by omega) (by omega) (by omega); omega)) (IntWalk.i64_in _ (by have := prodB (a := a2 - a0) (b := Q - a1) (by omega) (by omega) (by omega) (by omega); have := prodB (a := a3 - a1) (b := P - a0) (by omega) (by omega) (by omega) (by omega); omega)))
      generalize crI (a2 - a0) (a3 - a1) (P - a0) (Q - a1) = cr at CC HCUT
      clear ha0 ha1 ha2 ha3 d0 d1 d2 d3 o1 o2 hP hQ
      go_cut [8, 9] (fun pa pb wx => ∃ q1 q2 : Nat, pa = .pointer (some ⟨q1, 0, none⟩) ∧ pb = .pointer (some ⟨q2, 0, none⟩) ∧ Blk wx q1 26 #[.int .i64 a0, .int .i64 a1] ∧ Blk wx q2 26 #[.int .i64 a2, .int .i64 a3] ∧ Below WE.heap.size WE wx)
      case first =>
        go_region_held3 (fun w' => (∀ b o, b < WE.heap.size → w'.cell? ⟨b, o, none⟩ = WE.cell? ⟨b, o, none⟩) ∧ WE.heap.size ≤ w'.heap.size)
          (first | ((try dsimp only); exact ⟨fun b o h => (by (repeat (first | with_reducible exact rfl | (with_reducible refine (cell_drew_at _ _).trans ?_) | (with_reducible refine (cell_set_at _ _ (by first | omega | (simp; done) | (simp; omega))).trans ?_) | (with_reducible refine (cell_alloc_at _ _ (by first | omega | (simp; done) | (simp; omega))).trans ?_) | (with_reducible refine (hcwA b o (by first | omega | (simp; done) | (simp; omega))).trans ?_) | (with_reducible refine (hcwC b o (by first | omega | (simp; done) | (simp; omega))).trans ?_)))), (by first | omega | (simp; done) | (simp; omega))⟩) | fail)
          (first
            | (go_at_call 97; (with_reducible refine (CT1.out _).mono ?_); rintro e wA ⟨rfl, hbwA⟩; obtain ⟨hcwA, hfwA⟩ := bcell hbwA; have hzwA := hbwA.size; (try simp only [World.size_drew] at hcwA hzwA); (try simp only [World.size_alloc] at hcwA hzwA); (try have qWE0wA : WE.heap.size < wA.heap.size := (by omega)); (try have qWE1wA : WE.heap.size + 1 < wA.heap.size := (by omega)); (try have qwC0wA : wC.heap.size < wA.heap.size := (by omega)); (try have qwC1wA : wC.heap.size + 1 < wA.heap.size := (by omega)))
            | (go_at_call 97; (with_reducible refine (CT2.out _).mono ?_); rintro e wC ⟨rfl, hbwC⟩; obtain ⟨hcwC, hfwC⟩ := bcell hbwC; have hzwC := hbwC.size; (try simp only [World.size_drew] at hcwC hzwC); (try simp only [World.size_alloc] at hcwC hzwC); (try have qWE0wC : WE.heap.size < wC.heap.size := (by omega)); (try have qWE1wC : WE.heap.size + 1 < wC.heap.size := (by omega)); (try have qwA0wC : wA.heap.size < wC.heap.size := (by omega)); (try have qwA1wC : wA.heap.size + 1 < wC.heap.size := (by omega))))
        all_goals
          go_wp2_with fail
          go_meet
        all_goals exact ⟨_, _, rfl, rfl, by repeat' (first | with_reducible assumption | with_reducible exact Blk.new _ _ _ | ((with_reducible refine Blk.newAt _ _ _ ?_); (first | rfl | (simp; done))) | (with_reducible apply Blk.set2) | (with_reducible refine Blk.drew ?_) | (with_reducible refine Blk.carry ?_ (by with_reducible assumption)) | (with_reducible refine Blk.alloc ?_ _) | (with_reducible refine Blk.far ?_ ?_ _) | omega | (simp; done) | (simp; omega)), by repeat' (first | with_reducible assumption | with_reducible exact Blk.new _ _ _ | ((with_reducible refine Blk.newAt _ _ _ ?_); (first | rfl | (simp; done))) | (with_reducible apply Blk.set2) | (with_reducible refine Blk.drew ?_) | (with_reducible refine Blk.carry ?_ (by with_reducible assumption)) | (with_reducible refine Blk.alloc ?_ _) | (with_reducible refine Blk.far ?_ ?_ _) | omega | (simp; done) | (simp; omega)), by repeat' (first | with_reducible assumption | with_reducible exact Below.refl _ _ | (with_reducible refine Below.setCell ?_ ?_ _) | (with_reducible refine Below.alloc ?_ ?_ _) | (with_reducible refine Below.drew ?_) | (with_reducible refine below_dr ?_ _) | (with_reducible refine Below.trans ?_ (Below.mono (by with_reducible assumption) ?_)) | omega | (simp; done) | (simp; omega))⟩
      case rest =>
        obtain ⟨q1, q2, rfl, rfl, bq1, bq2, bx⟩ := hcut
        have atx := atE.below bx
        have gx : Below w.heap.size w _ := gE.trans (bx.mono gE.size)
        have HRX := Lib.hid (HRE.out.kept (grown_below bx (Nat.le_refl _)) (by simp) (by simp))
        obtain ⟨W5, rfl⟩ : ∃ W : World, W = wc := ⟨_, rfl⟩
        have t0 : W5.cell? ⟨q1, 0, none⟩ = some (.int .i64 a0) := bq1.cell 0 rfl
        have t1 : W5.cell? ⟨q1, 1, none⟩ = some (.int .i64 a1) := bq1.cell 1 rfl
        have t2 : W5.cell? ⟨q2, 0, none⟩ = some (.int .i64 a2) := bq2.cell 0 rfl
        have t3 : W5.cell? ⟨q2, 1, none⟩ = some (.int .i64 a3) := bq2.cell 1 rfl
        have l1 := bq1.lt
        have l2 := bq2.lt
        have y0 : W5.cell? ⟨w.heap.size, 0, none⟩ = some (.int .i64 P) := atx.cell 0 rfl
        have y1 : W5.cell? ⟨w.heap.size, 1, none⟩ = some (.int .i64 Q) := atx.cell 1 rfl
        have lx := atx.lt
        clear bq1 bq2 bx bkE atE gE HRE s0 s1 s2 s3 lE CT1 CT2
        by_cases k1 : a1 ≤ Q
        case neg =>
          have e1 : decide (a1 ≤ Q) = false := decide_eq_false k1
          have HS := Lib.hid (show s + restOf (keysOf es) (fun e => netOf es e * wtE P Q e) (fun z => left z && !z.sameKey (klE (x0, x1, x2, x3))) = T by rw [← HSTEP.out, wt_no (by rw [HCUT.out, e1]; rfl)]; omega)
          go_upto_region 6 with fail
          refine wp_region_held_drew (S := (fun w' => (∀ b o, b < W5.heap.size → w'.cell? ⟨b, o, none⟩ = W5.cell? ⟨b, o, none⟩) ∧ W5.heap.size ≤ w'.heap.size)) (by kernel_rfl) ?_ (fun hHeld => ?_)
          · (try dsimp only); (first | ((try dsimp only); exact ⟨fun b o h => (by (repeat (first | with_reducible exact rfl | (with_reducible refine (cell_drew_at _ _).trans ?_) | (with_reducible refine (cell_set_at _ _ (by first | omega | (simp; done) | (simp; omega))).trans ?_) | (with_reducible refine (cell_alloc_at _ _ (by first | omega | (simp; done) | (simp; omega))).trans ?_) | (with_reducible refine (hcwX b o (by first | omega | (simp; done) | (simp; omega))).trans ?_) | (with_reducible refine (hcwY b o (by first | omega | (simp; done) | (simp; omega))).trans ?_) | (with_reducible refine (hcwZ b o (by first | omega | (simp; done) | (simp; omega))).trans ?_)))), (by first | omega | (simp; done) | (simp; omega))⟩) | fail)
          refine wpAnyH_take (i := 0) (oi := ⟨_, _, _, _, _, _⟩) (v := ?_) rfl (by kernel_rfl) (by kernel_rfl) (by kernel_rfl) (fun _ _ _ h => h) (Or.inl ⟨by rfl, ?_⟩) (by assumption) ?_
          rotate_left
          · intro w hSw; (try dsimp only at hSw); go_simp; (try with_reducible rfl)
          (try simp only [Act.put, List.setIfInBounds_toArray, List.set_cons_zero, List.set_cons_succ])
          refine wpAnyH_take (i := 1) (oi := ⟨_, _, _, _, _, _⟩) (v := ?_) rfl (by kernel_rfl) (by kernel_rfl) (by kernel_rfl) (fun _ _ _ h => h) (Or.inl ⟨by rfl, ?_⟩) (by assumption) ?_
          rotate_left
          · intro w hSw; (try dsimp only at hSw); go_simp; (try with_reducible rfl)
          (try simp only [Act.put, List.setIfInBounds_toArray, List.set_cons_zero, List.set_cons_succ])
          refine wpAnyH_take (i := 2) (oi := ⟨_, _, _, _, _, _⟩) (v := ?_) rfl (by kernel_rfl) (by kernel_rfl) (by kernel_rfl) (fun _ _ _ h => h) (Or.inl ⟨by rfl, ?_⟩) (by assumption) ?_
          rotate_left
          · intro w hSw; (try dsimp only at hSw); go_simp; (try with_reducible rfl)
          (try simp only [Act.put, List.setIfInBounds_toArray, List.set_cons_zero, List.set_cons_succ])
          refine wpAnyH_take (i := 3) (oi := ⟨_, _, _, _, _, _⟩) (v := ?_) rfl (by kernel_rfl) (by kernel_rfl) (by kernel_rfl) (fun _ _ _ h => h) (Or.inl ⟨by rfl, ?_⟩) (by assumption) ?_
          rotate_left
          · intro w hSw; (try dsimp only at hSw); go_simp; (try with_reducible rfl)
          (try simp only [Act.put, List.setIfInBounds_toArray, List.set_cons_zero, List.set_cons_succ])
          refine wpAnyH_take (i := 4) (oi := ⟨_, _, _, _, _, _⟩) (v := ?_) rfl (by kernel_rfl) (by kernel_rfl) (by kernel_rfl) (fun _ _ _ h => h) (Or.inl ⟨by rfl, ?_⟩) (by assumption) ?_
          rotate_left
          · intro w hSw; (try dsimp only at hSw); go_simp; (try with_reducible rfl)
          (try simp only [Act.put, List.setIfInBounds_toArray, List.set_cons_zero, List.set_cons_succ])
          refine wpAnyH_take (i := 5) (oi := ⟨_, _, _, _, _, _⟩) (v := ?_) rfl (by kernel_rfl) (by kernel_rfl) (by kernel_rfl) (fun _ _ _ h => h) (Or.inl ⟨by rfl, ?_⟩) (by assumption) ?_
          rotate_left
          · intro w hSw; (try dsimp only at hSw); go_simp; (try with_reducible rfl)
          (try simp only [Act.put, List.setIfInBounds_toArray, List.set_cons_zero, List.set_cons_succ])
          refine wpAnyH_take (i := 6) (oi := ⟨_, _, _, _, _, _⟩) (v := undef) rfl (by kernel_rfl) (by kernel_rfl) (by kernel_rfl) (fun _ _ _ h => h) (Or.inr ⟨by rfl, rfl⟩) (by assumption) ?_
          (try simp only [Act.put, List.setIfInBounds_toArray, List.set_cons_zero, List.set_cons_succ])
          refine wpAnyH_take (i := 7) (oi := ⟨_, _, _, _, _, _⟩) (v := undef) rfl (by kernel_rfl) (by kernel_rfl) (by kernel_rfl) (fun _ _ _ h => h) (Or.inr ⟨by rfl, rfl⟩) (by assumption) ?_
          (try simp only [Act.put, List.setIfInBounds_toArray, List.set_cons_zero, List.set_cons_succ])
          refine wpAnyH_take (i := 8) (oi := ⟨_, _, _, _, _, _⟩) (v := undef) rfl (by kernel_rfl) (by kernel_rfl) (by kernel_rfl) (fun _ _ _ h => h) (Or.inr ⟨by rfl, rfl⟩) (by assumption) ?_
          (try simp only [Act.put, List.setIfInBounds_toArray, List.set_cons_zero, List.set_cons_succ])
          refine wpAnyH_take (i := 9) (oi := ⟨_, _, _, _, _, _⟩) (v := undef) rfl (by kernel_rfl) (by kernel_rfl) (by kernel_rfl) (fun _ _ _ h => h) (Or.inr ⟨by rfl, rfl⟩) (by assumption) ?_
          (try simp only [Act.put, List.setIfInBounds_toArray, List.set_cons_zero, List.set_cons_succ])
          refine wpAnyH_take (i := 10) (oi := ⟨_, _, _, _, _, _⟩) (v := undef) rfl (by kernel_rfl) (by kernel_rfl) (by kernel_rfl) (fun _ _ _ h => h) (Or.inr ⟨by rfl, rfl⟩) (by assumption) ?_
          (try simp only [Act.put, List.setIfInBounds_toArray, List.set_cons_zero, List.set_cons_succ])
          refine wpAnyH_take (i := 11) (oi := ⟨_, _, _, _, _, _⟩) (v := ?_) rfl (by kernel_rfl) (by kernel_rfl) (by kernel_rfl) (fun _ _ _ h => h) (Or.inl ⟨by rfl, ?_⟩) (by assumption) ?_
          rotate_left
          · intro w hSw; (try dsimp only at hSw); go_simp; (try with_reducible rfl)
          (try simp only [Act.put, List.setIfInBounds_toArray, List.set_cons_zero, List.set_cons_succ])
          refine wpAnyH_take (i := 12) (oi := ⟨_, _, _, _, _, _⟩) (v := ?_) rfl (by kernel_rfl) (by kernel_rfl) (by kernel_rfl) (fun _ _ _ h => h) (Or.inl ⟨by rfl, ?_⟩) (by assumption) ?_
          rotate_left
          · intro w hSw; (try dsimp only at hSw); go_simp; (try with_reducible rfl)
          (try simp only [Act.put, List.setIfInBounds_toArray, List.set_cons_zero, List.set_cons_succ])
          refine wpAnyH_take (i := 13) (oi := ⟨_, _, _, _, _, _⟩) (v := undef) rfl (by kernel_rfl) (by kernel_rfl) (by kernel_rfl) (fun _ _ _ h => h) (Or.inr ⟨by rfl, rfl⟩) (by assumption) ?_
          (try simp only [Act.put, List.setIfInBounds_toArray, List.set_cons_zero, List.set_cons_succ])
          refine wpAnyH_take (i := 14) (oi := ⟨_, _, _, _, _, _⟩) (v := undef) rfl (by kernel_rfl) (by kernel_rfl) (by kernel_rfl) (fun _ _ _ h => h) (Or.inr ⟨by rfl, rfl⟩) (by assumption) ?_
          (try simp only [Act.put, List.setIfInBounds_toArray, List.set_cons_zero, List.set_cons_succ])
          refine wpAnyH_take (i := 16) (oi := ⟨_, _, _, _, _, _⟩) (v := undef) rfl (by kernel_rfl) (by kernel_rfl) (by kernel_rfl) (fun _ _ _ h => h) (Or.inr ⟨by rfl, rfl⟩) (by assumption) ?_
          (try simp only [Act.put, List.setIfInBounds_toArray, List.set_cons_zero, List.set_cons_succ])
          refine wpAnyH_take (i := 17) (oi := ⟨_, _, _, _, _, _⟩) (v := undef) rfl (by kernel_rfl) (by kernel_rfl) (by kernel_rfl) (fun _ _ _ h => h) (Or.inr ⟨by rfl, rfl⟩) (by assumption) ?_
          (try simp only [Act.put, List.setIfInBounds_toArray, List.set_cons_zero, List.set_cons_succ])
          refine wpAnyH_take (i := 15) (oi := ⟨_, _, _, _, _, _⟩) (v := undef) rfl (by kernel_rfl) (by kernel_rfl) (by kernel_rfl) (fun _ _ _ h => h) (Or.inr ⟨by rfl, rfl⟩) (by assumption) ?_
          (try simp only [Act.put, List.setIfInBounds_toArray, List.set_cons_zero, List.set_cons_succ])
          refine wpAnyH_take (i := 18) (oi := ⟨_, _, _, _, _, _⟩) (v := undef) rfl (by kernel_rfl) (by kernel_rfl) (by kernel_rfl) (fun _ _ _ h => h) (Or.inr ⟨by rfl, rfl⟩) (by assumption) ?_
          (try simp only [Act.put, List.setIfInBounds_toArray, List.set_cons_zero, List.set_cons_succ])
          refine wpAnyH_take (i := 19) (oi := ⟨_, _, _, _, _, _⟩) (v := undef) rfl (by kernel_rfl) (by kernel_rfl) (by kernel_rfl) (fun _ _ _ h => h) (Or.inr ⟨by rfl, rfl⟩) (by assumption) ?_
          (try simp only [Act.put, List.setIfInBounds_toArray, List.set_cons_zero, List.set_cons_succ])
          refine wpAnyH_take (i := 20) (oi := ⟨_, _, _, _, _, _⟩) (v := undef) rfl (by kernel_rfl) (by kernel_rfl) (by kernel_rfl) (fun _ _ _ h => h) (Or.inr ⟨by rfl, rfl⟩) (by assumption) ?_
          (try simp only [Act.put, List.setIfInBounds_toArray, List.set_cons_zero, List.set_cons_succ])
          refine wpAnyH_take (i := 21) (oi := ⟨_, _, _, _, _, _⟩) (v := ?_) rfl (by kernel_rfl) (by kernel_rfl) (by kernel_rfl) (fun _ _ _ h => h) (Or.inl ⟨by rfl, ?_⟩) (by assumption) ?_
          rotate_left
          · intro w hSw; (try dsimp only at hSw); go_simp; (try with_reducible rfl)
          (try simp only [Act.put, List.setIfInBounds_toArray, List.set_cons_zero, List.set_cons_succ])
          refine wpAnyH_done (by kernel_rfl) ?_ _
          have HRF := Lib.hid (show W5.drew.ranges Try.prog 114 (plainElem Try.prog 2) B (w.heap.size + 1) n D (fun z => left z && !z.sameKey (klE (x0, x1, x2, x3))) cnt1 from HRX.out)
          have atF := atx.drew
          have gF := gx.drew
          clear hHeld
          go_wp2_with fail
          go_roundw
          case rel => exact ⟨_, cnt1, s, rfl, HS.out, HKEY.out, HRF.out, atF, gF⟩
          case measure => (rw [HRF.out.left_eq]; exact HMEA.out)
        case pos =>
          have e1 : decide (a1 ≤ Q) = true := decide_eq_true k1
          by_cases k2 : Q < a3
          case neg =>
            have e2 : decide (Q < a3) = false := decide_eq_false k2
            have HS := Lib.hid (show s + restOf (keysOf es) (fun e => netOf es e * wtE P Q e) (fun z => left z && !z.sameKey (klE (x0, x1, x2, x3))) = T by rw [← HSTEP.out, wt_no (by rw [HCUT.out, e1, e2]; rfl)]; omega)
            go_upto_region 6 with fail
            refine wp_region_held_drew (S := (fun w' => (∀ b o, b < W5.heap.size → w'.cell? ⟨b, o, none⟩ = W5.cell? ⟨b, o, none⟩) ∧ W5.heap.size ≤ w'.heap.size)) (by kernel_rfl) ?_ (fun hHeld => ?_)
            · (try dsimp only); (first | ((try dsimp only); exact ⟨fun b o h => (by (repeat (first | with_reducible exact rfl | (with_reducible refine (cell_drew_at _ _).trans ?_) | (with_reducible refine (cell_set_at _ _ (by first | omega | (simp; done) | (simp; omega))).trans ?_) | (with_reducible refine (cell_alloc_at _ _ (by first | omega | (simp; done) | (simp; omega))).trans ?_) | (with_reducible refine (hcwX b o (by first | omega | (simp; done) | (simp; omega))).trans ?_) | (with_reducible refine (hcwY b o (by first | omega | (simp; done) | (simp; omega))).trans ?_) | (with_reducible refine (hcwZ b o (by first | omega | (simp; done) | (simp; omega))).trans ?_)))), (by first | omega | (simp; done) | (simp; omega))⟩) | fail)
            refine wpAnyH_take (i := 0) (oi := ⟨_, _, _, _, _, _⟩) (v := ?_) rfl (by kernel_rfl) (by kernel_rfl) (by kernel_rfl) (fun _ _ _ h => h) (Or.inl ⟨by rfl, ?_⟩) (by assumption) ?_
            rotate_left
            · intro w hSw; (try dsimp only at hSw); go_simp; (try with_reducible rfl)
            (try simp only [Act.put, List.setIfInBounds_toArray, List.set_cons_zero, List.set_cons_succ])
            refine wpAnyH_take (i := 1) (oi := ⟨_, _, _, _, _, _⟩) (v := ?_) rfl (by kernel_rfl) (by kernel_rfl) (by kernel_rfl) (fun _ _ _ h => h) (Or.inl ⟨by rfl, ?_⟩) (by assumption) ?_
            rotate_left
            · intro w hSw; (try dsimp only at hSw); go_simp; (try with_reducible rfl)
            (try simp only [Act.put, List.setIfInBounds_toArray, List.set_cons_zero, List.set_cons_succ])
            refine wpAnyH_take (i := 2) (oi := ⟨_, _, _, _, _, _⟩) (v := ?_) rfl (by kernel_rfl) (by kernel_rfl) (by kernel_rfl) (fun _ _ _ h => h) (Or.inl ⟨by rfl, ?_⟩) (by assumption) ?_
            rotate_left
            · intro w hSw; (try dsimp only at hSw); go_simp; (try with_reducible rfl)
            (try simp only [Act.put, List.setIfInBounds_toArray, List.set_cons_zero, List.set_cons_succ])
            refine wpAnyH_take (i := 3) (oi := ⟨_, _, _, _, _, _⟩) (v := ?_) rfl (by kernel_rfl) (by kernel_rfl) (by kernel_rfl) (fun _ _ _ h => h) (Or.inl ⟨by rfl, ?_⟩) (by assumption) ?_
            rotate_left
            · intro w hSw; (try dsimp only at hSw); go_simp; (try with_reducible rfl)
            (try simp only [Act.put, List.setIfInBounds_toArray, List.set_cons_zero, List.set_cons_succ])
            refine wpAnyH_take (i := 4) (oi := ⟨_, _, _, _, _, _⟩) (v := ?_) rfl (by kernel_rfl) (by kernel_rfl) (by kernel_rfl) (fun _ _ _ h => h) (Or.inl ⟨by rfl, ?_⟩) (by assumption) ?_
            rotate_left
            · intro w hSw; (try dsimp only at hSw); go_simp; (try with_reducible rfl)
            (try simp only [Act.put, List.setIfInBounds_toArray, List.set_cons_zero, List.set_cons_succ])
            refine wpAnyH_take (i := 5) (oi := ⟨_, _, _, _, _, _⟩) (v := ?_) rfl (by kernel_rfl) (by kernel_rfl) (by kernel_rfl) (fun _ _ _ h => h) (Or.inl ⟨by rfl, ?_⟩) (by assumption) ?_
            rotate_left
            · intro w hSw; (try dsimp only at hSw); go_simp; (try with_reducible rfl)
            (try simp only [Act.put, List.setIfInBounds_toArray, List.set_cons_zero, List.set_cons_succ])
            refine wpAnyH_take (i := 6) (oi := ⟨_, _, _, _, _, _⟩) (v := ?_) rfl (by kernel_rfl) (by kernel_rfl) (by kernel_rfl) (fun _ _ _ h => h) (Or.inl ⟨by rfl, ?_⟩) (by assumption) ?_
            rotate_left
            · intro w hSw; (try dsimp only at hSw); go_simp; (try with_reducible rfl)
            (try simp only [Act.put, List.setIfInBounds_toArray, List.set_cons_zero, List.set_cons_succ])
            refine wpAnyH_take (i := 7) (oi := ⟨_, _, _, _, _, _⟩) (v := ?_) rfl (by kernel_rfl) (by kernel_rfl) (by kernel_rfl) (fun _ _ _ h => h) (Or.inl ⟨by rfl, ?_⟩) (by assumption) ?_
            rotate_left
            · intro w hSw; (try dsimp only at hSw); go_simp; (try with_reducible rfl)
            (try simp only [Act.put, List.setIfInBounds_toArray, List.set_cons_zero, List.set_cons_succ])
            refine wpAnyH_take (i := 8) (oi := ⟨_, _, _, _, _, _⟩) (v := ?_) rfl (by kernel_rfl) (by kernel_rfl) (by kernel_rfl) (fun _ _ _ h => h) (Or.inl ⟨by rfl, ?_⟩) (by assumption) ?_
            rotate_left
            · intro w hSw; (try dsimp only at hSw); go_simp; (try with_reducible rfl)
            (try simp only [Act.put, List.setIfInBounds_toArray, List.set_cons_zero, List.set_cons_succ])
            refine wpAnyH_take (i := 9) (oi := ⟨_, _, _, _, _, _⟩) (v := ?_) rfl (by kernel_rfl) (by kernel_rfl) (by kernel_rfl) (fun _ _ _ h => h) (Or.inl ⟨by rfl, ?_⟩) (by assumption) ?_
            rotate_left
            · intro w hSw; (try dsimp only at hSw); go_simp; (try with_reducible rfl)
            (try simp only [Act.put, List.setIfInBounds_toArray, List.set_cons_zero, List.set_cons_succ])
            refine wpAnyH_take (i := 10) (oi := ⟨_, _, _, _, _, _⟩) (v := ?_) rfl (by kernel_rfl) (by kernel_rfl) (by kernel_rfl) (fun _ _ _ h => h) (Or.inl ⟨by rfl, ?_⟩) (by assumption) ?_
            rotate_left
            · intro w hSw; (try dsimp only at hSw); go_simp; (try with_reducible rfl)
            (try simp only [Act.put, List.setIfInBounds_toArray, List.set_cons_zero, List.set_cons_succ])
            refine wpAnyH_take (i := 11) (oi := ⟨_, _, _, _, _, _⟩) (v := ?_) rfl (by kernel_rfl) (by kernel_rfl) (by kernel_rfl) (fun _ _ _ h => h) (Or.inl ⟨by rfl, ?_⟩) (by assumption) ?_
            rotate_left
            · intro w hSw; (try dsimp only at hSw); go_simp; (try with_reducible rfl)
            (try simp only [Act.put, List.setIfInBounds_toArray, List.set_cons_zero, List.set_cons_succ])
            refine wpAnyH_take (i := 12) (oi := ⟨_, _, _, _, _, _⟩) (v := ?_) rfl (by kernel_rfl) (by kernel_rfl) (by kernel_rfl) (fun _ _ _ h => h) (Or.inl ⟨by rfl, ?_⟩) (by assumption) ?_
            rotate_left
            · intro w hSw; (try dsimp only at hSw); go_simp; (try with_reducible rfl)
            (try simp only [Act.put, List.setIfInBounds_toArray, List.set_cons_zero, List.set_cons_succ])
            refine wpAnyH_take (i := 13) (oi := ⟨_, _, _, _, _, _⟩) (v := undef) rfl (by kernel_rfl) (by kernel_rfl) (by kernel_rfl) (fun _ _ _ h => h) (Or.inr ⟨by rfl, rfl⟩) (by assumption) ?_
            (try simp only [Act.put, List.setIfInBounds_toArray, List.set_cons_zero, List.set_cons_succ])
            refine wpAnyH_take (i := 14) (oi := ⟨_, _, _, _, _, _⟩) (v := undef) rfl (by kernel_rfl) (by kernel_rfl) (by kernel_rfl) (fun _ _ _ h => h) (Or.inr ⟨by rfl, rfl⟩) (by assumption) ?_
            (try simp only [Act.put, List.setIfInBounds_toArray, List.set_cons_zero, List.set_cons_succ])
            refine wpAnyH_take (i := 16) (oi := ⟨_, _, _, _, _, _⟩) (v := undef) rfl (by kernel_rfl) (by kernel_rfl) (by kernel_rfl) (fun _ _ _ h => h) (Or.inr ⟨by rfl, rfl⟩) (by assumption) ?_
            (try simp only [Act.put, List.setIfInBounds_toArray, List.set_cons_zero, List.set_cons_succ])
            refine wpAnyH_take (i := 17) (oi := ⟨_, _, _, _, _, _⟩) (v := undef) rfl (by kernel_rfl) (by kernel_rfl) (by kernel_rfl) (fun _ _ _ h => h) (Or.inr ⟨by rfl, rfl⟩) (by assumption) ?_
            (try simp only [Act.put, List.setIfInBounds_toArray, List.set_cons_zero, List.set_cons_succ])
            refine wpAnyH_take (i := 15) (oi := ⟨_, _, _, _, _, _⟩) (v := undef) rfl (by kernel_rfl) (by kernel_rfl) (by kernel_rfl) (fun _ _ _ h => h) (Or.inr ⟨by rfl, rfl⟩) (by assumption) ?_
            (try simp only [Act.put, List.setIfInBounds_toArray, List.set_cons_zero, List.set_cons_succ])
            refine wpAnyH_take (i := 18) (oi := ⟨_, _, _, _, _, _⟩) (v := undef) rfl (by kernel_rfl) (by kernel_rfl) (by kernel_rfl) (fun _ _ _ h => h) (Or.inr ⟨by rfl, rfl⟩) (by assumption) ?_
            (try simp only [Act.put, List.setIfInBounds_toArray, List.set_cons_zero, List.set_cons_succ])
            refine wpAnyH_take (i := 19) (oi := ⟨_, _, _, _, _, _⟩) (v := undef) rfl (by kernel_rfl) (by kernel_rfl) (by kernel_rfl) (fun _ _ _ h => h) (Or.inr ⟨by rfl, rfl⟩) (by assumption) ?_
            (try simp only [Act.put, List.setIfInBounds_toArray, List.set_cons_zero, List.set_cons_succ])
            refine wpAnyH_take (i := 20) (oi := ⟨_, _, _, _, _, _⟩) (v := undef) rfl (by kernel_rfl) (by kernel_rfl) (by kernel_rfl) (fun _ _ _ h => h) (Or.inr ⟨by rfl, rfl⟩) (by assumption) ?_
            (try simp only [Act.put, List.setIfInBounds_toArray, List.set_cons_zero, List.set_cons_succ])
            refine wpAnyH_take (i := 21) (oi := ⟨_, _, _, _, _, _⟩) (v := ?_) rfl (by kernel_rfl) (by kernel_rfl) (by kernel_rfl) (fun _ _ _ h => h) (Or.inl ⟨by rfl, ?_⟩) (by assumption) ?_
            rotate_left
            · intro w hSw; (try dsimp only at hSw); go_simp; (try with_reducible rfl)
            (try simp only [Act.put, List.setIfInBounds_toArray, List.set_cons_zero, List.set_cons_succ])
            refine wpAnyH_done (by kernel_rfl) ?_ _
            have HRF := Lib.hid (show W5.drew.ranges Try.prog 114 (plainElem Try.prog 2) B (w.heap.size + 1) n D (fun z => left z && !z.sameKey (klE (x0, x1, x2, x3))) cnt1 from HRX.out)
            have atF := atx.drew
            have gF := gx.drew
            clear hHeld
            go_wp2_with fail
            go_roundw
            case rel => exact ⟨_, cnt1, s, rfl, HS.out, HKEY.out, HRF.out, atF, gF⟩
            case measure => (rw [HRF.out.left_eq]; exact HMEA.out)
          case pos =>
            have e2 : decide (Q < a3) = true := decide_eq_true k2
            by_cases k3 : 0 < cr
            case neg =>
              have e3 : decide (0 < cr) = false := decide_eq_false k3
              have HS := Lib.hid (show s + restOf (keysOf es) (fun e => netOf es e * wtE P Q e) (fun z => left z && !z.sameKey (klE (x0, x1, x2, x3))) = T by rw [← HSTEP.out, wt_no (by rw [HCUT.out, e1, e2, e3]; rfl)]; omega)
              go_upto_region 6 with fail
              refine wp_region_held_drew (S := (fun w' => (∀ b o, b < W5.heap.size → w'.cell? ⟨b, o, none⟩ = W5.cell? ⟨b, o, none⟩) ∧ W5.heap.size ≤ w'.heap.size)) (by kernel_rfl) ?_ (fun hHeld => ?_)
              · (try dsimp only); (first | ((try dsimp only); exact ⟨fun b o h => (by (repeat (first | with_reducible exact rfl | (with_reducible refine (cell_drew_at _ _).trans ?_) | (with_reducible refine (cell_set_at _ _ (by first | omega | (simp; done) | (simp; omega))).trans ?_) | (with_reducible refine (cell_alloc_at _ _ (by first | omega | (simp; done) | (simp; omega))).trans ?_) | (with_reducible refine (hcwX b o (by first | omega | (simp; done) | (simp; omega))).trans ?_) | (with_reducible refine (hcwY b o (by first | omega | (simp; done) | (simp; omega))).trans ?_) | (with_reducible refine (hcwZ b o (by first | omega | (simp; done) | (simp; omega))).trans ?_)))), (by first | omega | (simp; done) | (simp; omega))⟩) | fail)
              refine wpAnyH_take (i := 0) (oi := ⟨_, _, _, _, _, _⟩) (v := ?_) rfl (by kernel_rfl) (by kernel_rfl) (by kernel_rfl) (fun _ _ _ h => h) (Or.inl ⟨by rfl, ?_⟩) (by assumption) ?_
              rotate_left
              · intro w hSw; (try dsimp only at hSw); go_simp; (try with_reducible rfl)
              (try simp only [Act.put, List.setIfInBounds_toArray, List.set_cons_zero, List.set_cons_succ])
              refine wpAnyH_take (i := 1) (oi := ⟨_, _, _, _, _, _⟩) (v := ?_) rfl (by kernel_rfl) (by kernel_rfl) (by kernel_rfl) (fun _ _ _ h => h) (Or.inl ⟨by rfl, ?_⟩) (by assumption) ?_
              rotate_left
              · intro w hSw; (try dsimp only at hSw); go_simp; (try with_reducible rfl)
              (try simp only [Act.put, List.setIfInBounds_toArray, List.set_cons_zero, List.set_cons_succ])
              refine wpAnyH_take (i := 2) (oi := ⟨_, _, _, _, _, _⟩) (v := ?_) rfl (by kernel_rfl) (by kernel_rfl) (by kernel_rfl) (fun _ _ _ h => h) (Or.inl ⟨by rfl, ?_⟩) (by assumption) ?_
              rotate_left
              · intro w hSw; (try dsimp only at hSw); go_simp; (try with_reducible rfl)
              (try simp only [Act.put, List.setIfInBounds_toArray, List.set_cons_zero, List.set_cons_succ])
              refine wpAnyH_take (i := 3) (oi := ⟨_, _, _, _, _, _⟩) (v := ?_) rfl (by kernel_rfl) (by kernel_rfl) (by kernel_rfl) (fun _ _ _ h => h) (Or.inl ⟨by rfl, ?_⟩) (by assumption) ?_
              rotate_left
              · intro w hSw; (try dsimp only at hSw); go_simp; (try with_reducible rfl)
              (try simp only [Act.put, List.setIfInBounds_toArray, List.set_cons_zero, List.set_cons_succ])
              refine wpAnyH_take (i := 4) (oi := ⟨_, _, _, _, _, _⟩) (v := ?_) rfl (by kernel_rfl) (by kernel_rfl) (by kernel_rfl) (fun _ _ _ h => h) (Or.inl ⟨by rfl, ?_⟩) (by assumption) ?_
              rotate_left
              · intro w hSw; (try dsimp only at hSw); go_simp; (try with_reducible rfl)
              (try simp only [Act.put, List.setIfInBounds_toArray, List.set_cons_zero, List.set_cons_succ])
              refine wpAnyH_take (i := 5) (oi := ⟨_, _, _, _, _, _⟩) (v := ?_) rfl (by kernel_rfl) (by kernel_rfl) (by kernel_rfl) (fun _ _ _ h => h) (Or.inl ⟨by rfl, ?_⟩) (by assumption) ?_
              rotate_left
              · intro w hSw; (try dsimp only at hSw); go_simp; (try with_reducible rfl)
              (try simp only [Act.put, List.setIfInBounds_toArray, List.set_cons_zero, List.set_cons_succ])
              refine wpAnyH_take (i := 6) (oi := ⟨_, _, _, _, _, _⟩) (v := ?_) rfl (by kernel_rfl) (by kernel_rfl) (by kernel_rfl) (fun _ _ _ h => h) (Or.inl ⟨by rfl, ?_⟩) (by assumption) ?_
              rotate_left
              · intro w hSw; (try dsimp only at hSw); go_simp; (try with_reducible rfl)
              (try simp only [Act.put, List.setIfInBounds_toArray, List.set_cons_zero, List.set_cons_succ])
              refine wpAnyH_take (i := 7) (oi := ⟨_, _, _, _, _, _⟩) (v := ?_) rfl (by kernel_rfl) (by kernel_rfl) (by kernel_rfl) (fun _ _ _ h => h) (Or.inl ⟨by rfl, ?_⟩) (by assumption) ?_
              rotate_left
              · intro w hSw; (try dsimp only at hSw); go_simp; (try with_reducible rfl)
              (try simp only [Act.put, List.setIfInBounds_toArray, List.set_cons_zero, List.set_cons_succ])
              refine wpAnyH_take (i := 8) (oi := ⟨_, _, _, _, _, _⟩) (v := ?_) rfl (by kernel_rfl) (by kernel_rfl) (by kernel_rfl) (fun _ _ _ h => h) (Or.inl ⟨by rfl, ?_⟩) (by assumption) ?_
              rotate_left
              · intro w hSw; (try dsimp only at hSw); go_simp; (try with_reducible rfl)
              (try simp only [Act.put, List.setIfInBounds_toArray, List.set_cons_zero, List.set_cons_succ])
              refine wpAnyH_take (i := 9) (oi := ⟨_, _, _, _, _, _⟩) (v := ?_) rfl (by kernel_rfl) (by kernel_rfl) (by kernel_rfl) (fun _ _ _ h => h) (Or.inl ⟨by rfl, ?_⟩) (by assumption) ?_
              rotate_left
              · intro w hSw; (try dsimp only at hSw); go_simp; (try with_reducible rfl)
              (try simp only [Act.put, List.setIfInBounds_toArray, List.set_cons_zero, List.set_cons_succ])
              refine wpAnyH_take (i := 10) (oi := ⟨_, _, _, _, _, _⟩) (v := ?_) rfl (by kernel_rfl) (by kernel_rfl) (by kernel_rfl) (fun _ _ _ h => h) (Or.inl ⟨by rfl, ?_⟩) (by assumption) ?_
              rotate_left
              · intro w hSw; (try dsimp only at hSw); go_simp; (try with_reducible rfl)
              (try simp only [Act.put, List.setIfInBounds_toArray, List.set_cons_zero, List.set_cons_succ])
              refine wpAnyH_take (i := 11) (oi := ⟨_, _, _, _, _, _⟩) (v := ?_) rfl (by kernel_rfl) (by kernel_rfl) (by kernel_rfl) (fun _ _ _ h => h) (Or.inl ⟨by rfl, ?_⟩) (by assumption) ?_
              rotate_left
              · intro w hSw; (try dsimp only at hSw); go_simp; (try with_reducible rfl)
              (try simp only [Act.put, List.setIfInBounds_toArray, List.set_cons_zero, List.set_cons_succ])
              refine wpAnyH_take (i := 12) (oi := ⟨_, _, _, _, _, _⟩) (v := ?_) rfl (by kernel_rfl) (by kernel_rfl) (by kernel_rfl) (fun _ _ _ h => h) (Or.inl ⟨by rfl, ?_⟩) (by assumption) ?_
              rotate_left
              · intro w hSw; (try dsimp only at hSw); go_simp; (try with_reducible rfl)
              (try simp only [Act.put, List.setIfInBounds_toArray, List.set_cons_zero, List.set_cons_succ])
              refine wpAnyH_take (i := 13) (oi := ⟨_, _, _, _, _, _⟩) (v := ?_) rfl (by kernel_rfl) (by kernel_rfl) (by kernel_rfl) (fun _ _ _ h => h) (Or.inl ⟨by rfl, ?_⟩) (by assumption) ?_
              rotate_left
              · intro w hSw; (try dsimp only at hSw); go_simp; (try with_reducible rfl)
              (try simp only [Act.put, List.setIfInBounds_toArray, List.set_cons_zero, List.set_cons_succ])
              refine wpAnyH_take (i := 14) (oi := ⟨_, _, _, _, _, _⟩) (v := ?_) rfl (by kernel_rfl) (by kernel_rfl) (by kernel_rfl) (fun _ _ _ h => h) (Or.inl ⟨by rfl, ?_⟩) (by assumption) ?_
              rotate_left
              · intro w hSw; (try dsimp only at hSw); go_simp; (try with_reducible rfl)
              (try simp only [Act.put, List.setIfInBounds_toArray, List.set_cons_zero, List.set_cons_succ])
              refine wpAnyH_take (i := 16) (oi := ⟨_, _, _, _, _, _⟩) (v := ?_) rfl (by kernel_rfl) (by kernel_rfl) (by kernel_rfl) (fun _ _ _ h => h) (Or.inl ⟨by rfl, ?_⟩) (by assumption) ?_
              rotate_left
              · intro w hSw; (try dsimp only at hSw); go_simp; (try with_reducible rfl)
              (try simp only [Act.put, List.setIfInBounds_toArray, List.set_cons_zero, List.set_cons_succ])
              refine wpAnyH_take (i := 17) (oi := ⟨_, _, _, _, _, _⟩) (v := ?_) rfl (by kernel_rfl) (by kernel_rfl) (by kernel_rfl) (fun _ _ _ h => h) (Or.inl ⟨by rfl, ?_⟩) (by assumption) ?_
              rotate_left
              · intro w hSw; (try dsimp only at hSw); go_simp; (try with_reducible rfl)
              (try simp only [Act.put, List.setIfInBounds_toArray, List.set_cons_zero, List.set_cons_succ])
              refine wpAnyH_ready (rs := [15]) (by kernel_rfl) (by simp) ?_
              refine AllReadyH.cons (o := ⟨_, _, _, _, _, _⟩) rfl (fun K hK => ?_) AllReadyH.nil
              go_simp
              go_at_call 106; (with_reducible refine (CM1.out _).mono ?_); rintro e wX ⟨rfl, hbwX⟩; obtain ⟨hcwX, hfwX⟩ := bcell hbwX; have hzwX := hbwX.size; (try simp only [World.size_drew] at hcwX hzwX); (clear hfwX)
              refine hK.out _ _ ?_ (fun hHeld => ?_)
              · (try dsimp only); (first | ((try dsimp only); exact ⟨fun b o h => (by (repeat (first | with_reducible exact rfl | (with_reducible refine (cell_drew_at _ _).trans ?_) | (with_reducible refine (cell_set_at _ _ (by first | omega | (simp; done) | (simp; omega))).trans ?_) | (with_reducible refine (cell_alloc_at _ _ (by first | omega | (simp; done) | (simp; omega))).trans ?_) | (with_reducible refine (hcwX b o (by first | omega | (simp; done) | (simp; omega))).trans ?_) | (with_reducible refine (hcwY b o (by first | omega | (simp; done) | (simp; omega))).trans ?_) | (with_reducible refine (hcwZ b o (by first | omega | (simp; done) | (simp; omega))).trans ?_)))), (by first | omega | (simp; done) | (simp; omega))⟩) | fail)
              clear hK K
              (try simp only [Act.put, List.setIfInBounds_toArray, List.set_cons_zero, List.set_cons_succ])
              refine wpAnyH_ready (rs := [18]) (by kernel_rfl) (by simp) ?_
              refine AllReadyH.cons (o := ⟨_, _, _, _, _, _⟩) rfl (fun K hK => ?_) AllReadyH.nil
              go_simp
              go_at_call 106; (with_reducible refine (CM2.out _).mono ?_); rintro e wY ⟨rfl, hbwY⟩; obtain ⟨hcwY, hfwY⟩ := bcell hbwY; have hzwY := hbwY.size; (try simp only [World.size_drew] at hcwY hzwY); (clear hfwY)
              refine hK.out _ _ ?_ (fun hHeld => ?_)
              · (try dsimp only); (first | ((try dsimp only); exact ⟨fun b o h => (by (repeat (first | with_reducible exact rfl | (with_reducible refine (cell_drew_at _ _).trans ?_) | (with_reducible refine (cell_set_at _ _ (by first | omega | (simp; done) | (simp; omega))).trans ?_) | (with_reducible refine (cell_alloc_at _ _ (by first | omega | (simp; done) | (simp; omega))).trans ?_) | (with_reducible refine (hcwX b o (by first | omega | (simp; done) | (simp; omega))).trans ?_) | (with_reducible refine (hcwY b o (by first | omega | (simp; done) | (simp; omega))).trans ?_) | (with_reducible refine (hcwZ b o (by first | omega | (simp; done) | (simp; omega))).trans ?_)))), (by first | omega | (simp; done) | (simp; omega))⟩) | fail)
              clear hK K
              (try simp only [Act.put, List.setIfInBounds_toArray, List.set_cons_zero, List.set_cons_succ])
              refine wpAnyH_ready (rs := [19]) (by kernel_rfl) (by simp) ?_
              refine AllReadyH.cons (o := ⟨_, _, _, _, _, _⟩) rfl (fun K hK => ?_) AllReadyH.nil
              go_simp
              go_at_call 80; (with_reducible refine (CC.out _).mono ?_); rintro e wZ ⟨rfl, hbwZ⟩; obtain ⟨hcwZ, hfwZ⟩ := bcell hbwZ; have hzwZ := hbwZ.size; (try simp only [World.size_drew] at hcwZ hzwZ); (clear hfwZ)
              refine hK.out _ _ ?_ (fun hHeld => ?_)
              · (try dsimp only); (first | ((try dsimp only); exact ⟨fun b o h => (by (repeat (first | with_reducible exact rfl | (with_reducible refine (cell_drew_at _ _).trans ?_) | (with_reducible refine (cell_set_at _ _ (by first | omega | (simp; done) | (simp; omega))).trans ?_) | (with_reducible refine (cell_alloc_at _ _ (by first | omega | (simp; done) | (simp; omega))).trans ?_) | (with_reducible refine (hcwX b o (by first | omega | (simp; done) | (simp; omega))).trans ?_) | (with_reducible refine (hcwY b o (by first | omega | (simp; done) | (simp; omega))).trans ?_) | (with_reducible refine (hcwZ b o (by first | omega | (simp; done) | (simp; omega))).trans ?_)))), (by first | omega | (simp; done) | (simp; omega))⟩) | fail)
              clear hK K
              (try simp only [Act.put, List.setIfInBounds_toArray, List.set_cons_zero, List.set_cons_succ])
              refine wpAnyH_take (i := 20) (oi := ⟨_, _, _, _, _, _⟩) (v := ?_) rfl (by kernel_rfl) (by kernel_rfl) (by kernel_rfl) (fun _ _ _ h => h) (Or.inl ⟨by rfl, ?_⟩) (by assumption) ?_
              rotate_left
              · intro w hSw; (try dsimp only at hSw); go_simp; (try with_reducible rfl)
              (try simp only [Act.put, List.setIfInBounds_toArray, List.set_cons_zero, List.set_cons_succ])
              refine wpAnyH_take (i := 21) (oi := ⟨_, _, _, _, _, _⟩) (v := ?_) rfl (by kernel_rfl) (by kernel_rfl) (by kernel_rfl) (fun _ _ _ h => h) (Or.inl ⟨by rfl, ?_⟩) (by assumption) ?_
              rotate_left
              · intro w hSw; (try dsimp only at hSw); go_simp; (try with_reducible rfl)
              (try simp only [Act.put, List.setIfInBounds_toArray, List.set_cons_zero, List.set_cons_succ])
              refine wpAnyH_done (by kernel_rfl) ?_ _
              have gb : Below W5.heap.size W5 wZ := by repeat' (first | with_reducible assumption | with_reducible exact Below.refl _ _ | (with_reducible refine Below.setCell ?_ ?_ _) | (with_reducible refine Below.alloc ?_ ?_ _) | (with_reducible refine Below.drew ?_) | (with_reducible refine below_dr ?_ _) | (with_reducible refine Below.trans ?_ (Below.mono (by with_reducible assumption) ?_)) | omega | (simp; done) | (simp; omega))
              have HRF := Lib.hid (HRX.out.kept (grown_below gb (Nat.le_refl _)) (by simp) (by simp))
              have atF := atx.below gb
              have gF : Below w.heap.size w wZ := gx.trans (gb.mono gx.size)
              clear hbwX hbwY hbwZ hcwX hcwY hcwZ hHeld
              go_wp2_with fail
              go_roundw
              case rel => exact ⟨_, cnt1, s, rfl, HS.out, HKEY.out, HRF.out, atF, gF⟩
              case measure => (rw [HRF.out.left_eq]; exact HMEA.out)
            case pos =>
              have e3 : decide (0 < cr) = true := decide_eq_true k3
              have HS := Lib.hid (show (s + c) + restOf (keysOf es) (fun e => netOf es e * wtE P Q e) (fun z => left z && !z.sameKey (klE (x0, x1, x2, x3))) = T by rw [← HSTEP.out, wt_yes (by rw [HCUT.out, e1, e2, e3]; rfl)]; omega)
              go_upto_region 6 with fail
              refine wp_region_held_drew (S := (fun w' => (∀ b o, b < W5.heap.size → w'.cell? ⟨b, o, none⟩ = W5.cell? ⟨b, o, none⟩) ∧ W5.heap.size ≤ w'.heap.size)) (by kernel_rfl) ?_ (fun hHeld => ?_)
              · (try dsimp only); (first | ((try dsimp only); exact ⟨fun b o h => (by (repeat (first | with_reducible exact rfl | (with_reducible refine (cell_drew_at _ _).trans ?_) | (with_reducible refine (cell_set_at _ _ (by first | omega | (simp; done) | (simp; omega))).trans ?_) | (with_reducible refine (cell_alloc_at _ _ (by first | omega | (simp; done) | (simp; omega))).trans ?_) | (with_reducible refine (hcwX b o (by first | omega | (simp; done) | (simp; omega))).trans ?_) | (with_reducible refine (hcwY b o (by first | omega | (simp; done) | (simp; omega))).trans ?_) | (with_reducible refine (hcwZ b o (by first | omega | (simp; done) | (simp; omega))).trans ?_)))), (by first | omega | (simp; done) | (simp; omega))⟩) | fail)
              refine wpAnyH_take (i := 0) (oi := ⟨_, _, _, _, _, _⟩) (v := ?_) rfl (by kernel_rfl) (by kernel_rfl) (by kernel_rfl) (fun _ _ _ h => h) (Or.inl ⟨by rfl, ?_⟩) (by assumption) ?_
              rotate_left
              · intro w hSw; (try dsimp only at hSw); go_simp; (try with_reducible rfl)
              (try simp only [Act.put, List.setIfInBounds_toArray, List.set_cons_zero, List.set_cons_succ])
              refine wpAnyH_take (i := 1) (oi := ⟨_, _, _, _, _, _⟩) (v := ?_) rfl (by kernel_rfl) (by kernel_rfl) (by kernel_rfl) (fun _ _ _ h => h) (Or.inl ⟨by rfl, ?_⟩) (by assumption) ?_
              rotate_left
              · intro w hSw; (try dsimp only at hSw); go_simp; (try with_reducible rfl)
              (try simp only [Act.put, List.setIfInBounds_toArray, List.set_cons_zero, List.set_cons_succ])
              refine wpAnyH_take (i := 2) (oi := ⟨_, _, _, _, _, _⟩) (v := ?_) rfl (by kernel_rfl) (by kernel_rfl) (by kernel_rfl) (fun _ _ _ h => h) (Or.inl ⟨by rfl, ?_⟩) (by assumption) ?_
              rotate_left
              · intro w hSw; (try dsimp only at hSw); go_simp; (try with_reducible rfl)
              (try simp only [Act.put, List.setIfInBounds_toArray, List.set_cons_zero, List.set_cons_succ])
              refine wpAnyH_take (i := 3) (oi := ⟨_, _, _, _, _, _⟩) (v := ?_) rfl (by kernel_rfl) (by kernel_rfl) (by kernel_rfl) (fun _ _ _ h => h) (Or.inl ⟨by rfl, ?_⟩) (by assumption) ?_
              rotate_left
              · intro w hSw; (try dsimp only at hSw); go_simp; (try with_reducible rfl)
              (try simp only [Act.put, List.setIfInBounds_toArray, List.set_cons_zero, List.set_cons_succ])
              refine wpAnyH_take (i := 4) (oi := ⟨_, _, _, _, _, _⟩) (v := ?_) rfl (by kernel_rfl) (by kernel_rfl) (by kernel_rfl) (fun _ _ _ h => h) (Or.inl ⟨by rfl, ?_⟩) (by assumption) ?_
              rotate_left
              · intro w hSw; (try dsimp only at hSw); go_simp; (try with_reducible rfl)
              (try simp only [Act.put, List.setIfInBounds_toArray, List.set_cons_zero, List.set_cons_succ])
              refine wpAnyH_take (i := 5) (oi := ⟨_, _, _, _, _, _⟩) (v := ?_) rfl (by kernel_rfl) (by kernel_rfl) (by kernel_rfl) (fun _ _ _ h => h) (Or.inl ⟨by rfl, ?_⟩) (by assumption) ?_
              rotate_left
              · intro w hSw; (try dsimp only at hSw); go_simp; (try with_reducible rfl)
              (try simp only [Act.put, List.setIfInBounds_toArray, List.set_cons_zero, List.set_cons_succ])
              refine wpAnyH_take (i := 6) (oi := ⟨_, _, _, _, _, _⟩) (v := ?_) rfl (by kernel_rfl) (by kernel_rfl) (by kernel_rfl) (fun _ _ _ h => h) (Or.inl ⟨by rfl, ?_⟩) (by assumption) ?_
              rotate_left
              · intro w hSw; (try dsimp only at hSw); go_simp; (try with_reducible rfl)
              (try simp only [Act.put, List.setIfInBounds_toArray, List.set_cons_zero, List.set_cons_succ])
              refine wpAnyH_take (i := 7) (oi := ⟨_, _, _, _, _, _⟩) (v := ?_) rfl (by kernel_rfl) (by kernel_rfl) (by kernel_rfl) (fun _ _ _ h => h) (Or.inl ⟨by rfl, ?_⟩) (by assumption) ?_
              rotate_left
              · intro w hSw; (try dsimp only at hSw); go_simp; (try with_reducible rfl)
              (try simp only [Act.put, List.setIfInBounds_toArray, List.set_cons_zero, List.set_cons_succ])
              refine wpAnyH_take (i := 8) (oi := ⟨_, _, _, _, _, _⟩) (v := ?_) rfl (by kernel_rfl) (by kernel_rfl) (by kernel_rfl) (fun _ _ _ h => h) (Or.inl ⟨by rfl, ?_⟩) (by assumption) ?_
              rotate_left
              · intro w hSw; (try dsimp only at hSw); go_simp; (try with_reducible rfl)
              (try simp only [Act.put, List.setIfInBounds_toArray, List.set_cons_zero, List.set_cons_succ])
              refine wpAnyH_take (i := 9) (oi := ⟨_, _, _, _, _, _⟩) (v := ?_) rfl (by kernel_rfl) (by kernel_rfl) (by kernel_rfl) (fun _ _ _ h => h) (Or.inl ⟨by rfl, ?_⟩) (by assumption) ?_
              rotate_left
              · intro w hSw; (try dsimp only at hSw); go_simp; (try with_reducible rfl)
              (try simp only [Act.put, List.setIfInBounds_toArray, List.set_cons_zero, List.set_cons_succ])
              refine wpAnyH_take (i := 10) (oi := ⟨_, _, _, _, _, _⟩) (v := ?_) rfl (by kernel_rfl) (by kernel_rfl) (by kernel_rfl) (fun _ _ _ h => h) (Or.inl ⟨by rfl, ?_⟩) (by assumption) ?_
              rotate_left
              · intro w hSw; (try dsimp only at hSw); go_simp; (try with_reducible rfl)
              (try simp only [Act.put, List.setIfInBounds_toArray, List.set_cons_zero, List.set_cons_succ])
              refine wpAnyH_take (i := 11) (oi := ⟨_, _, _, _, _, _⟩) (v := ?_) rfl (by kernel_rfl) (by kernel_rfl) (by kernel_rfl) (fun _ _ _ h => h) (Or.inl ⟨by rfl, ?_⟩) (by assumption) ?_
              rotate_left
              · intro w hSw; (try dsimp only at hSw); go_simp; (try with_reducible rfl)
              (try simp only [Act.put, List.setIfInBounds_toArray, List.set_cons_zero, List.set_cons_succ])
              refine wpAnyH_take (i := 12) (oi := ⟨_, _, _, _, _, _⟩) (v := ?_) rfl (by kernel_rfl) (by kernel_rfl) (by kernel_rfl) (fun _ _ _ h => h) (Or.inl ⟨by rfl, ?_⟩) (by assumption) ?_
              rotate_left
              · intro w hSw; (try dsimp only at hSw); go_simp; (try with_reducible rfl)
              (try simp only [Act.put, List.setIfInBounds_toArray, List.set_cons_zero, List.set_cons_succ])
              refine wpAnyH_take (i := 13) (oi := ⟨_, _, _, _, _, _⟩) (v := ?_) rfl (by kernel_rfl) (by kernel_rfl) (by kernel_rfl) (fun _ _ _ h => h) (Or.inl ⟨by rfl, ?_⟩) (by assumption) ?_
              rotate_left
              · intro w hSw; (try dsimp only at hSw); go_simp; (try with_reducible rfl)
              (try simp only [Act.put, List.setIfInBounds_toArray, List.set_cons_zero, List.set_cons_succ])
              refine wpAnyH_take (i := 14) (oi := ⟨_, _, _, _, _, _⟩) (v := ?_) rfl (by kernel_rfl) (by kernel_rfl) (by kernel_rfl) (fun _ _ _ h => h) (Or.inl ⟨by rfl, ?_⟩) (by assumption) ?_
              rotate_left
              · intro w hSw; (try dsimp only at hSw); go_simp; (try with_reducible rfl)
              (try simp only [Act.put, List.setIfInBounds_toArray, List.set_cons_zero, List.set_cons_succ])
              refine wpAnyH_take (i := 16) (oi := ⟨_, _, _, _, _, _⟩) (v := ?_) rfl (by kernel_rfl) (by kernel_rfl) (by kernel_rfl) (fun _ _ _ h => h) (Or.inl ⟨by rfl, ?_⟩) (by assumption) ?_
              rotate_left
              · intro w hSw; (try dsimp only at hSw); go_simp; (try with_reducible rfl)
              (try simp only [Act.put, List.setIfInBounds_toArray, List.set_cons_zero, List.set_cons_succ])
              refine wpAnyH_take (i := 17) (oi := ⟨_, _, _, _, _, _⟩) (v := ?_) rfl (by kernel_rfl) (by kernel_rfl) (by kernel_rfl) (fun _ _ _ h => h) (Or.inl ⟨by rfl, ?_⟩) (by assumption) ?_
              rotate_left
              · intro w hSw; (try dsimp only at hSw); go_simp; (try with_reducible rfl)
              (try simp only [Act.put, List.setIfInBounds_toArray, List.set_cons_zero, List.set_cons_succ])
              refine wpAnyH_ready (rs := [15]) (by kernel_rfl) (by simp) ?_
              refine AllReadyH.cons (o := ⟨_, _, _, _, _, _⟩) rfl (fun K hK => ?_) AllReadyH.nil
              go_simp
              go_at_call 106; (with_reducible refine (CM1.out _).mono ?_); rintro e wX ⟨rfl, hbwX⟩; obtain ⟨hcwX, hfwX⟩ := bcell hbwX; have hzwX := hbwX.size; (try simp only [World.size_drew] at hcwX hzwX); (clear hfwX)
              refine hK.out _ _ ?_ (fun hHeld => ?_)
              · (try dsimp only); (first | ((try dsimp only); exact ⟨fun b o h => (by (repeat (first | with_reducible exact rfl | (with_reducible refine (cell_drew_at _ _).trans ?_) | (with_reducible refine (cell_set_at _ _ (by first | omega | (simp; done) | (simp; omega))).trans ?_) | (with_reducible refine (cell_alloc_at _ _ (by first | omega | (simp; done) | (simp; omega))).trans ?_) | (with_reducible refine (hcwX b o (by first | omega | (simp; done) | (simp; omega))).trans ?_) | (with_reducible refine (hcwY b o (by first | omega | (simp; done) | (simp; omega))).trans ?_) | (with_reducible refine (hcwZ b o (by first | omega | (simp; done) | (simp; omega))).trans ?_)))), (by first | omega | (simp; done) | (simp; omega))⟩) | fail)
              clear hK K
              (try simp only [Act.put, List.setIfInBounds_toArray, List.set_cons_zero, List.set_cons_succ])
              refine wpAnyH_ready (rs := [18]) (by kernel_rfl) (by simp) ?_
              refine AllReadyH.cons (o := ⟨_, _, _, _, _, _⟩) rfl (fun K hK => ?_) AllReadyH.nil
              go_simp
              go_at_call 106; (with_reducible refine (CM2.out _).mono ?_); rintro e wY ⟨rfl, hbwY⟩; obtain ⟨hcwY, hfwY⟩ := bcell hbwY; have hzwY := hbwY.size; (try simp only [World.size_drew] at hcwY hzwY); (clear hfwY)
              refine hK.out _ _ ?_ (fun hHeld => ?_)
              · (try dsimp only); (first | ((try dsimp only); exact ⟨fun b o h => (by (repeat (first | with_reducible exact rfl | (with_reducible refine (cell_drew_at _ _).trans ?_) | (with_reducible refine (cell_set_at _ _ (by first | omega | (simp; done) | (simp; omega))).trans ?_) | (with_reducible refine (cell_alloc_at _ _ (by first | omega | (simp; done) | (simp; omega))).trans ?_) | (with_reducible refine (hcwX b o (by first | omega | (simp; done) | (simp; omega))).trans ?_) | (with_reducible refine (hcwY b o (by first | omega | (simp; done) | (simp; omega))).trans ?_) | (with_reducible refine (hcwZ b o (by first | omega | (simp; done) | (simp; omega))).trans ?_)))), (by first | omega | (simp; done) | (simp; omega))⟩) | fail)
              clear hK K
              (try simp only [Act.put, List.setIfInBounds_toArray, List.set_cons_zero, List.set_cons_succ])
              refine wpAnyH_ready (rs := [19]) (by kernel_rfl) (by simp) ?_
              refine AllReadyH.cons (o := ⟨_, _, _, _, _, _⟩) rfl (fun K hK => ?_) AllReadyH.nil
              go_simp
              go_at_call 80; (with_reducible refine (CC.out _).mono ?_); rintro e wZ ⟨rfl, hbwZ⟩; obtain ⟨hcwZ, hfwZ⟩ := bcell hbwZ; have hzwZ := hbwZ.size; (try simp only [World.size_drew] at hcwZ hzwZ); (clear hfwZ)
              refine hK.out _ _ ?_ (fun hHeld => ?_)
              · (try dsimp only); (first | ((try dsimp only); exact ⟨fun b o h => (by (repeat (first | with_reducible exact rfl | (with_reducible refine (cell_drew_at _ _).trans ?_) | (with_reducible refine (cell_set_at _ _ (by first | omega | (simp; done) | (simp; omega))).trans ?_) | (with_reducible refine (cell_alloc_at _ _ (by first | omega | (simp; done) | (simp; omega))).trans ?_) | (with_reducible refine (hcwX b o (by first | omega | (simp; done) | (simp; omega))).trans ?_) | (with_reducible refine (hcwY b o (by first | omega | (simp; done) | (simp; omega))).trans ?_) | (with_reducible refine (hcwZ b o (by first | omega | (simp; done) | (simp; omega))).trans ?_)))), (by first | omega | (simp; done) | (simp; omega))⟩) | fail)
              clear hK K
              (try simp only [Act.put, List.setIfInBounds_toArray, List.set_cons_zero, List.set_cons_succ])
              refine wpAnyH_take (i := 20) (oi := ⟨_, _, _, _, _, _⟩) (v := ?_) rfl (by kernel_rfl) (by kernel_rfl) (by kernel_rfl) (fun _ _ _ h => h) (Or.inl ⟨by rfl, ?_⟩) (by assumption) ?_
              rotate_left
              · intro w hSw; (try dsimp only at hSw); go_simp; (try with_reducible rfl)
              (try simp only [Act.put, List.setIfInBounds_toArray, List.set_cons_zero, List.set_cons_succ])
              refine wpAnyH_take (i := 21) (oi := ⟨_, _, _, _, _, _⟩) (v := ?_) rfl (by kernel_rfl) (by kernel_rfl) (by kernel_rfl) (fun _ _ _ h => h) (Or.inl ⟨by rfl, ?_⟩) (by assumption) ?_
              rotate_left
              · intro w hSw; (try dsimp only at hSw); go_simp; (try with_reducible rfl)
              (try simp only [Act.put, List.setIfInBounds_toArray, List.set_cons_zero, List.set_cons_succ])
              refine wpAnyH_done (by kernel_rfl) ?_ _
              have gb : Below W5.heap.size W5 wZ := by repeat' (first | with_reducible assumption | with_reducible exact Below.refl _ _ | (with_reducible refine Below.setCell ?_ ?_ _) | (with_reducible refine Below.alloc ?_ ?_ _) | (with_reducible refine Below.drew ?_) | (with_reducible refine below_dr ?_ _) | (with_reducible refine Below.trans ?_ (Below.mono (by with_reducible assumption) ?_)) | omega | (simp; done) | (simp; omega))
              have HRF := Lib.hid (HRX.out.kept (grown_below gb (Nat.le_refl _)) (by simp) (by simp))
              have atF := atx.below gb
              have gF : Below w.heap.size w wZ := gx.trans (gb.mono gx.size)
              clear hbwX hbwY hbwZ hcwX hcwY hcwZ hHeld
              go_wp2_with fail
              go_roundw
              case rel => exact ⟨_, cnt1, s + c, rfl, HS.out, HKEY.out, HRF.out, atF, gF⟩
              case measure => (rw [HRF.out.left_eq]; exact HMEA.out)
end Go.Proofs.Ytdeemhfhmgnbgaa
