/- Walks: the flow of a list of edges: a map is filled. -/
import Derived.Test.YtdeemhfhmgnbgaaZb
import Derived.Test.YtdeemhfhmgnbgaaMo3
import Derived.Deep.RegionHeld3
namespace Go.Proofs.Ytdeemhfhmgnbgaa
open Go.RowKit Go.Maps Go.Sort
set_option linter.unusedVariables false
theorem bef_is (x y u v : Int) : decide (cfP (x, y) (u, v) < 0) = befB x y u v := by
  rw [Bool.eq_iff_iff]
  have := cfP_lt3 (x, y) (u, v)
  rw [this]
  unfold befB
  simp
theorem below_grown (w : World) (q : Nat) (os : Array Obj) : Below w.heap.size w (grow (w.drewN q) os) := by
  refine ⟨rfl, rfl, rfl, ?_, ?_⟩
  · show w.heap.size ≤ (w.heap ++ os).size
    simp
  · intro k hk
    show (w.heap ++ os)[k]? = _
    rw [Array.getElem?_append_left hk]
theorem below_eq {w w1 : World} {q : Nat} {os : Array Obj} (h : w1 = grow (w.drewN q) os) : Below w.heap.size w w1 := by rw [h]; exact below_grown w q os
set_option maxHeartbeats 1600000 in
theorem isBefore_any (x y u v : Int) (w : World) :
    Calls Try.prog 104 #[.agg #[.int .i64 x, .int .i64 y], .agg #[.int .i64 u, .int .i64 v]] w fun e w' => e = .returned (.bool (befB x y u v)) ∧ Below w.heap.size w w' := by
  have C := Lib.hid (fun w => compare_any x y u v w)
  have HB := Lib.hid (bef_is x y u v)
  generalize cfP (x, y) (u, v) = c at C HB
  go_enter Try.func104, Try.ntmps104
  go_wp2_with (go_at_call 112; refine (C.out _).mono ?_; rintro e w1 ⟨rfl, q, os, hw1⟩; have hb1 := below_eq hw1; clear hw1)
  go_ret
  exact ⟨ret_bool HB.out, by repeat' (first | with_reducible assumption | with_reducible exact Below.refl _ _ | (with_reducible refine Below.setCell ?_ ?_ _) | (with_reducible refine Below.alloc ?_ ?_ _) | (with_reducible refine Below.drew ?_) | (with_reducible refine below_dr ?_ _) | (with_reducible refine Below.trans ?_ (Below.mono (by with_reducible assumption) ?_)) | omega | (simp; done) | (simp; omega))⟩
set_option maxHeartbeats 1600000 in
theorem reversed_any (x y u v : Int) (w : World) :
    Calls Try.prog 105 #[.agg #[.int .i64 x, .int .i64 y, .int .i64 u, .int .i64 v]] w fun e w' => e = .returned (.agg #[.int .i64 u, .int .i64 v, .int .i64 x, .int .i64 y]) ∧ Below w.heap.size w w' := by
  go_enter Try.func105, Try.ntmps105
  go_wp2_with fail
  refine bodyPost_ret (v := .agg #[.int .i64 u, .int .i64 v, .int .i64 x, .int .i64 y]) (by simp [results, Try.results105, go_sem, *]) rfl ⟨rfl, by repeat' (first | with_reducible assumption | with_reducible exact Below.refl _ _ | (with_reducible refine Below.setCell ?_ ?_ _) | (with_reducible refine Below.alloc ?_ ?_ _) | (with_reducible refine Below.drew ?_) | (with_reducible refine below_dr ?_ _) | (with_reducible refine Below.trans ?_ (Below.mono (by with_reducible assumption) ?_)) | omega | (simp; done) | (simp; omega))⟩
set_option maxHeartbeats 1600000 in
theorem timesZ_any (x y n : Int) (w : World) (hx : IntKind.i64.wrap (n * x) = n * x) (hy : IntKind.i64.wrap (n * y) = n * y) :
    Calls Try.prog 97 #[.agg #[.int .i64 x, .int .i64 y], .int .i64 n] w fun e w' => e = .returned (.agg #[.int .i64 (n * x), .int .i64 (n * y)]) ∧ Below w.heap.size w w' := by
  go_enter Try.func97, Try.ntmps97
  go_wp2_with fail
  refine bodyPost_ret (v := .agg #[.int .i64 (n * x), .int .i64 (n * y)]) (by simp [results, Try.results97, go_sem, *]) rfl ⟨rfl, by repeat' (first | with_reducible assumption | with_reducible exact Below.refl _ _ | (with_reducible refine Below.setCell ?_ ?_ _) | (with_reducible refine Below.alloc ?_ ?_ _) | (with_reducible refine Below.drew ?_) | (with_reducible refine below_dr ?_ _) | (with_reducible refine Below.trans ?_ (Below.mono (by with_reducible assumption) ?_)) | omega | (simp; done) | (simp; omega))⟩
set_option maxHeartbeats 1600000 in
theorem minusZ_any (x y u v : Int) (w : World) (hx : IntKind.i64.wrap (x - u) = x - u) (hy : IntKind.i64.wrap (y - v) = y - v) :
    Calls Try.prog 106 #[.agg #[.int .i64 x, .int .i64 y], .agg #[.int .i64 u, .int .i64 v]] w fun e w' => e = .returned (.agg #[.int .i64 (x - u), .int .i64 (y - v)]) ∧ Below w.heap.size w w' := by
  go_enter Try.func106, Try.ntmps106
  go_wp2_with fail
  refine bodyPost_ret (v := .agg #[.int .i64 (x - u), .int .i64 (y - v)]) (by simp [results, Try.results106, go_sem, *]) rfl ⟨rfl, by repeat' (first | with_reducible assumption | with_reducible exact Below.refl _ _ | (with_reducible refine Below.setCell ?_ ?_ _) | (with_reducible refine Below.alloc ?_ ?_ _) | (with_reducible refine Below.drew ?_) | (with_reducible refine below_dr ?_ _) | (with_reducible refine Below.trans ?_ (Below.mono (by with_reducible assumption) ?_)) | omega | (simp; done) | (simp; omega))⟩
set_option maxHeartbeats 1600000 in
theorem crossZ_any (x y u v : Int) (w : World) (b3 : IntKind.i64.wrap (x * v) = x * v) (b4 : IntKind.i64.wrap (y * u) = y * u) (b5 : IntKind.i64.wrap (x * v - y * u) = x * v - y * u) :
    Calls Try.prog 80 #[.agg #[.int .i64 x, .int .i64 y], .agg #[.int .i64 u, .int .i64 v]] w fun e w' => e = .returned (.int .i64 (crI x y u v)) ∧ Below w.heap.size w w' := by
  have HR := Lib.hid (show x * v - y * u = crI x y u v from rfl)
  go_enter Try.func80, Try.ntmps80
  go_wp2_with fail
  go_ret
  exact ⟨ret_i64 HR.out, by repeat' (first | with_reducible assumption | with_reducible exact Below.refl _ _ | (with_reducible refine Below.setCell ?_ ?_ _) | (with_reducible refine Below.alloc ?_ ?_ _) | (with_reducible refine Below.drew ?_) | (with_reducible refine below_dr ?_ _) | (with_reducible refine Below.trans ?_ (Below.mono (by with_reducible assumption) ?_)) | omega | (simp; done) | (simp; omega))⟩
theorem zeroI : ∀ w : World, (zeroValue 2).run Try.prog w = .ok (.int .i64 0) w := fun w => by kernel_rfl
theorem below_map {b : Nat} {w w1 w2 : World} (h : Below b w w1) (hg : w1.grownBy w2 (some b)) (hb : b < w1.heap.size) : Below b w w2 :=
  h.trans ⟨hg.os, hg.tape, hg.output, hg.size, fun k hk => hg.block k (by omega) (fun e => by have := Option.some.inj e; omega)⟩
theorem grown_below {b : Nat} {w w' : World} (h : Below b w w') (hb : w.heap.size ≤ b) : w.grownBy w' none := ⟨h.os, h.tape, h.output, h.size, fun k hk _ => h.block k (by omega)⟩
/-- What a call that fills a map leaves. -/
def FlowRet (es : List AEdge) (w : World) (e : Ending) (w' : World) : Prop :=
  ∃ D : DataW Unit, e = .returned (.map (some w.heap.size)) ∧ w'.ownsMap Try.prog 114 (plainElem Try.prog 2) w.heap.size es.length D ∧ FlowIs D es ∧ Below w.heap.size w w'
set_option maxRecDepth 100000 in
set_option maxHeartbeats 12800000 in
theorem flowOf_any (es : List AEdge) (A : Option Addr) (c : Nat) (w : World) (hes : ∀ e ∈ es, okE e) (hl : es.length ≤ 400) (r : Rd cE 4 w w.heap.size A es) :
    Calls Try.prog 95 #[.slice A es.length c] w (FlowRet es w) := by
  unfold FlowRet
  have HES := Lib.hid hes
  clear hes
  obtain ⟨n, hn⟩ : ∃ n, n = es.length := ⟨_, rfl⟩
  rw [← hn] at hl ⊢
  have HN := Lib.hid hn
  clear hn
  have hmm := @run_makeMap Try.prog
  go_enter Try.func95, Try.ntmps95
  go_wp2_with fail
  go_loopw [9] (fun i wr => ∃ (k : Nat) (D : DataW Unit), k ≤ n ∧ i = .int .i64 (k : Int) ∧ wr.ownsMap Try.prog 114 (plainElem Try.prog 2) w.heap.size k D ∧ FlowIs D (es.take k) ∧ Below w.heap.size w wr) (fun i _ => n - (intOf i).toNat)
  case atStart => exact ⟨0, _, Nat.zero_le _, rfl, World.ownsMap_made _ _ _ _, flow_nil, (Below.refl _ _).alloc (Nat.le_refl _) _⟩
  case round =>
    obtain ⟨k, D, hk, rfl, own, hfl, hbl⟩ := hrel
    have zr := hbl.size
    have lm := own.lt
    by_cases hlt : k < n
    case pos =>
      obtain ⟨⟨x0, x1, x2, x3⟩, ha⟩ : ∃ a, es[k]? = some a := ⟨es[k]'(by have := HN.out; omega), List.getElem?_eq_getElem (by have := HN.out; omega)⟩
      obtain ⟨g, o, rfl, hg, hc⟩ := (r.below hbl).elem ha
      have p0 : wr.cell? ⟨g, o + k * 4, none⟩ = some (.int .i64 x0) := hc 0 _ rfl
      have p1 : wr.cell? ⟨g, o + k * 4 + 1, none⟩ = some (.int .i64 x1) := hc 1 _ rfl
      have p2 : wr.cell? ⟨g, o + k * 4 + 2, none⟩ = some (.int .i64 x2) := hc 2 _ rfl
      have p3 : wr.cell? ⟨g, o + k * 4 + 3, none⟩ = some (.int .i64 x3) := hc 3 _ rfl
      have hgw : g < wr.heap.size := by omega
      have hok := HES.out _ (List.mem_of_getElem? ha)
      have hki : (k : Int) < (n : Int) := by omega
      have HFL := Lib.hid (flow_snoc hfl (fun e he => HES.out e (List.mem_of_mem_take he)) hok)
      have HTK := Lib.hid (show es.take k ++ [(x0, x1, x2, x3)] = es.take (k + 1) by rw [List.take_add_one, ha]; rfl)
      have HNB := Lib.hid (netOf_bound (nrmE (x0, x1, x2, x3)) (es.take k))
      have hlk : (es.take k).length ≤ 400 := by rw [List.length_take]; omega
      have HAT := Lib.hid (hfl.at_ (nrmE (x0, x1, x2, x3)) (okE_in (okE_nrm hok)))
      have HKE := Lib.hid (keyE (nrmE (x0, x1, x2, x3)) (okE_in (okE_nrm hok)))
      clear hc ha hok hfl r
      rcases hbf : befB x0 x1 x2 x3 with _ | _
      case true =>
        have hnr : nrmE (x0, x1, x2, x3) = (x0, x1, x2, x3) := by unfold nrmE befE; rw [hbf]; rfl
        have hsg : sgE (x0, x1, x2, x3) = 1 := by unfold sgE befE; rw [hbf]; rfl
        rw [hnr, hsg] at HFL
        rw [hnr] at HNB HAT HKE
        have HBF := Lib.hid hbf
        clear hnr hsg hbf
        generalize netOf (es.take k) (x0, x1, x2, x3) = cur at HFL HNB HAT
        have hcw : IntKind.i64.wrap (cur + 1) = cur + 1 := IntWalk.i64_in _ (by have := HNB.out; omega)
        go_wp2_with (go_at_call 104; refine (isBefore_any x0 x1 x2 x3 _).mono ?_; rw [HBF.out]; rintro e w3 ⟨rfl, hb3⟩)
        have own3 : w3.drew.ownsMap Try.prog 114 (plainElem Try.prog 2) w.heap.size k D := ((own.alloc _).kept (grown_below hb3 (Nat.le_refl _)) (by simp)).drew
        obtain ⟨cur2, st, w4, l0, at0, wf0, m1, l1, g4, z4, fin⟩ := bump klEdge Try.underlying131 Try.underlying2 zeroI (by unfold maxLen; omega) own3 HKE.out
        rw [HAT.out] at at0
        obtain rfl : cur = cur2 := by injection at0 with at0; injection at0
        obtain ⟨w5, s5, own5, g5, z5⟩ := fin (cur + 1) (wf_in (by have := HNB.out; omega))
        have HOWN := Lib.hid own5
        have zz3 := hb3.size
        have s0 : w3.cell? ⟨wr.heap.size, 0, none⟩ = some (.int .i64 x0) := (hb3.cell (p := ⟨wr.heap.size, 0, none⟩) (by simp)).trans (by simp [go_sem])
        have s1 : w3.cell? ⟨wr.heap.size, 1, none⟩ = some (.int .i64 x1) := (hb3.cell (p := ⟨wr.heap.size, 1, none⟩) (by simp)).trans (by simp [go_sem])
        have s2 : w3.cell? ⟨wr.heap.size, 2, none⟩ = some (.int .i64 x2) := (hb3.cell (p := ⟨wr.heap.size, 2, none⟩) (by simp)).trans (by simp [go_sem])
        have s3 : w3.cell? ⟨wr.heap.size, 3, none⟩ = some (.int .i64 x3) := (hb3.cell (p := ⟨wr.heap.size, 3, none⟩) (by simp)).trans (by simp [go_sem])
        have HB5 := Lib.hid (show Below w.heap.size w w5 from below_map (b := w.heap.size) (w1 := w3.drew) (by repeat' (first | with_reducible assumption | with_reducible exact Below.refl _ _ | (with_reducible refine Below.setCell ?_ ?_ _) | (with_reducible refine Below.alloc ?_ ?_ _) | (with_reducible refine Below.drew ?_) | (with_reducible refine below_dr ?_ _) | (with_reducible refine Below.trans ?_ (Below.mono (by with_reducible assumption) ?_)) | omega | (simp; done) | (simp; omega))) g5 (by simp only [World.size_drew]; (try simp only [World.size_alloc] at zz3); omega))
        have HPUT := Lib.hid hcw
        unfold evE at l0 m1 l1
        simp only at l0 m1 l1
        clear fin own5 own3 own g4 g5 z4 z5 hb3 at0 hbl wf0 zz3
        go_region
        all_goals
          go_wp2_with fail
          go_roundw
          case rel => exact ⟨k + 1, _, by omega, by go_num, HOWN.out, by rw [← HTK.out]; exact HFL.out, HB5.out⟩
          case measure => simp [intOf]; omega
      case false =>
        have hnr : nrmE (x0, x1, x2, x3) = (x2, x3, x0, x1) := by unfold nrmE befE; rw [hbf]; rfl
        have hsg : sgE (x0, x1, x2, x3) = -1 := by unfold sgE befE; rw [hbf]; rfl
        rw [hnr, hsg] at HFL
        rw [hnr] at HNB HAT HKE
        have HBF := Lib.hid hbf
        clear hnr hsg hbf
        generalize netOf (es.take k) (x2, x3, x0, x1) = cur at HFL HNB HAT
        have hcw : IntKind.i64.wrap (cur - 1) = cur - 1 := IntWalk.i64_in _ (by have := HNB.out; omega)
        go_wp2_with (go_at_call 104; refine (isBefore_any x0 x1 x2 x3 _).mono ?_; rw [HBF.out]; rintro e w3 ⟨rfl, hb3⟩)
        have zz3 := hb3.size
        (try simp only [World.size_alloc] at zz3)
        have own3 : w3.ownsMap Try.prog 114 (plainElem Try.prog 2) w.heap.size k D := (own.alloc _).kept (grown_below hb3 (Nat.le_refl _)) (by simp)
        have gb3 : Below w.heap.size w w3 := by repeat' (first | with_reducible assumption | with_reducible exact Below.refl _ _ | (with_reducible refine Below.setCell ?_ ?_ _) | (with_reducible refine Below.alloc ?_ ?_ _) | (with_reducible refine Below.drew ?_) | (with_reducible refine below_dr ?_ _) | (with_reducible refine Below.trans ?_ (Below.mono (by with_reducible assumption) ?_)) | omega | (simp; done) | (simp; omega))
        have FIN := Lib.hid (show ∀ wR : World, Below w3.heap.size w3.drew wR → ∃ (st : Int) (w4 w5 : World), (Instr.lookup 131 (.map (some w.heap.size)) (.agg #[.int .i64 x2, .int .i64 x3, .int .i64 x0, .int .i64 x1]) false).run Try.prog wR = .ok (.int .i64 cur) wR ∧
            (Instr.mapEntry 131 (.map (some w.heap.size)) (.agg #[.int .i64 x2, .int .i64 x3, .int .i64 x0, .int .i64 x1])).run Try.prog wR = .ok (.tuple #[.int .i64 cur, .int .i64 st]) w4 ∧
            (Instr.lookup 131 (.map (some w.heap.size)) (.agg #[.int .i64 x2, .int .i64 x3, .int .i64 x0, .int .i64 x1]) false).run Try.prog w4 = .ok (.int .i64 cur) w4 ∧
            (Instr.entryStore 131 (.map (some w.heap.size)) (.int .i64 st) (.int .i64 (cur - 1))).run Try.prog w4 = .ok () w5 ∧
            Hid (w5.ownsMap Try.prog 114 (plainElem Try.prog 2) w.heap.size (k + 1) (D.put (klE (x2, x3, x0, x1)) (.lit (.int .i64 (cur - 1))))) ∧ Hid (Below w.heap.size w w5) from by
          intro wR hbR
          have ownR : wR.ownsMap Try.prog 114 (plainElem Try.prog 2) w.heap.size k D := own3.drew.kept (grown_below hbR (Nat.le_refl _)) (by simp)
          obtain ⟨cur2, st, w4, l0, at0, wf0, m1, l1, g4, z4, fin⟩ := bump klEdge Try.underlying131 Try.underlying2 zeroI (by unfold maxLen; omega) ownR HKE.out
          rw [HAT.out] at at0
          obtain rfl : cur = cur2 := by injection at0 with at0; injection at0
          obtain ⟨w5, s5, own5, g5, z5⟩ := fin (cur - 1) (wf_in (by have := HNB.out; omega))
          have hbz := hbR.size
          exact ⟨st, w4, w5, l0, m1, l1, s5, own5, show Below w.heap.size w w5 from below_map (b := w.heap.size) (w1 := wR) (by repeat' (first | with_reducible assumption | with_reducible exact Below.refl _ _ | (with_reducible refine Below.setCell ?_ ?_ _) | (with_reducible refine Below.alloc ?_ ?_ _) | (with_reducible refine Below.drew ?_) | (with_reducible refine below_dr ?_ _) | (with_reducible refine Below.trans ?_ (Below.mono (by with_reducible assumption) ?_)) | omega | (simp; done) | (simp; omega))) g5 (by simp only [World.size_drew] at hbz; omega)⟩)
        have s0 : w3.cell? ⟨wr.heap.size, 0, none⟩ = some (.int .i64 x0) := (hb3.cell (p := ⟨wr.heap.size, 0, none⟩) (by simp)).trans (by simp [go_sem])
        have s1 : w3.cell? ⟨wr.heap.size, 1, none⟩ = some (.int .i64 x1) := (hb3.cell (p := ⟨wr.heap.size, 1, none⟩) (by simp)).trans (by simp [go_sem])
        have s2 : w3.cell? ⟨wr.heap.size, 2, none⟩ = some (.int .i64 x2) := (hb3.cell (p := ⟨wr.heap.size, 2, none⟩) (by simp)).trans (by simp [go_sem])
        have s3 : w3.cell? ⟨wr.heap.size, 3, none⟩ = some (.int .i64 x3) := (hb3.cell (p := ⟨wr.heap.size, 3, none⟩) (by simp)).trans (by simp [go_sem])
        have HSG := Lib.hid (show cur + -1 = cur - 1 by omega)
        rw [HSG.out] at HFL
        clear own3 own hb3 hbl zz3 gb3
        go_region_with (go_at_call 105; refine (reversed_any x0 x1 x2 x3 _).mono ?_; rintro e wR ⟨rfl, hbR⟩; obtain ⟨st, w4, w5, l0, m1, l1, s5, HOWN, HB5⟩ := FIN.out wR hbR; clear hbR)
        all_goals
          go_wp2_with fail
          go_roundw
          case rel => exact ⟨k + 1, _, by omega, by go_num, HOWN.out, by rw [← HTK.out]; exact HFL.out, HB5.out⟩
          case measure => simp [intOf]; omega
      
    case neg =>
      obtain rfl : k = n := by omega
      rw [List.take_of_length_le (by have := HN.out; omega)] at hfl
      go_wp2_with fail
      go_ret
      exact ⟨D, rfl, own, hfl, hbl⟩
end Go.Proofs.Ytdeemhfhmgnbgaa
