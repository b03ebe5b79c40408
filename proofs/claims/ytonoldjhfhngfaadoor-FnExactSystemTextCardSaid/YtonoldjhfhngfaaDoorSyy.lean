/- Walks: the text of an expression, the program's side. -/
import Derived.Test.YtonoldjhfhngfaaDoorSyx
namespace Go.Proofs.YtonoldjhfhngfaaDoor
open Go.RowKit
set_option linter.unusedVariables false
theorem one_str (vs : List ByteArray) : ∀ u ∈ cellsF cS vs, u.oneCell' = true := cellsF_one (fun a => cS_one a) vs
theorem neq_frac {a b c d : Int} (w : World) : (Go.binOp BinOp.neq 47 (.agg #[.int .i64 a, .int .i64 b]) (.agg #[.int .i64 c, .int .i64 d])).run Tryd.prog w = Result.ok (.bool (!decide (a = c ∧ b = d))) w := by
  by_cases h1 : a = c
  · subst h1
    by_cases h2 : b = d
    · subst h2; simp [go_sem]
    · simp [go_sem, h2]
  · simp [go_sem, h1]
theorem OwS.nil (w : World) (base : Nat) : OwS w base none 0 0 [] := ⟨rfl, World.ownsRow_nil _ _ _ _⟩
theorem joinLn_any {ws : List ByteArray} {A : Option Addr} {n c base : Nat} {w : World} (h : OwS w base A n c ws) (h1 : 0 < ws.length) (hm : ∀ y, y ∈ ws → y.size ≤ 56) (hN : ws.length ≤ 100) :
    Calls Tryd.prog 46 #[.slice A n c, .string ⟨#[32, 43, 32]⟩] w fun e w' => e = .returned (.string (joinB ⟨#[32, 43, 32]⟩ ws)) ∧ Below w.heap.size w w' := by
  obtain ⟨rfl, ho⟩ := h
  obtain ⟨g, cap, hv, hcap, hlt⟩ := ho.form h1
  obtain ⟨rfl, rfl⟩ : A = some ⟨g, 0, none⟩ ∧ c = cap := by injection hv with a b c; exact ⟨a, c⟩
  have hcc : ws.length ≤ c := by
    rcases ho.2 with ⟨h, _⟩ | ⟨g', cap', cur, hv', _, _, hnc, _⟩
    · cases h
    · obtain ⟨_, _, rfl⟩ : some (⟨g, 0, none⟩ : Addr) = some ⟨g', 0, none⟩ ∧ ws.length = ws.length ∧ c = cap' := by injection hv' with a b c; exact ⟨a, b, c⟩
      exact hnc
  have h3 : (⟨#[32, 43, 32]⟩ : ByteArray).size = 3 := rfl
  refine joinS_any ws g c 56 ⟨#[32, 43, 32]⟩ w (fun j x hx => ?_) hlt hcc hm (by rw [h3]; omega) (by omega)
  have hj : j < ws.length := (List.getElem?_eq_some_iff.1 hx).1
  have h2 := ho.cellAt j (by omega)
  rw [h2, cellsS_at, hx]; rfl
theorem tw_step {l : List ATerm} {k : Nat} {a : ATerm} (h : l[k]? = some a) : (l.take (k + 1)).map tmT = (l.take k).map tmT ++ [tmT a] := by
  rw [List.take_add_one, h, List.map_append]; rfl
theorem tw_len {l : List ATerm} {k : Nat} (h : k ≤ l.length) : ((l.take k).map tmT).length = k := by
  rw [List.length_map, List.length_take]; omega
theorem linW_small {n d : Int} {l : List ATerm} (h : vLin n d l = true) : ∀ y, y ∈ linW n d l → y.size ≤ 56 := by
  intro y hy
  unfold linW at hy
  rcases List.mem_append.1 hy with hy | hy
  · obtain ⟨a, ha, rfl⟩ := List.mem_map.1 hy
    obtain ⟨i, hi⟩ := List.mem_iff_getElem?.1 ha
    exact tmT_size (vLin_tok h hi)
  · split at hy
    · cases hy
    · have := fracB_sz (vLin_const h)
      rw [List.mem_singleton.1 hy]; omega
theorem linW_len {n d : Int} {l : List ATerm} (h : vLin n d l = true) : (linW n d l).length ≤ 13 := by
  have := vLin_len h
  unfold linW
  rw [List.length_append, List.length_map]
  split <;> simp <;> omega
set_option maxRecDepth 100000 in
set_option maxHeartbeats 6400000 in
theorem implLinearText_yes (n d : Int) (A : Option Addr) (c : Nat) (l : List ATerm) (w : World) (hv : vLin n d l = true) (r : Rd cTerm 3 w w.heap.size A l) (hok : ∀ (w2 : World) (B : Nat) (i : Nat) (b : ATerm), l[i]? = some b → okTerm w2 B b) (ht : Lib.TabIs Tryd.prog w "internal/strconv.uint64pow10" .u64 Lib.pow10Tab) :
    Calls Tryd.prog 24 #[.agg #[.int .i64 n, .int .i64 d, .slice A l.length c]] w fun e w' => e = .returned (.string (joinB ⟨#[32, 43, 32]⟩ (linW n d l))) ∧ Below w.heap.size w w' := by
  have HV := Lib.hid hv
  have hc := vLin_const hv
  have hlen := vLin_len hv
  have hcb := vb_in hc
  have CV := Lib.hid (fun w r => implValidLinear_any n d A c l w hcb.1 hcb.2 (by omega) r hok)
  rw [hv] at CV
  have HSM := Lib.hid (linW_small hv)
  have HLN := Lib.hid (linW_len hv)
  have HTAB := Lib.hid (fun w1 (hb : Below w.heap.size w w1) => Joins.tab_stays gPow ht hb (Nat.le_refl _))
  have CK0 := fun w1 (hb : Below w.heap.size w w1) => implFracText_any n d w1 hcb.1 hcb.2 (HTAB.out w1 hb)
  simp only [textOf_yes hc] at CK0
  have CK := Lib.hid CK0
  have hF := fracB_sz hc
  have HC := Lib.hid hc
  clear hv hc hcb CK0 hok ht
  obtain ⟨i0, hi0, hz0', hz1', hz2'⟩ := info_parts infoStr
  have HI0 := Lib.hid hi0
  have HZ0 := Lib.hid hz0'
  have HZ1 := Lib.hid hz1'
  have HZ2 := Lib.hid hz2'
  clear hi0 hz0' hz1' hz2'
  obtain ⟨T, hT⟩ : ∃ T, T = joinB ⟨#[32, 43, 32]⟩ (linW n d l) := ⟨_, rfl⟩
  rw [← hT]
  have HT := Lib.hid hT
  clear hT
  obtain ⟨m, hm⟩ : ∃ m, m = l.length := ⟨_, rfl⟩
  rw [← hm] at hlen CV ⊢
  have HM := Lib.hid hm
  clear hm
  go_enter Tryd.func24, Tryd.ntmps24
  go_wp2_with fail
  refine (CV.out _ ?_).mono ?_
  · (refine Rd.more (B := w.heap.size) ?_ (by first | omega | ((try simp only [World.size_setCell]); (try simp only [World.size_drew]); (try simp only [World.size_alloc]); omega) | (simp; done) | (simp; omega))); (repeat' (first | with_reducible assumption | (with_reducible refine Rd.drew ?_) | (with_reducible refine Rd.carry ?_ (by with_reducible assumption) ?_) | (with_reducible refine Rd.alloc ?_ ?_ _) | (with_reducible refine Rd.setCell ?_ ?_ _) | omega | (simp; done) | (simp; omega)))
  rintro e w1 ⟨rfl, hb1⟩
  have at1 : AtL w.heap.size [.int .i64 n, .int .i64 d, .slice A m c] w1 := (AtL.new w _ _).below hb1
  have g1 : Below w.heap.size w w1 := by repeat' (first | with_reducible assumption | with_reducible exact Below.refl _ _ | (with_reducible refine Below.setCell ?_ ?_ _) | (with_reducible refine Below.alloc ?_ ?_ _) | (with_reducible refine Below.drew ?_) | (with_reducible refine below_dr ?_ _) | (with_reducible refine Below.trans ?_ (Below.mono (by with_reducible assumption) ?_)) | omega | (simp; done) | (simp; omega))
  have k2 := at1.cell 2 rfl
  have lw := at1.lt
  clear hb1 CV
  go_wp2_with fail
  clear k2 lw
  go_loopw [3, 12] (fun s i wr => ∃ (k : Nat) (A' : Option Addr) (p c' : Nat), k ≤ m ∧ i = .int .i64 (k : Int) ∧ s = .slice A' p c' ∧ OwS wr (w.heap.size + 1) A' p c' ((l.take k).map tmT) ∧ AtL w.heap.size [.int .i64 n, .int .i64 d, .slice A m c] wr ∧ Below w.heap.size w wr) (fun _ i _ => m - (intOf i).toNat)
  case atStart => exact ⟨0, none, 0, 0, Nat.zero_le _, rfl, rfl, OwS.nil _ _, at1, g1⟩
  case round =>
    clear at1 g1
    obtain ⟨k, A', p, c', hk, rfl, rfl, ow, at1, hbl⟩ := hrel
    have zr := hbl.size
    have lw := at1.lt
    have hp : p = k := by rw [ow.1, tw_len (by have := HM.out; omega)]
    subst hp
    by_cases hlt : p < m
    case pos =>
      obtain ⟨⟨x0, x1, x2⟩, ha⟩ : ∃ a, l[p]? = some a := ⟨l[p]'(by have := HM.out; omega), List.getElem?_eq_getElem (by have := HM.out; omega)⟩
      have htk := vLin_tok HV.out ha
      obtain ⟨hvb, hnm⟩ := tok_parts htk
      have hin := vb_in hvb
      have CT0 := fun w1 (hb : Below w.heap.size w w1) => implFracText_any x1 x2 w1 hin.1 hin.2 (HTAB.out w1 hb)
      have hvb' : validB x1 x2 = true := hvb
      simp only [textOf_yes hvb'] at CT0
      have CT := Lib.hid CT0
      have ht2 : (fracB x1 x2).size ≤ 43 := fracB_sz hvb'
      have HST := Lib.hid (show (l.take p).map tmT ++ [fracB x1 x2 ++ ⟨#[42]⟩ ++ x0] = (l.take (p + 1)).map tmT from (tw_step ha).symm)
      obtain ⟨g, o, rfl, hg, hc⟩ := (r.below hbl).elem ha
      have c0 : wr.cell? ⟨g, o + p * 3, none⟩ = some (.string x0) := hc 0 _ rfl
      have c1 : wr.cell? ⟨g, o + p * 3 + 1, none⟩ = some (.int .i64 x1) := hc 1 _ rfl
      have c2 : wr.cell? ⟨g, o + p * 3 + 2, none⟩ = some (.int .i64 x2) := hc 2 _ rfl
      have hgw : g < wr.heap.size := by omega
      have hki : (p : Int) < (m : Int) := by omega
      clear hc htk hvb hvb' hin CT0 ha r CK hF
      dsimp only at hnm
      generalize fracB x1 x2 = u at CT ht2 HST
      have f1 : (9223372036854775807 < u.size + 1) = False := by simp only [eq_iff_iff, iff_false]; omega
      have f2 : (9223372036854775807 < u.size + 1 + x0.size) = False := by simp only [eq_iff_iff, iff_false]; omega
      go_wp2_with fail
      generalize hW : wr.alloc (.cells #[.string x0, .int .i64 x1, .int .i64 x2] 82) = WK
      obtain ⟨Q, hQ⟩ : ∃ Q, Q = wr.heap.size := ⟨_, rfl⟩
      have bkK : Blk WK Q 82 #[.string x0, .int .i64 x1, .int .i64 x2] := by rw [← hW, hQ]; exact Blk.new _ _ _
      have owK : OwS WK (w.heap.size + 1) A' p c' ((l.take p).map tmT) := by rw [← hW]; exact ow.alloc _
      have atK : AtL w.heap.size [.int .i64 n, .int .i64 d, .slice (some ⟨g, o, none⟩) m c] WK := by rw [← hW]; exact at1.alloc _
      have gK : Below w.heap.size w WK := by rw [← hW]; repeat' (first | with_reducible assumption | with_reducible exact Below.refl _ _ | (with_reducible refine Below.setCell ?_ ?_ _) | (with_reducible refine Below.alloc ?_ ?_ _) | (with_reducible refine Below.drew ?_) | (with_reducible refine below_dr ?_ _) | (with_reducible refine Below.trans ?_ (Below.mono (by with_reducible assumption) ?_)) | omega | (simp; done) | (simp; omega))
      rw [← hQ]
      clear hW hQ ow at1 hbl c0 c1 c2 zr lw
      have zK := gK.size
      have lQ := bkK.lt
      have q0 := bkK.cell 0 rfl
      have q1 := bkK.cell 1 rfl
      have q2 := bkK.cell 2 rfl
      have HMX := Lib.hid (show p + 1 ≤ maxLen by unfold maxLen; omega)
      have HBY := Lib.hid (show (p + 1) * 16 ≤ 140737488355328 by omega)
      go_region_law (first | (refine step_append_any _ rfl (.tmp 16) (.tmp 24) _ rfl (w.heap.size + 1) 9 i0 _ 1 16 Tryd.underlying36 HI0.out HZ0.out HZ1.out HZ2.out rfl (by omega) (.slice A' p c') p _ rfl HOM.out _ (some ⟨wM.heap.size, 0, none⟩) 1 1 [.string (u ++ ⟨#[42]⟩ ++ x0)] rfl HRD.out (one_str [(u ++ (⟨#[42]⟩ : ByteArray) ++ x0 : ByteArray)]) HMX.out HBY.out HBS.out ?_; intro v' w9 hown9 hg9 hat9; obtain ⟨g9, cap9, rfl, _, _⟩ := hown9.form (by omega); have HOWN9 := Lib.hid hown9; have HG9 := Lib.hid hg9; clear hown9 hg9 hat9) | (go_simp; go_at_call 44; (with_reducible refine (CT.out _ (by repeat' (first | with_reducible assumption | with_reducible exact Below.refl _ _ | (with_reducible refine Below.setCell ?_ ?_ _) | (with_reducible refine Below.alloc ?_ ?_ _) | (with_reducible refine Below.drew ?_) | (with_reducible refine below_dr ?_ _) | (with_reducible refine Below.trans ?_ (Below.mono (by with_reducible assumption) ?_)) | omega | (simp; done) | (simp; omega)))).mono ?_); rintro e wM ⟨rfl, hbM⟩; have bkM : Blk wM Q 82 #[.string x0, .int .i64 x1, .int .i64 x2] := (by first | exact bkK.drew.carry hbM | exact bkK.carry hbM); have y0 := bkM.cell 0 rfl; have lM := bkM.lt; have owM : OwS wM (w.heap.size + 1) A' p c' ((l.take p).map tmT) := (by first | exact owK.drew.stays hbM | exact owK.stays hbM); have atM : AtL w.heap.size [.int .i64 n, .int .i64 d, .slice (some ⟨g, o, none⟩) m c] wM := (by first | exact atK.drew.below hbM | exact atK.below hbM); have gM : Below w.heap.size w wM := (by repeat' (first | with_reducible assumption | with_reducible exact Below.refl _ _ | (with_reducible refine Below.setCell ?_ ?_ _) | (with_reducible refine Below.alloc ?_ ?_ _) | (with_reducible refine Below.drew ?_) | (with_reducible refine below_dr ?_ _) | (with_reducible refine Below.trans ?_ (Below.mono (by with_reducible assumption) ?_)) | omega | (simp; done) | (simp; omega))); have zM := gM.size; have HOM := Lib.hid (show (wM.alloc (.cells #[.string (u ++ ⟨#[42]⟩ ++ x0)] 9)).ownsRow (w.heap.size + 1) 9 1 (.slice A' p c') p _ from (owM.alloc _).2); have HRD := Lib.hid (reads_new wM [.string (u ++ ⟨#[42]⟩ ++ x0)] 9); have HRB := Lib.hid owM.block; have HBS := Lib.hid (show w.heap.size + 1 ≤ (wM.alloc (.cells #[.string (u ++ ⟨#[42]⟩ ++ x0)] 9)).heap.size from (by simp; omega))))
      all_goals
        have g9b : Below w.heap.size w w9 := below_of_grown (show Below w.heap.size w (wM.alloc (.cells #[.string (u ++ ⟨#[42]⟩ ++ x0)] 9)) by repeat' (first | with_reducible assumption | with_reducible exact Below.refl _ _ | (with_reducible refine Below.setCell ?_ ?_ _) | (with_reducible refine Below.alloc ?_ ?_ _) | (with_reducible refine Below.drew ?_) | (with_reducible refine below_dr ?_ _) | (with_reducible refine Below.trans ?_ (Below.mono (by with_reducible assumption) ?_)) | omega | (simp; done) | (simp; omega))) HG9.out (by simp; omega) (fun q hq => by have := HRB.out q hq; omega)
        have at9 : AtL w.heap.size [.int .i64 n, .int .i64 d, .slice (some ⟨g, o, none⟩) m c] w9 := AtL.grown (atM.alloc (.cells #[.string (u ++ ⟨#[42]⟩ ++ x0)] 9)) HG9.out (fun q hq => by have := HRB.out q hq; omega)
        have ow9 : OwS w9 (w.heap.size + 1) (some ⟨g9, 0, none⟩) (p + 1) cap9 ((l.take p).map tmT ++ [u ++ ⟨#[42]⟩ ++ x0]) := OwS.grown (by have := owM.1; simp only [List.length_cons, List.length_nil]; omega) HOWN9.out
        go_wp2_with fail
        go_roundw
        case rel => exact ⟨p + 1, _, _, _, by omega, by go_num, rfl, by rw [HST.out] at ow9; exact ow9, at9, g9b⟩
        case measure => first | (simp [intOf]; done) | (simp [intOf]; omega)
    case neg =>
      obtain rfl : m = p := by omega
      have hki : ¬ ((m : Int) < (m : Int)) := by omega
      have k0 := at1.cell 0 rfl
      have k1 := at1.cell 1 rfl
      have hne := fun w => neq_frac (a := n) (b := d) (c := 0) (d := 1) w
      have HTW := Lib.hid (show (l.take m).map tmT = l.map tmT from by rw [HM.out, List.take_length])
      rw [HTW.out] at ow
      clear r HTW
      go_wp2_with fail
      have HP := Lib.hid (show (l.map tmT).length = m from by rw [List.length_map, HM.out])
      by_cases hn0 : n = 0
      · subst hn0
        obtain rfl : d = 1 := zero_den HC.out
        have e_ne : ∀ w, (Go.binOp BinOp.neq 47 (.agg #[.int .i64 0, .int .i64 1]) (.agg #[.int .i64 0, .int .i64 1])).run Tryd.prog w = Result.ok (.bool false) w := fun w => by rw [neq_frac]; rfl
        clear hne
        by_cases hm0 : m = 0
        · have hl : l = [] := List.eq_nil_of_length_eq_zero (by rw [← HM.out]; exact hm0)
          have HQ := Lib.hid (show linW 0 1 l = l.map tmT ++ [fracB 0 1] from by unfold linW; rw [hl, if_neg (by simp)])
          have hme : ((m : Int) == 0) = true := by subst hm0; rfl
          have HM0 := Lib.hid hm0
          clear hm0 hl
          generalize fracB 0 1 = F at CK HQ hF
          go_region_held3 (fun w' => (∀ b o, b < wr.heap.size → w'.cell? ⟨b, o, none⟩ = wr.cell? ⟨b, o, none⟩) ∧ wr.heap.size ≤ w'.heap.size)
            (first | ((try dsimp only); exact ⟨fun b o h => (by (repeat (first | with_reducible exact rfl | (with_reducible refine (cell_drew_at _ _).trans ?_) | (with_reducible refine (cell_set_at _ _ (by first | omega | (simp; done) | (simp; omega))).trans ?_) | (with_reducible refine (cell_alloc_at _ _ (by first | omega | (simp; done) | (simp; omega))).trans ?_)))), (by first | omega | (simp; done) | (simp; omega))⟩) | fail)
            (first
              | (go_at_call 45; (with_reducible refine (wholeFrac_x _ _).mono ?_); rintro e wA ⟨rfl, rfl⟩))
          all_goals
            go_wp2_with fail
            refine (CK.out _ (by repeat' (first | with_reducible assumption | with_reducible exact Below.refl _ _ | (with_reducible refine Below.setCell ?_ ?_ _) | (with_reducible refine Below.alloc ?_ ?_ _) | (with_reducible refine Below.drew ?_) | (with_reducible refine below_dr ?_ _) | (with_reducible refine Below.trans ?_ (Below.mono (by with_reducible assumption) ?_)) | omega | (simp; done) | (simp; omega)))).mono ?_
            rintro e w3 ⟨rfl, hb3⟩
            have ow3 : OwS w3 (w.heap.size + 1) A' m c' (l.map tmT) := by repeat' (first | with_reducible assumption | (with_reducible refine OwS.stays ?_ (by with_reducible assumption)) | (with_reducible refine OwS.drew ?_) | (with_reducible refine OwS.alloc ?_ _))
            have g3 : Below w.heap.size w w3 := by repeat' (first | with_reducible assumption | with_reducible exact Below.refl _ _ | (with_reducible refine Below.setCell ?_ ?_ _) | (with_reducible refine Below.alloc ?_ ?_ _) | (with_reducible refine Below.drew ?_) | (with_reducible refine below_dr ?_ _) | (with_reducible refine Below.trans ?_ (Below.mono (by with_reducible assumption) ?_)) | omega | (simp; done) | (simp; omega))
            have z3 := g3.size
            clear hb3
            have HOW := Lib.hid (show (w3.alloc (.cells #[.string F] 9)).ownsRow (w.heap.size + 1) 9 1 (.slice A' m c') m _ from (ow3.alloc _).2)
            have HRD := Lib.hid (reads_new w3 [.string F] 9)
            have HRB := Lib.hid ow3.block
            have HMX := Lib.hid (show m + 1 ≤ maxLen by unfold maxLen; omega)
            have HBY := Lib.hid (show (m + 1) * 16 ≤ 140737488355328 by omega)
            have HBS := Lib.hid (show w.heap.size + 1 ≤ (w3.alloc (.cells #[.string F] 9)).heap.size by simp; omega)
            go_wp2_with (at_builtin; refine wpList_append_any _ rfl (.tmp 36) (.tmp 40) _ rfl (w.heap.size + 1) 9 i0 _ 1 16 Tryd.underlying36 HI0.out HZ0.out HZ1.out HZ2.out rfl (by omega) (.slice A' m c') m _ rfl HOW.out _ (some ⟨w3.heap.size, 0, none⟩) 1 1 [.string F] rfl HRD.out (one_str [F]) HMX.out HBY.out HBS.out ?_; intro v9 w9 hown9 hg9 hat9; obtain ⟨g9, cap9, rfl, _, _⟩ := hown9.form (by omega); have HOWN9 := Lib.hid hown9; have HG9 := Lib.hid hg9; clear hown9 hg9 hat9)
            have g9b : Below w.heap.size w w9 := below_of_grown (show Below w.heap.size w (w3.alloc (.cells #[.string F] 9)) by repeat' (first | with_reducible assumption | with_reducible exact Below.refl _ _ | (with_reducible refine Below.setCell ?_ ?_ _) | (with_reducible refine Below.alloc ?_ ?_ _) | (with_reducible refine Below.drew ?_) | (with_reducible refine below_dr ?_ _) | (with_reducible refine Below.trans ?_ (Below.mono (by with_reducible assumption) ?_)) | omega | (simp; done) | (simp; omega))) HG9.out (by simp; omega) (fun q hq => by have := HRB.out q hq; omega)
            have ow9 : OwS w9 (w.heap.size + 1) (some ⟨g9, 0, none⟩) (m + 1) cap9 (l.map tmT ++ [F]) := OwS.grown (by have := ow3.1; simp only [List.length_cons, List.length_nil]; omega) HOWN9.out
            have z9 := g9b.size
            refine (joinLn_any ow9 ?_ ?_ ?_).mono ?_
            · first | (simp; done) | (have := HP.out; omega)
            · intro y hy; exact HSM.out y (by rw [HQ.out]; exact hy)
            · have h1 := HLN.out; rw [HQ.out] at h1; omega
            rintro e wJ ⟨rfl, hbJ⟩
            go_wp2_with fail
            go_ret
            exact ⟨by rw [HT.out, HQ.out]; first | rfl | simp, by repeat' (first | with_reducible assumption | with_reducible exact Below.refl _ _ | (with_reducible refine Below.setCell ?_ ?_ _) | (with_reducible refine Below.alloc ?_ ?_ _) | (with_reducible refine Below.drew ?_) | (with_reducible refine below_dr ?_ _) | (with_reducible refine Below.trans ?_ (Below.mono (by with_reducible assumption) ?_)) | omega | (simp; done) | (simp; omega))⟩
        · have hne2 : ¬ l = [] := by intro e; have := HM.out; rw [e] at this; exact hm0 this
          have HQ := Lib.hid (show linW 0 1 l = l.map tmT from by unfold linW; rw [if_pos ⟨rfl, hne2⟩, List.append_nil])
          have hme : ((m : Int) == 0) = false := by simp; omega
          clear hne2 CK hF
          go_region_held3 (fun w' => (∀ b o, b < wr.heap.size → w'.cell? ⟨b, o, none⟩ = wr.cell? ⟨b, o, none⟩) ∧ wr.heap.size ≤ w'.heap.size)
            (first | ((try dsimp only); exact ⟨fun b o h => (by (repeat (first | with_reducible exact rfl | (with_reducible refine (cell_drew_at _ _).trans ?_) | (with_reducible refine (cell_set_at _ _ (by first | omega | (simp; done) | (simp; omega))).trans ?_) | (with_reducible refine (cell_alloc_at _ _ (by first | omega | (simp; done) | (simp; omega))).trans ?_)))), (by first | omega | (simp; done) | (simp; omega))⟩) | fail)
            (first
              | (go_at_call 45; (with_reducible refine (wholeFrac_x _ _).mono ?_); rintro e wA ⟨rfl, rfl⟩))
          all_goals
            go_wp2_with fail
            refine (joinLn_any (show OwS _ (w.heap.size + 1) A' m c' (l.map tmT) from by repeat' (first | with_reducible assumption | (with_reducible refine OwS.stays ?_ (by with_reducible assumption)) | (with_reducible refine OwS.drew ?_) | (with_reducible refine OwS.alloc ?_ _))) ?_ ?_ ?_).mono ?_
            · first | (simp; done) | (have := HP.out; omega)
            · intro y hy; exact HSM.out y (by rw [HQ.out]; exact hy)
            · have h1 := HLN.out; rw [HQ.out] at h1; omega
            rintro e wJ ⟨rfl, hbJ⟩
            go_wp2_with fail
            go_ret
            exact ⟨by rw [HT.out, HQ.out]; first | rfl | simp, by repeat' (first | with_reducible assumption | with_reducible exact Below.refl _ _ | (with_reducible refine Below.setCell ?_ ?_ _) | (with_reducible refine Below.alloc ?_ ?_ _) | (with_reducible refine Below.drew ?_) | (with_reducible refine below_dr ?_ _) | (with_reducible refine Below.trans ?_ (Below.mono (by with_reducible assumption) ?_)) | omega | (simp; done) | (simp; omega))⟩
      · have HQ := Lib.hid (show linW n d l = l.map tmT ++ [fracB n d] from by unfold linW; rw [if_neg (fun e => hn0 e.1)])
        have e_ne : ∀ w, (Go.binOp BinOp.neq 47 (.agg #[.int .i64 n, .int .i64 d]) (.agg #[.int .i64 0, .int .i64 1])).run Tryd.prog w = Result.ok (.bool true) w := fun w => by rw [neq_frac, decide_eq_false (fun e => hn0 e.1)]; rfl
        clear hne hn0
        generalize fracB n d = F at CK HQ hF
        refine wp_region_held_drew (S := (fun w' => (∀ b o, b < wr.heap.size → w'.cell? ⟨b, o, none⟩ = wr.cell? ⟨b, o, none⟩) ∧ wr.heap.size ≤ w'.heap.size)) (by kernel_rfl) ?_ (fun hHeld => ?_)
        · (try dsimp only); (first | ((try dsimp only); exact ⟨fun b o h => (by (repeat (first | with_reducible exact rfl | (with_reducible refine (cell_drew_at _ _).trans ?_) | (with_reducible refine (cell_set_at _ _ (by first | omega | (simp; done) | (simp; omega))).trans ?_) | (with_reducible refine (cell_alloc_at _ _ (by first | omega | (simp; done) | (simp; omega))).trans ?_)))), (by first | omega | (simp; done) | (simp; omega))⟩) | fail)
        refine wpAnyH_take (i := 0) (oi := ⟨_, _, _, _, _, _⟩) (v := ?_) rfl (by kernel_rfl) (by kernel_rfl) (by kernel_rfl) (fun _ _ _ h => h) (Or.inl ⟨by rfl, ?_⟩) (by assumption) ?_
        rotate_left
        · intro w hSw; (try dsimp only at hSw); go_simp; (try with_reducible rfl)
        (try simp only [Act.put, List.setIfInBounds_toArray, List.set_cons_zero, List.set_cons_succ])
        refine wpAnyH_take (i := 1) (oi := ⟨_, _, _, _, _, _⟩) (v := ?_) rfl (by kernel_rfl) (by kernel_rfl) (by kernel_rfl) (fun _ _ _ h => h) (Or.inl ⟨by rfl, ?_⟩) (by assumption) ?_
        rotate_left
        · intro w hSw; (try dsimp only at hSw); go_simp; (try with_reducible rfl)
        (try simp only [Act.put, List.setIfInBounds_toArray, List.set_cons_zero, List.set_cons_succ])
        refine wpAnyH_ready (rs := [2]) (by kernel_rfl) (by simp) ?_
        refine AllReadyH.cons (o := ⟨_, _, _, _, _, _⟩) rfl (fun K hK => ?_) AllReadyH.nil
        go_simp
        (go_at_call 45; (with_reducible refine (wholeFrac_x _ _).mono ?_); rintro e wA ⟨rfl, rfl⟩)
        refine hK.out _ _ ?_ (fun hHeld => ?_)
        · (try dsimp only); (first | ((try dsimp only); exact ⟨fun b o h => (by (repeat (first | with_reducible exact rfl | (with_reducible refine (cell_drew_at _ _).trans ?_) | (with_reducible refine (cell_set_at _ _ (by first | omega | (simp; done) | (simp; omega))).trans ?_) | (with_reducible refine (cell_alloc_at _ _ (by first | omega | (simp; done) | (simp; omega))).trans ?_)))), (by first | omega | (simp; done) | (simp; omega))⟩) | fail)
        clear hK K
        (try simp only [Act.put, List.setIfInBounds_toArray, List.set_cons_zero, List.set_cons_succ])
        refine wpAnyH_take (i := 3) (oi := ⟨_, _, _, _, _, _⟩) (v := ?_) rfl (by kernel_rfl) (by kernel_rfl) (by kernel_rfl) (fun _ _ _ h => h) (Or.inl ⟨by rfl, ?_⟩) (by assumption) ?_
        rotate_left
        · intro w hSw; (try dsimp only at hSw); go_simp; (try with_reducible rfl)
        (try simp only [Act.put, List.setIfInBounds_toArray, List.set_cons_zero, List.set_cons_succ])
        refine wpAnyH_take (i := 4) (oi := ⟨_, _, _, _, _, _⟩) (v := ?_) rfl (by kernel_rfl) (by kernel_rfl) (by kernel_rfl) (fun _ _ _ h => h) (Or.inl ⟨by rfl, ?_⟩) (by assumption) ?_
        rotate_left
        · intro w hSw; (try dsimp only at hSw); go_simp; (try with_reducible rfl)
        (try simp only [Act.put, List.setIfInBounds_toArray, List.set_cons_zero, List.set_cons_succ])
        refine wpAnyH_take (i := 5) (oi := ⟨_, _, _, _, _, _⟩) (v := undef) rfl (by kernel_rfl) (by kernel_rfl) (by kernel_rfl) (fun _ _ _ h => h) (Or.inr ⟨by rfl, rfl⟩) (by assumption) ?_
        (try simp only [Act.put, List.setIfInBounds_toArray, List.set_cons_zero, List.set_cons_succ])
        refine wpAnyH_take (i := 6) (oi := ⟨_, _, _, _, _, _⟩) (v := undef) rfl (by kernel_rfl) (by kernel_rfl) (by kernel_rfl) (fun _ _ _ h => h) (Or.inr ⟨by rfl, rfl⟩) (by assumption) ?_
        (try simp only [Act.put, List.setIfInBounds_toArray, List.set_cons_zero, List.set_cons_succ])
        refine wpAnyH_take (i := 7) (oi := ⟨_, _, _, _, _, _⟩) (v := undef) rfl (by kernel_rfl) (by kernel_rfl) (by kernel_rfl) (fun _ _ _ h => h) (Or.inr ⟨by rfl, rfl⟩) (by assumption) ?_
        (try simp only [Act.put, List.setIfInBounds_toArray, List.set_cons_zero, List.set_cons_succ])
        refine wpAnyH_take (i := 8) (oi := ⟨_, _, _, _, _, _⟩) (v := ?_) rfl (by kernel_rfl) (by kernel_rfl) (by kernel_rfl) (fun _ _ _ h => h) (Or.inl ⟨by rfl, ?_⟩) (by assumption) ?_
        rotate_left
        · intro w hSw; (try dsimp only at hSw); go_simp; (try with_reducible rfl)
        (try simp only [Act.put, List.setIfInBounds_toArray, List.set_cons_zero, List.set_cons_succ])
        refine wpAnyH_done (by kernel_rfl) ?_ _
        go_wp2_with fail
        refine (CK.out _ (by repeat' (first | with_reducible assumption | with_reducible exact Below.refl _ _ | (with_reducible refine Below.setCell ?_ ?_ _) | (with_reducible refine Below.alloc ?_ ?_ _) | (with_reducible refine Below.drew ?_) | (with_reducible refine below_dr ?_ _) | (with_reducible refine Below.trans ?_ (Below.mono (by with_reducible assumption) ?_)) | omega | (simp; done) | (simp; omega)))).mono ?_
        rintro e w3 ⟨rfl, hb3⟩
        have ow3 : OwS w3 (w.heap.size + 1) A' m c' (l.map tmT) := by repeat' (first | with_reducible assumption | (with_reducible refine OwS.stays ?_ (by with_reducible assumption)) | (with_reducible refine OwS.drew ?_) | (with_reducible refine OwS.alloc ?_ _))
        have g3 : Below w.heap.size w w3 := by repeat' (first | with_reducible assumption | with_reducible exact Below.refl _ _ | (with_reducible refine Below.setCell ?_ ?_ _) | (with_reducible refine Below.alloc ?_ ?_ _) | (with_reducible refine Below.drew ?_) | (with_reducible refine below_dr ?_ _) | (with_reducible refine Below.trans ?_ (Below.mono (by with_reducible assumption) ?_)) | omega | (simp; done) | (simp; omega))
        have z3 := g3.size
        clear hb3
        have HOW := Lib.hid (show (w3.alloc (.cells #[.string F] 9)).ownsRow (w.heap.size + 1) 9 1 (.slice A' m c') m _ from (ow3.alloc _).2)
        have HRD := Lib.hid (reads_new w3 [.string F] 9)
        have HRB := Lib.hid ow3.block
        have HMX := Lib.hid (show m + 1 ≤ maxLen by unfold maxLen; omega)
        have HBY := Lib.hid (show (m + 1) * 16 ≤ 140737488355328 by omega)
        have HBS := Lib.hid (show w.heap.size + 1 ≤ (w3.alloc (.cells #[.string F] 9)).heap.size by simp; omega)
        go_wp2_with (at_builtin; refine wpList_append_any _ rfl (.tmp 36) (.tmp 40) _ rfl (w.heap.size + 1) 9 i0 _ 1 16 Tryd.underlying36 HI0.out HZ0.out HZ1.out HZ2.out rfl (by omega) (.slice A' m c') m _ rfl HOW.out _ (some ⟨w3.heap.size, 0, none⟩) 1 1 [.string F] rfl HRD.out (one_str [F]) HMX.out HBY.out HBS.out ?_; intro v9 w9 hown9 hg9 hat9; obtain ⟨g9, cap9, rfl, _, _⟩ := hown9.form (by omega); have HOWN9 := Lib.hid hown9; have HG9 := Lib.hid hg9; clear hown9 hg9 hat9)
        have g9b : Below w.heap.size w w9 := below_of_grown (show Below w.heap.size w (w3.alloc (.cells #[.string F] 9)) by repeat' (first | with_reducible assumption | with_reducible exact Below.refl _ _ | (with_reducible refine Below.setCell ?_ ?_ _) | (with_reducible refine Below.alloc ?_ ?_ _) | (with_reducible refine Below.drew ?_) | (with_reducible refine below_dr ?_ _) | (with_reducible refine Below.trans ?_ (Below.mono (by with_reducible assumption) ?_)) | omega | (simp; done) | (simp; omega))) HG9.out (by simp; omega) (fun q hq => by have := HRB.out q hq; omega)
        have ow9 : OwS w9 (w.heap.size + 1) (some ⟨g9, 0, none⟩) (m + 1) cap9 (l.map tmT ++ [F]) := OwS.grown (by have := ow3.1; simp only [List.length_cons, List.length_nil]; omega) HOWN9.out
        have z9 := g9b.size
        refine (joinLn_any ow9 ?_ ?_ ?_).mono ?_
        · first | (simp; done) | (have := HP.out; omega)
        · intro y hy; exact HSM.out y (by rw [HQ.out]; exact hy)
        · have h1 := HLN.out; rw [HQ.out] at h1; omega
        rintro e wJ ⟨rfl, hbJ⟩
        go_wp2_with fail
        go_ret
        exact ⟨by rw [HT.out, HQ.out]; first | rfl | simp, by repeat' (first | with_reducible assumption | with_reducible exact Below.refl _ _ | (with_reducible refine Below.setCell ?_ ?_ _) | (with_reducible refine Below.alloc ?_ ?_ _) | (with_reducible refine Below.drew ?_) | (with_reducible refine below_dr ?_ _) | (with_reducible refine Below.trans ?_ (Below.mono (by with_reducible assumption) ?_)) | omega | (simp; done) | (simp; omega))⟩
end Go.Proofs.YtonoldjhfhngfaaDoor
