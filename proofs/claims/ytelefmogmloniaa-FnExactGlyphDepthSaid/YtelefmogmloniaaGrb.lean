/- Walks: values of all glyphs out of those of their parts, the program's side: fromParts. -/
import Derived.Test.YtelefmogmloniaaGra
namespace Go.Proofs.Ytelefmogmloniaa
open Go.RowKit
set_option linter.unusedVariables false
def fU (ps : List Int) (j : Nat) : List Int := ps.take j ++ List.replicate (ps.length - j) 0
theorem fU_zero {ps : List Int} : fU ps 0 = List.replicate ps.length 0 := by simp [fU]
theorem fU_all {ps : List Int} : fU ps ps.length = ps := by simp [fU]
theorem fU_set {ps : List Int} {j : Nat} {v : Int} (h : ps[j]? = some v) : (fU ps j).set j v = fU ps (j + 1) := by
  obtain ⟨hj, he⟩ := List.getElem?_eq_some_iff.1 h
  unfold fU
  have h1 : ps.length - j = (ps.length - (j + 1)) + 1 := by omega
  rw [h1, List.replicate_succ, List.set_append_right _ _ (by rw [List.length_take]; omega)]
  have h2 : j - (ps.take j).length = 0 := by rw [List.length_take]; omega
  rw [h2, List.set_cons_zero, List.take_add_one, h]
  simp
theorem rd_blk {w : World} {g B : Nat} {t : TypeId} {ps : List Int} (h : Blk w g t (iArr ps)) (hB : g < B) : Rd cInt 1 w B (some ⟨g, 0, none⟩) ps := by
  refine .inr ⟨g, 0, rfl, hB, fun k a ha i u hu => ?_⟩
  cases i with
  | zero =>
    have hu2 : Value.int .i64 a = u := by simpa [cInt] using hu
    subst hu2
    have := h.cell k (iArr_at ha)
    simpa using this
  | succ i => simp [cInt] at hu
set_option maxRecDepth 100000 in
set_option maxHeartbeats 12800000 in
theorem fromParts_depth (u : Int) (l : List DGlyph) (A : Option Addr) (c : Nat) (w : World) (hl : l.length ≤ 40) (ht : totRow totGlyph l ≤ 1048576) (hp : ∀ (i : Nat) (d : DGlyph), l[i]? = some d → ∀ (k : Nat) (a : DPart), d.2.2.2.2.1[k]? = some a → 0 ≤ a.1 ∧ a.1 < (l.length : Int)) (hV : ∀ (w1 : World) (k : Nat) (x0 : ByteArray) (x1 : Int) (x2 : Int) (x3A : Option Addr) (x3c : Nat) (x3l : List DLoop) (x4A : Option Addr) (x4c : Nat) (x4l : List DPart) (x5A : Option Addr) (x5c : Nat) (x5l : List DAnchor) (x6 : ByteArray) (ps : List Int) (B : Option Addr) (d : Nat), Row RvLoop 1 w1 w1.heap.size x3A x3l → Row RvPart 3 w1 w1.heap.size x4A x4l → Row RvAnchor 3 w1 w1.heap.size x5A x5l → totGlyph (x0, x1, x2, x3l, x4l, x5l, x6) ≤ 1048576 → vB k ps → k ≤ 40 → ps.length = x4l.length → Rd cInt 1 w1 w1.heap.size B ps → Calls Try.prog 109 #[.agg #[.string x0, .int .i64 x1, .int .i64 x2, .slice x3A x3l.length x3c, .slice x4A x4l.length x4c, .slice x5A x5l.length x5c, .string x6], .slice B ps.length d] w1 fun e w2 => e = .returned (.int .i64 (ovD (x0, x1, x2, x3l, x4l, x5l, x6) ps)) ∧ Below w1.heap.size w1 w2) (r : Row RvGlyph 7 w w.heap.size A l) :
    Calls Try.prog 108 #[.agg #[.int .i64 u, .slice A l.length c], .func (.func 109) #[] #[]] w fun e w' => ∃ P, e = .returned (.slice (some ⟨P, 0, none⟩) l.length l.length) ∧ Blk w' P 2 (iArr (vAll ovD l)) ∧ Below w.heap.size w w' := by
  have CU := Lib.hid (fun w1 r => upwards_any u l A c w1 hl ht hp r)
  obtain ⟨n, hn⟩ : ∃ n, n = l.length := ⟨_, rfl⟩
  obtain ⟨ord, hord⟩ : ∃ ord, ord = ordL (psOf l) := ⟨_, rfl⟩
  have hoi : Oinv (psOf l) n ord := by rw [hord, hn, ← psOf_len]; exact ordL_inv
  have hok : oOk (psOf l) ord := by rw [hord]; exact oOk_ord
  have hva : vAll ovD l = vRun ovD l ord ord.length := by rw [hord]; rfl
  rw [hva]
  rw [← hord] at CU
  have hon : ord.length ≤ n := hoi.len
  have HI := Lib.hid (glyphs_le ht)
  rw [← hn] at hp
  have HP := Lib.hid hp
  have HVV := Lib.hid hV
  rw [← hn] at hl CU ⊢
  have HN := Lib.hid hn
  have HOI := Lib.hid hoi
  clear hn hord hva hoi hok hp hV ht
  have HVB := Lib.hid (fun k => vB_run (ov := ovD) (l := l) (ord := ord) ovD_in k)
  have HLN := Lib.hid (fun k => (vRun_len (ov := ovD) (l := l) (ord := ord) k).trans HN.out.symm)
  obtain ⟨N, hNN⟩ : ∃ N, N = ord.length := ⟨_, rfl⟩
  rw [← hNN] at hon CU ⊢
  have HNN := Lib.hid hNN
  clear hNN
  obtain ⟨j0, hj0, hy0', hy1', hy2'⟩ := oinfo_parts infoI64
  have hmk := fun (m : Nat) (hm : m ≤ 1048576) W => run_make_rowN (P := Try.prog) 74 2 j0 _ Try.underlying74 hj0 hy0' .i64 .i64 m m (Nat.le_refl _) (by rw [hy2']; omega) (by omega) W
  simp only [hy1', iArr_made] at hmk
  have HMK := Lib.hid hmk
  clear hmk hj0 hy0' hy1' hy2'
  have hmk1 := HMK.out n (by omega)
  go_enter Try.func108, Try.ntmps108
  go_wp2_with fail
  clear hmk1
  generalize hW : (w.alloc (.cells #[.int .i64 u, .slice A n c] 49)).alloc (.cells (iArr (List.replicate n 0)) 2) = W0
  have k0 : Blk W0 w.heap.size 49 #[.int .i64 u, .slice A n c] := by rw [← hW]; exact (Blk.new _ _ _).alloc _
  have k1 : Blk W0 (w.heap.size + 1) 2 (iArr (vRun ovD l ord 0)) := by rw [vRun_zero, ← HN.out, ← hW]; exact Blk.newAt _ _ _ (by simp)
  have hb0 : Below w.heap.size w W0 := by rw [← hW]; repeat' (first | with_reducible assumption | with_reducible exact Below.refl _ _ | (with_reducible refine Below.setCell ?_ ?_ _) | (with_reducible refine Below.alloc ?_ ?_ _) | (with_reducible refine Below.drew ?_) | (with_reducible refine below_dr ?_ _) | (with_reducible refine Below.trans ?_ (Below.mono (by with_reducible assumption) ?_)) | omega | (simp; done) | (simp; omega))
  have z0 := hb0.size
  clear hW
  refine (CU.out _ ?_).mono ?_
  · exact (Row.carry (w' := _) r hb0 (Nat.le_refl _)).more (by omega)
  intro e wU hq
  obtain ⟨A', c', rfl, owU, hbU⟩ := hq
  have k0U := k0.carry hbU
  have k1U := k1.carry hbU
  have gU : Below w.heap.size w wU := by repeat' (first | with_reducible assumption | with_reducible exact Below.refl _ _ | (with_reducible refine Below.setCell ?_ ?_ _) | (with_reducible refine Below.alloc ?_ ?_ _) | (with_reducible refine Below.drew ?_) | (with_reducible refine below_dr ?_ _) | (with_reducible refine Below.trans ?_ (Below.mono (by with_reducible assumption) ?_)) | omega | (simp; done) | (simp; omega))
  have HOW := Lib.hid owU
  have zU0 := k1.lt
  clear k0 k1 owU
  go_wp2_with fail
  have hbase : w.heap.size + 1 < W0.heap.size := zU0
  go_loopw [19] (fun i wr => ∃ k : Nat, k ≤ N ∧ i = .int .i64 k ∧ OwI 3 wr W0.heap.size A' N c' ord ∧ Blk wr w.heap.size 49 #[.int .i64 u, .slice A n c] ∧ Blk wr (w.heap.size + 1) 2 (iArr (vRun ovD l ord k)) ∧ Below w.heap.size w wr) (fun i _ => N - (intOf i).toNat)
  case atStart => exact ⟨0, Nat.zero_le _, rfl, HOW.out, k0U, k1U, gU⟩
  case round =>
    clear k0U k1U gU
    obtain ⟨k, hk, rfl, owr, b0, b1, hb2⟩ := hrel
    have zr := hb2.size
    by_cases hlt : k < N
    case neg =>
      obtain rfl : N = k := by omega
      go_wp2_with fail
      go_ret
      exact ⟨w.heap.size + 1, by rfl, b1, hb2⟩
    case pos =>
      obtain ⟨x, hx⟩ : ∃ a, ord[k]? = some a := ⟨ord[k]'(by have := HNN.out; omega), List.getElem?_eq_getElem (by have := HNN.out; omega)⟩
      obtain ⟨xi, hxi, hxe⟩ := HOI.out.lt x (List.mem_of_getElem? hx)
      subst hxe
      obtain ⟨g1, o1, rfl, hg1, hc1⟩ := (owr.rd (Nat.le_refl _)).elem hx
      have e0 : wr.cell? ⟨g1, o1 + k, none⟩ = some (.int .i64 (xi : Int)) := by have h := hc1 0 _ rfl; rw [Nat.mul_one] at h; exact h
      clear hc1
      have HOR := Lib.hid owr
      clear owr
      have v0 : wr.cell? ⟨w.heap.size, 1, none⟩ = some (.slice A n c) := b0.cell 1 rfl
      have HX := Lib.hid hx
      clear hx
      obtain ⟨⟨x0, x1, x2, x3l, x4l, x5l, x6⟩, ha⟩ : ∃ a, l[xi]? = some a := ⟨l[xi]'(by have := HN.out; omega), List.getElem?_eq_getElem (by have := HN.out; omega)⟩
      obtain ⟨g, o, rowc, rfl, hg, hRc, hcc⟩ := (Row.carry (w' := wr) r hb2 (Nat.le_refl _)).elem ha
      obtain ⟨x3A, x3c, x4A, x4c, x5A, x5c, rfl, u_x3, u_x4, u_x5⟩ := hRc
      have c0 : wr.cell? ⟨g, o + xi * 7, none⟩ = some (.string x0) := hcc 0 _ rfl
      have c1 : wr.cell? ⟨g, o + xi * 7 + 1, none⟩ = some (.int .i64 x1) := hcc 1 _ rfl
      have c2 : wr.cell? ⟨g, o + xi * 7 + 2, none⟩ = some (.int .i64 x2) := hcc 2 _ rfl
      have c3 : wr.cell? ⟨g, o + xi * 7 + 3, none⟩ = some (.slice x3A x3l.length x3c) := hcc 3 _ rfl
      have c4 : wr.cell? ⟨g, o + xi * 7 + 4, none⟩ = some (.slice x4A x4l.length x4c) := hcc 4 _ rfl
      have c5 : wr.cell? ⟨g, o + xi * 7 + 5, none⟩ = some (.slice x5A x5l.length x5c) := hcc 5 _ rfl
      have c6 : wr.cell? ⟨g, o + xi * 7 + 6, none⟩ = some (.string x6) := hcc 6 _ rfl
      clear hcc
      have HA := Lib.hid ha
      have hti := HI.out xi _ ha
      have h4 : x4l.length ≤ 1048576 := by have := totRow_len totPart x4l; simp only [totGlyph] at hti; omega
      have hpk := HP.out xi _ ha
      clear ha
      have HPK := Lib.hid hpk
      have HTI := Lib.hid hti
      clear hpk hti
      have hgw : g < wr.heap.size := by omega
      have hki : (k : Int) < (N : Int) := by omega
      have hxn : (xi : Int) < (n : Int) := by omega
      have lb0 := b0.lt
      have lb1 := b1.lt
      obtain ⟨M, hM⟩ : ∃ M, M = x4l.length := ⟨_, rfl⟩
      have HM := Lib.hid hM
      have HB0 := Lib.hid b0
      have HB1 := Lib.hid b1
      clear b0 b1
      have U3 := Lib.hid u_x3
      have U4 := Lib.hid u_x4
      have U5 := Lib.hid u_x5
      clear u_x3 u_x4 u_x5
      rw [← hM] at h4 c4
      clear hM
      obtain ⟨ps, hps⟩ : ∃ ps, ps = pv (vRun ovD l ord k) (x0, x1, x2, x3l, x4l, x5l, x6) := ⟨_, rfl⟩
      have HPS := Lib.hid hps
      have HPL := Lib.hid (show ps.length = M by rw [hps, HM.out]; exact List.length_map _)
      clear hps
      have hmk2 := HMK.out M (by omega)
      go_wp2_with fail
      clear hmk2 c0 c1 c2 c3 c4 c5 c6 e0 v0
      generalize hW2 : (wr.alloc (.cells #[.string x0, .int .i64 x1, .int .i64 x2, .slice x3A x3l.length x3c, .slice x4A M x4c, .slice x5A x5l.length x5c, .string x6] 37)).alloc (.cells (iArr (List.replicate M 0)) 2) = W2
      have d0 : Blk W2 wr.heap.size 37 #[.string x0, .int .i64 x1, .int .i64 x2, .slice x3A x3l.length x3c, .slice x4A M x4c, .slice x5A x5l.length x5c, .string x6] := by rw [← hW2]; exact (Blk.new _ _ _).alloc _
      have d1 : Blk W2 (wr.heap.size + 1) 2 (iArr (fU ps 0)) := by rw [fU_zero, HPL.out, ← hW2]; exact Blk.newAt _ _ _ (by simp)
      have hbW : Below wr.heap.size wr W2 := by rw [← hW2]; repeat' (first | with_reducible assumption | with_reducible exact Below.refl _ _ | (with_reducible refine Below.setCell ?_ ?_ _) | (with_reducible refine Below.alloc ?_ ?_ _) | (with_reducible refine Below.drew ?_) | (with_reducible refine below_dr ?_ _) | (with_reducible refine Below.trans ?_ (Below.mono (by with_reducible assumption) ?_)) | omega | (simp; done) | (simp; omega))
      clear hW2
      have zW2 := d1.lt
      have w4 : W2.cell? ⟨wr.heap.size, 4, none⟩ = some (.slice x4A M x4c) := d0.cell 4 rfl
      go_wp2_with fail
      clear w4
      obtain ⟨Wq, hWq⟩ : ∃ W : World, W = wr := ⟨_, rfl⟩
      rw [← hWq] at HOR hb2 zr lb0 lb1 HB0 HB1 U3 U4 U5 d0 d1 hbW zW2 hgw ⊢
      clear hWq
      go_loopw [35] (fun i wr => ∃ j : Nat, j ≤ M ∧ i = .int .i64 j ∧ Blk wr Wq.heap.size 37 #[.string x0, .int .i64 x1, .int .i64 x2, .slice x3A x3l.length x3c, .slice x4A M x4c, .slice x5A x5l.length x5c, .string x6] ∧ Blk wr (Wq.heap.size + 1) 2 (iArr (fU ps j)) ∧ Below Wq.heap.size Wq wr) (fun i _ => M - (intOf i).toNat)
      case atStart => exact ⟨0, Nat.zero_le _, rfl, d0, d1, hbW⟩
      case round =>
        clear d0 d1 hbW zW2
        obtain ⟨j, hj, rfl, d0, d1, hb3⟩ := hrel
        have z3 := hb3.size
        have ld0 := d0.lt
        have ld1 := d1.lt
        have B0w := HB0.out.carry hb3
        have B1w := HB1.out.carry hb3
        by_cases hjl : j < M
        case pos =>
          have w4 : wr.cell? ⟨Wq.heap.size, 4, none⟩ = some (.slice x4A M x4c) := d0.cell 4 rfl
          obtain ⟨⟨y0, y1, y2⟩, hd⟩ : ∃ a, x4l[j]? = some a := ⟨x4l[j]'(by have := HM.out; omega), List.getElem?_eq_getElem (by have := HM.out; omega)⟩
          obtain ⟨gd, od, rowd, rfl, hgd, hRd, hcd⟩ := (Row.carry (w' := wr) U4.out hb3 (by omega)).elem hd
          obtain rfl := hRd
          have p0 : wr.cell? ⟨gd, od + j * 3, none⟩ = some (.int .i64 y0) := hcd 0 _ rfl
          have p1 : wr.cell? ⟨gd, od + j * 3 + 1, none⟩ = some (.int .i64 y1) := hcd 1 _ rfl
          have p2 : wr.cell? ⟨gd, od + j * 3 + 2, none⟩ = some (.int .i64 y2) := hcd 2 _ rfl
          clear hcd
          obtain ⟨y_0, y_n⟩ := HPK.out j _ hd
          simp only at y_0 y_n
          obtain ⟨yi, rfl⟩ : ∃ yi : Nat, y0 = (yi : Int) := ⟨y0.toNat, by omega⟩
          have HPJ := Lib.hid (show ps[j]? = some (gv (vRun ovD l ord k) (yi : Int)) by rw [HPS.out]; unfold pv; rw [List.getElem?_map]; show Option.map _ x4l[j]? = _; rw [hd]; rfl)
          clear hd
          have hyn : yi < n := by omega
          have hjM : (j : Int) < (M : Int) := by omega
          have hgd2 : gd < wr.heap.size := by omega
          have wv : wr.cell? ⟨w.heap.size + 1, yi, none⟩ = some (.int .i64 (gv (vRun ovD l ord k) (yi : Int))) := B1w.cell yi (iArr_at (gv_get (by rw [HLN.out]; exact hyn)))
          have wj : wr.cell? ⟨Wq.heap.size + 1, j, none⟩ = some (.int .i64 ((fU ps j).getD j 0)) := by
            refine d1.cell j (iArr_at ?_)
            have hlen : j < (fU ps j).length := by have := HPL.out; simp [fU]; omega
            rw [List.getElem?_eq_getElem hlen, List.getD_eq_getElem?_getD, List.getElem?_eq_getElem hlen]; rfl
          have wf := d1.frozen j
          generalize (fU ps j).getD j 0 = old at wj
          have lw1 := B1w.lt
          have HD0 := Lib.hid d0
          have HD1 := Lib.hid d1
          clear d0 d1 B0w B1w
          go_wp2_with fail
          go_roundw
          case rel => exact ⟨j + 1, by omega, by go_num, (Blk.far HD0.out (by simp only; omega) _).alloc _, by rw [← fU_set HPJ.out, ← iArr_set]; exact (HD1.out.set_ j _).alloc _, by repeat' (first | with_reducible assumption | with_reducible exact Below.refl _ _ | (with_reducible refine Below.setCell ?_ ?_ _) | (with_reducible refine Below.alloc ?_ ?_ _) | (with_reducible refine Below.drew ?_) | (with_reducible refine below_dr ?_ _) | (with_reducible refine Below.trans ?_ (Below.mono (by with_reducible assumption) ?_)) | omega | (simp; done) | (simp; omega))⟩
          case measure => simp [intOf]; omega
        case neg =>
          obtain rfl : M = j := by omega
          have HFP := Lib.hid (show fU ps M = ps by rw [← HPL.out]; exact fU_all)
          rw [HFP.out] at d1
          have w0 : wr.cell? ⟨Wq.heap.size, 0, none⟩ = some (.string x0) := d0.cell 0 rfl
          have w1 : wr.cell? ⟨Wq.heap.size, 1, none⟩ = some (.int .i64 x1) := d0.cell 1 rfl
          have w2 : wr.cell? ⟨Wq.heap.size, 2, none⟩ = some (.int .i64 x2) := d0.cell 2 rfl
          have w3 : wr.cell? ⟨Wq.heap.size, 3, none⟩ = some (.slice x3A x3l.length x3c) := d0.cell 3 rfl
          have w4 : wr.cell? ⟨Wq.heap.size, 4, none⟩ = some (.slice x4A M x4c) := d0.cell 4 rfl
          have w5 : wr.cell? ⟨Wq.heap.size, 5, none⟩ = some (.slice x5A x5l.length x5c) := d0.cell 5 rfl
          have w6 : wr.cell? ⟨Wq.heap.size, 6, none⟩ = some (.string x6) := d0.cell 6 rfl
          have bq : Below w.heap.size w wr := by repeat' (first | with_reducible assumption | with_reducible exact Below.refl _ _ | (with_reducible refine Below.setCell ?_ ?_ _) | (with_reducible refine Below.alloc ?_ ?_ _) | (with_reducible refine Below.drew ?_) | (with_reducible refine below_dr ?_ _) | (with_reducible refine Below.trans ?_ (Below.mono (by with_reducible assumption) ?_)) | omega | (simp; done) | (simp; omega))
          have CV := Lib.hid (HVV.out wr k x0 x1 x2 x3A x3c x3l x4A x4c x4l x5A x5c x5l x6 ps (some ⟨Wq.heap.size + 1, 0, none⟩) M ((Row.carry (w' := wr) U3.out hb3 (by omega)).more (by omega)) ((Row.carry (w' := wr) U4.out hb3 (by omega)).more (by omega)) ((Row.carry (w' := wr) U5.out hb3 (by omega)).more (by omega)) HTI.out (by rw [HPS.out]; exact pv_in (HVB.out k)) (by omega) (by rw [HPL.out, HM.out]) (rd_blk d1 (by omega)))
          rw [HPL.out, ← HM.out] at CV
          have HST := Lib.hid (show vRun ovD l ord (k + 1) = (vRun ovD l ord k).set xi (ovD (x0, x1, x2, x3l, x4l, x5l, x6) ps) by rw [vRun_succ HX.out, vStep_at HA.out, HPS.out])
          generalize ovD (x0, x1, x2, x3l, x4l, x5l, x6) ps = res at CV HST
          clear d0 d1
          go_wp2_with fail
          refine CV.out.mono ?_
          rintro e wV ⟨rfl, hbV⟩
          have zV := hbV.size
          have B0v := B0w.carry hbV
          have B1v := B1w.carry hbV
          have hb4 : Below Wq.heap.size Wq wV := by repeat' (first | with_reducible assumption | with_reducible exact Below.refl _ _ | (with_reducible refine Below.setCell ?_ ?_ _) | (with_reducible refine Below.alloc ?_ ?_ _) | (with_reducible refine Below.drew ?_) | (with_reducible refine below_dr ?_ _) | (with_reducible refine Below.trans ?_ (Below.mono (by with_reducible assumption) ?_)) | omega | (simp; done) | (simp; omega))
          have wx : wV.cell? ⟨w.heap.size + 1, xi, none⟩ = some (.int .i64 (gv (vRun ovD l ord k) (xi : Int))) := B1v.cell xi (iArr_at (gv_get (by rw [HLN.out]; exact hxi)))
          have wxf := B1v.frozen xi
          have lv1 := B1v.lt
          generalize gv (vRun ovD l ord k) (xi : Int) = old2 at wx
          clear w0 w1 w2 w3 w4 w5 w6 B0w B1w
          have HBv0 := Lib.hid B0v
          have HBv1 := Lib.hid B1v
          clear B0v B1v
          go_wp2_with fail
          go_roundw
          case rel =>
            refine ⟨k + 1, by omega, by go_num, ?_, Blk.far HBv0.out (by simp only; omega) _, ?_, ?_⟩
            · have ow4 := HOR.out.stays hb4
              exact ⟨ow4.1, own_keep ow4.2 (fun q hq => by have := ow4.block q hq; simp only; omega) _⟩
            · rw [HST.out, ← iArr_set]; exact HBv1.out.set_ xi _
            · exact (hb2.trans (hb4.mono (by omega))).setCell (by simp only; omega) _
          case measure => simp [intOf]; omega
end Go.Proofs.Ytelefmogmloniaa
