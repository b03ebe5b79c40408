/- Walks: how deep a glyph is, on the reference's side; the law on GlyphDepth. -/
import Derived.Test.YtelefmogmloniaaGre
namespace Go.Proofs.Ytelefmogmloniaa
open Go.RowKit
set_option linter.unusedVariables false
theorem cell_set_ne (w : World) (u : Value) {a b : Addr} (h : ¬ a = b) : (w.setCell b u).cell? a = w.cell? a := World.cell?_setCell_other w b a u (fun e => h e.symm)
theorem set_same {vals : List Int} {i : Nat} {a b : Int} : (vals.set i a).set i b = vals.set i b := List.set_set _
set_option maxRecDepth 100000 in
set_option maxHeartbeats 12800000 in
theorem specGlyphDepth_any (u : Int) (A : Option Addr) (c : Nat) (l : List DGlyph) (gl : Int) (w : World) (h : totGlyphSet (u, l) ≤ 1048576) (r : Row RvGlyph 7 w w.heap.size A l) :
    Calls Try.prog 42 #[.agg #[.int .i64 u, .slice A l.length c], .int .i64 gl] w fun e w' => e = .returned (.tuple #[.int .i64 (dpI ovD (u, l) gl), .int .i64 (askV (u, l) gl)]) ∧ Below w.heap.size w w' := by
  have ht : totRow totGlyph l ≤ 1048576 := h
  have CK := Lib.hid (fun w1 z1 s0 s1 r => l17Ask_any u l A c w.heap.size 0 gl w1 ht z1 s0 s1 r)
  by_cases hz : askV (u, l) gl = 0
  case neg =>
    rw [dpI_not hz]
    generalize askV (u, l) gl = cd at *
    generalize l.length = n at *
    have q1 : (cd != 0) = true := by rw [bne_iff_ne]; exact hz
    go_enter Try.func42, Try.ntmps42
    go_wp2_with fail
    refine (CK.out _ (by first | (simp; done) | (simp; omega)) (by simp [go_sem]) (by simp [go_sem]) ?_).mono ?_
    · exact (Row.alloc r (Nat.le_refl _) _).more (by simp)
    rintro e w1 ⟨rfl, hb⟩
    go_wp2_with fail
    refine bodyPost_ret (v := .tuple #[.int .i64 (0), .int .i64 (cd)]) (by simp [results, Try.results42, go_sem, *]) rfl ?_
    exact ⟨rfl, by repeat' (first | with_reducible assumption | with_reducible exact Below.refl _ _ | (with_reducible refine Below.setCell ?_ ?_ _) | (with_reducible refine Below.alloc ?_ ?_ _) | (with_reducible refine Below.drew ?_) | (with_reducible refine below_dr ?_ _) | (with_reducible refine Below.trans ?_ (Below.mono (by with_reducible assumption) ?_)) | omega | (simp; done) | (simp; omega))⟩
  case pos =>
    rw [dpI_zero hz]
    obtain ⟨hs, g0, g1⟩ := askV_zero hz
    rw [hz] at CK ⊢
    obtain ⟨gi, rfl⟩ : ∃ gi : Nat, gl = (gi : Int) := ⟨gl.toNat, by omega⟩
    have hgi : gi < (vAll ovD l).length := by rw [vAll_len]; omega
    have hG0 := iArr_at (gv_get hgi)
    clear hz g0 hgi h
    have hn := vS_use hs
    have hl := hn.1
    have hp := parts_ok (vS_all hs) hn.2.1
    clear hn hs
    have CO := Lib.hid (fun w1 z1 s1 r => l17Order_any l A c w.heap.size 0 w1 hl ht z1 s1 r)
    obtain ⟨n, hn⟩ : ∃ n, n = l.length := ⟨_, rfl⟩
    obtain ⟨ord, hord⟩ : ∃ ord, ord = ordL (psOf l) := ⟨_, rfl⟩
    have hoi : Oinv (psOf l) n ord := by rw [hord, hn, ← psOf_len]; exact ordL_inv
    have hok : oOk (psOf l) ord := by rw [hord]; exact oOk_ord
    have hva : vAll ovD l = vRun ovD l ord ord.length := by rw [hord]; rfl
    rw [hva] at hG0 ⊢
    have HG := Lib.hid hG0
    clear hG0
    rw [← hord] at CO
    have hon : ord.length ≤ n := hoi.len
    have HI := Lib.hid (glyphs_le ht)
    rw [← hn] at hp
    have HP := Lib.hid hp
    rw [← hn] at hl CO CK g1 ⊢
    have HN := Lib.hid hn
    have HOI := Lib.hid hoi
    have HOK := Lib.hid hok
    clear hn hord hva hoi hok hp ht
    have HVB := Lib.hid (fun k => vB_run (ov := ovD) (l := l) (ord := ord) ovD_in k)
    have HLN := Lib.hid (fun k => (vRun_len (ov := ovD) (l := l) (ord := ord) k).trans HN.out.symm)
    have HRS := Lib.hid (fun (k i : Nat) (hx : ¬ (i : Int) ∈ ord.take k) => vRun_rest (ov := ovD) (l := l) hx (fun y hy => by obtain ⟨j, _, rfl⟩ := HOI.out.lt y hy; omega))
    obtain ⟨N, hNN⟩ : ∃ N, N = ord.length := ⟨_, rfl⟩
    rw [← hNN] at hon CO HG ⊢
    have HNN := Lib.hid hNN
    clear hNN
    obtain ⟨R, hR⟩ : ∃ R, R = gv (vRun ovD l ord N) (gi : Int) := ⟨_, rfl⟩
    rw [← hR] at HG ⊢
    clear hR
    obtain ⟨j0, hj0, hy0', hy1', hy2'⟩ := oinfo_parts infoI64
    have hmk1 := fun W => run_make_rowN (P := Try.prog) 74 2 j0 _ Try.underlying74 hj0 hy0' .i64 .i64 n n (Nat.le_refl _) (by rw [hy2']; omega) (by omega) W
    simp only [hy1', iArr_made] at hmk1
    clear hj0 hy0' hy1' hy2'
    go_enter Try.func42, Try.ntmps42
    go_wp2_with fail
    refine (CK.out _ (by first | (simp; done) | (simp; omega)) (by simp [go_sem]) (by simp [go_sem]) ?_).mono ?_
    · exact (Row.alloc r (Nat.le_refl _) _).more (by simp)
    rintro e w1 ⟨rfl, hb⟩
    have hz1 := hb.size
    simp only [World.size_alloc] at hz1
    have y1 : w1.cell? ⟨w.heap.size, 1, none⟩ = some (.slice A n c) := (hb.cell (p := ⟨w.heap.size, 1, none⟩) (by simp)).trans (by simp [go_sem])
    have b1 : Below w.heap.size w w1 := by repeat' (first | with_reducible assumption | with_reducible exact Below.refl _ _ | (with_reducible refine Below.setCell ?_ ?_ _) | (with_reducible refine Below.alloc ?_ ?_ _) | (with_reducible refine Below.drew ?_) | (with_reducible refine below_dr ?_ _) | (with_reducible refine Below.trans ?_ (Below.mono (by with_reducible assumption) ?_)) | omega | (simp; done) | (simp; omega))
    go_wp2_with fail
    refine (CO.out _ (by omega) (by simpa using y1) ?_).mono ?_
    · exact (Row.carry (w' := _) r b1 (Nat.le_refl _)).more (by omega)
    intro e wO hq
    obtain ⟨A', c', rfl, owO', hbO⟩ := hq
    have owO := owO'.base_ (base' := w.heap.size) (by omega)
    have zO := hbO.size
    have s1o : wO.cell? ⟨w.heap.size, 1, none⟩ = some (.slice A n c) := (hbO.cell (p := ⟨w.heap.size, 1, none⟩) (by show w.heap.size < _; omega)).trans y1
    have gO : Below w.heap.size w wO := by repeat' (first | with_reducible assumption | with_reducible exact Below.refl _ _ | (with_reducible refine Below.setCell ?_ ?_ _) | (with_reducible refine Below.alloc ?_ ?_ _) | (with_reducible refine Below.drew ?_) | (with_reducible refine below_dr ?_ _) | (with_reducible refine Below.trans ?_ (Below.mono (by with_reducible assumption) ?_)) | omega | (simp; done) | (simp; omega))
    have HOB := Lib.hid (fun q hq => (owO.block q hq).2)
    have HOW := Lib.hid owO
    clear owO owO' hb
    go_wp2_with fail
    clear hmk1
    generalize hW : wO.alloc (.cells (iArr (List.replicate n 0)) 2) = W0
    have k1 : Blk W0 wO.heap.size 2 (iArr (vRun ovD l ord 0)) := by rw [vRun_zero, ← HN.out, ← hW]; exact Blk.new _ _ _
    have ow0 : OwI 2 W0 w.heap.size A' N c' ord := by rw [← hW]; exact OwI.alloc HOW.out _
    have hb0 : Below w.heap.size w W0 := by rw [← hW]; repeat' (first | with_reducible assumption | with_reducible exact Below.refl _ _ | (with_reducible refine Below.setCell ?_ ?_ _) | (with_reducible refine Below.alloc ?_ ?_ _) | (with_reducible refine Below.drew ?_) | (with_reducible refine below_dr ?_ _) | (with_reducible refine Below.trans ?_ (Below.mono (by with_reducible assumption) ?_)) | omega | (simp; done) | (simp; omega))
    have s10 : W0.cell? ⟨w.heap.size, 1, none⟩ = some (.slice A n c) := by rw [← hW]; exact (cell_alloc_at _ _ (by omega)).trans s1o
    clear hW s1o y1
    go_loopw [9] (fun i wr => ∃ k : Nat, k ≤ N ∧ i = .int .i64 k ∧ OwI 2 wr w.heap.size A' N c' ord ∧ Blk wr wO.heap.size 2 (iArr (vRun ovD l ord k)) ∧ wr.cell? ⟨w.heap.size, 1, none⟩ = some (.slice A n c) ∧ Below w.heap.size w wr) (fun i _ => N - (intOf i).toNat)
    case atStart => exact ⟨0, Nat.zero_le _, rfl, ow0, k1, s10, hb0⟩
    case round =>
      clear ow0 k1 s10 hb0
      obtain ⟨k, hk, rfl, owr, b1, s1z, hb2⟩ := hrel
      have zr := hb2.size
      by_cases hlt : k < N
      case neg =>
        obtain rfl : N = k := by omega
        have yP : wr.cell? ⟨wO.heap.size, gi, none⟩ = some (.int .i64 R) := b1.cell gi HG.out
        have lP := b1.lt
        go_wp2_with fail
        refine bodyPost_ret (v := .tuple #[.int .i64 (R), .int .i64 (0)]) (by simp [results, Try.results42, go_sem, *]) rfl ?_
        exact ⟨rfl, by repeat' (first | with_reducible assumption | with_reducible exact Below.refl _ _ | (with_reducible refine Below.setCell ?_ ?_ _) | (with_reducible refine Below.alloc ?_ ?_ _) | (with_reducible refine Below.drew ?_) | (with_reducible refine below_dr ?_ _) | (with_reducible refine Below.trans ?_ (Below.mono (by with_reducible assumption) ?_)) | omega | (simp; done) | (simp; omega))⟩
      case pos =>
        obtain ⟨Wq, hWq⟩ : ∃ W : World, W = wr := ⟨_, rfl⟩
        rw [← hWq] at owr b1 s1z hb2 zr ⊢
        clear hWq
        obtain ⟨x, hx⟩ : ∃ a, ord[k]? = some a := ⟨ord[k]'(by have := HNN.out; omega), List.getElem?_eq_getElem (by have := HNN.out; omega)⟩
        obtain ⟨xi, hxi, hxe⟩ := HOI.out.lt x (List.mem_of_getElem? hx)
        subst hxe
        have hnot := nodup_take HOI.out.nd hx
        have hprt := HOK.out k _ hx
        obtain ⟨g1, o1, hA1, hg1, hc1⟩ := (owr.rd (Nat.le_refl _)).elem hx
        have e0 : Wq.cell? ⟨g1, o1 + k, none⟩ = some (.int .i64 (xi : Int)) := by have h := hc1 0 _ rfl; rw [Nat.mul_one] at h; exact h
        clear hc1
        subst hA1
        have HX := Lib.hid hx
        clear hx
        have h00 := HRS.out k xi hnot
        obtain ⟨⟨x0, x1, x2, x3l, x4l, x5l, x6⟩, ha⟩ : ∃ a, l[xi]? = some a := ⟨l[xi]'(by have := HN.out; omega), List.getElem?_eq_getElem (by have := HN.out; omega)⟩
        obtain ⟨g, o, rowc, rfl, hg, hRc, hcc⟩ := (Row.carry (w' := Wq) r hb2 (Nat.le_refl _)).elem ha
        obtain ⟨x3A, x3c, x4A, x4c, x5A, x5c, rfl, u_x3, u_x4, u_x5⟩ := hRc
        have c0 : Wq.cell? ⟨g, o + xi * 7, none⟩ = some (.string x0) := hcc 0 _ rfl
        have c1 : Wq.cell? ⟨g, o + xi * 7 + 1, none⟩ = some (.int .i64 x1) := hcc 1 _ rfl
        have c2 : Wq.cell? ⟨g, o + xi * 7 + 2, none⟩ = some (.int .i64 x2) := hcc 2 _ rfl
        have c3 : Wq.cell? ⟨g, o + xi * 7 + 3, none⟩ = some (.slice x3A x3l.length x3c) := hcc 3 _ rfl
        have c4 : Wq.cell? ⟨g, o + xi * 7 + 4, none⟩ = some (.slice x4A x4l.length x4c) := hcc 4 _ rfl
        have c5 : Wq.cell? ⟨g, o + xi * 7 + 5, none⟩ = some (.slice x5A x5l.length x5c) := hcc 5 _ rfl
        have c6 : Wq.cell? ⟨g, o + xi * 7 + 6, none⟩ = some (.string x6) := hcc 6 _ rfl
        clear hcc
        have HA := Lib.hid ha
        have hti := HI.out xi _ ha
        have h4 : x4l.length ≤ 1048576 := by have := totRow_len totPart x4l; simp only [totGlyph] at hti; omega
        have HPK := Lib.hid (HP.out xi _ ha)
        rw [Int.toNat_natCast, psOf_at ha] at hprt
        simp only at hprt
        have HNE := Lib.hid (fun (j : Nat) (a : DPart) (h : x4l[j]? = some a) => (fun e : a.1 = (xi : Int) => hnot (e ▸ hprt _ (List.mem_map.2 ⟨a, List.mem_of_getElem? h, rfl⟩)) : ¬ a.1 = (xi : Int)))
        clear ha hti hnot hprt
        have hgw : g < Wq.heap.size := by omega
        have hki : (k : Int) < (N : Int) := by omega
        have hxn : (xi : Int) < (n : Int) := by omega
        have lb1 := b1.lt
        have hbw : w.heap.size < Wq.heap.size := by omega
        obtain ⟨M, hM⟩ : ∃ M, M = x4l.length := ⟨_, rfl⟩
        have HM := Lib.hid hM
        rw [← hM] at h4 c4
        clear hM
        obtain ⟨ps, hps⟩ : ∃ ps, ps = pv (vRun ovD l ord k) (x0, x1, x2, x3l, x4l, x5l, x6) := ⟨_, rfl⟩
        have HPS := Lib.hid hps
        have HPL := Lib.hid (show ps.length = M by rw [hps, HM.out]; exact List.length_map _)
        have hpb : vB k ps := by rw [hps]; exact pv_in (HVB.out k)
        have HDU := Lib.hid (dU_in hpb)
        have HST := Lib.hid (show vRun ovD l ord (k + 1) = (vRun ovD l ord k).set xi (dU ps M) by rw [vRun_succ HX.out, vStep_at HA.out, ← HPS.out, ← HPL.out]; rfl)
        clear hps hpb
        have HL1 := Lib.hid (show xi < (vRun ovD l ord k).length by rw [HLN.out]; exact hxi)
        have bs : Blk Wq wO.heap.size 2 (iArr ((vRun ovD l ord k).set xi (dU ps 0))) := by rw [dU_zero, ← h00, set_gv]; exact b1
        have HOR := Lib.hid owr
        have HB1 := Lib.hid bs
        clear owr b1 bs h00
        have U4 := Lib.hid u_x4
        clear u_x3 u_x4 u_x5
        have HGB := Lib.hid (gv_in (HVB.out k))
        obtain ⟨vals, hvals⟩ : ∃ vals, vals = vRun ovD l ord k := ⟨_, rfl⟩
        have HVL := Lib.hid (show vals.length = n by rw [hvals]; exact HLN.out k)
        rw [← hvals] at HST HL1 HB1 HGB HPS
        clear hvals
        go_wp2_with fail
        go_region_held3 (fun w' => w'.cell? ⟨w.heap.size, 1, none⟩ = some (.slice (some ⟨g, o, none⟩) n c) ∧ w'.cell? ⟨g1, o1 + k, none⟩ = some (.int .i64 (xi : Int)) ∧ w'.cell? ⟨g, o + xi * 7 + 4, none⟩ = some (.slice x4A M x4c))
          (first | exact ⟨s1z, e0, c4⟩ | assumption | fail)
          (fail)
        all_goals
          clear c0 c1 c2 c3 c5 c6
          have HS1 := Lib.hid s1z
          clear s1z
          go_wp2_with fail
          go_loopw [11] (fun i wx => ∃ j : Nat, j ≤ M ∧ i = .int .i64 j ∧ OwI 2 wx w.heap.size (some ⟨g1, o1, none⟩) N c' ord ∧ Blk wx wO.heap.size 2 (iArr (vals.set xi (dU ps j))) ∧ wx.cell? ⟨w.heap.size, 1, none⟩ = some (.slice (some ⟨g, o, none⟩) n c) ∧ Below w.heap.size w wx ∧ Wq.heap.size ≤ wx.heap.size) (fun i _ => M - (intOf i).toNat)
          case atStart => exact ⟨0, Nat.zero_le _, rfl, HOR.out, HB1.out, HS1.out, by repeat' (first | with_reducible assumption | with_reducible exact Below.refl _ _ | (with_reducible refine Below.setCell ?_ ?_ _) | (with_reducible refine Below.alloc ?_ ?_ _) | (with_reducible refine Below.drew ?_) | (with_reducible refine below_dr ?_ _) | (with_reducible refine Below.trans ?_ (Below.mono (by with_reducible assumption) ?_)) | omega | (simp; done) | (simp; omega)), Nat.le_refl _⟩
          case round =>
            obtain ⟨j, hj, rfl, owx, B1w, s1x, hb3, z3⟩ := hrel
            have lw1 := B1w.lt
            by_cases hjl : j < M
            case neg =>
              obtain rfl : M = j := by omega
              go_wp2_with fail
              go_roundw
              case rel => exact ⟨k + 1, by omega, by go_num, owx, by rw [HST.out]; exact B1w, s1x, hb3⟩
              case measure => simp [intOf]; omega
            case pos =>
              obtain ⟨g2, o2, hA2, hg2, hc2⟩ := (owx.rd (Nat.le_refl _)).elem HX.out
              injection hA2 with hA2
              injection hA2 with a1 a2
              subst a1 a2
              have e1 : wr.cell? ⟨g1, o1 + k, none⟩ = some (.int .i64 (xi : Int)) := by have h := hc2 0 _ rfl; rw [Nat.mul_one] at h; exact h
              clear hc2
              have HGR := Lib.hid (Row.carry (w' := wr) r hb3 (Nat.le_refl _))
              obtain ⟨g3, o3, row3, hA3, -, hR3, -⟩ := HGR.out.elem HA.out
              injection hA3 with hA3
              injection hA3 with a1 a2
              subst a1 a2
              obtain ⟨v3A, v3c, v4A, v4c, v5A, v5c, hrow, -, r4, -⟩ := hR3
              clear hrow r4
              obtain ⟨⟨y0, y1, y2⟩, hd⟩ : ∃ a, x4l[j]? = some a := ⟨x4l[j]'(by have := HM.out; omega), List.getElem?_eq_getElem (by have := HM.out; omega)⟩
              obtain ⟨gd, od, rowd, rfl, hgd, hRd, hcd⟩ := (Row.keep U4.out (fun p hp => (by rw [hb3.cell hp, hb2.cell hp]))).elem hd
              obtain rfl := hRd
              have d0 : wr.cell? ⟨gd, od + j * 3, none⟩ = some (.int .i64 y0) := hcd 0 _ rfl
              have d1 : wr.cell? ⟨gd, od + j * 3 + 1, none⟩ = some (.int .i64 y1) := hcd 1 _ rfl
              have d2 : wr.cell? ⟨gd, od + j * 3 + 2, none⟩ = some (.int .i64 y2) := hcd 2 _ rfl
              clear hcd
              obtain ⟨y_0, y_n⟩ := HPK.out j _ hd
              have hne : ¬ y0 = (xi : Int) := HNE.out j _ hd
              simp only at y_0 y_n
              obtain ⟨yi, rfl⟩ : ∃ yi : Nat, y0 = (yi : Int) := ⟨y0.toNat, by omega⟩
              have hpj : ps[j]? = some (gv vals (yi : Int)) := by
                rw [HPS.out]; unfold pv; rw [List.getElem?_map]; show Option.map _ x4l[j]? = _; rw [hd]; rfl
              have HT := Lib.hid (dU_succ hpj)
              clear hd hpj
              have hyx : ¬ yi = xi := fun e => hne (by rw [e])
              clear hne
              have hyn : yi < n := by omega
              have hjM : (j : Int) < (M : Int) := by omega
              have hgd2 : gd < wr.heap.size := by omega
              have hg12 : g1 < wr.heap.size := by omega
              have wv : wr.cell? ⟨wO.heap.size, yi, none⟩ = some (.int .i64 (gv vals (yi : Int))) := B1w.cell yi (iArr_at (by rw [← gv_set_other (vals := vals) (j := xi) (v := dU ps j) (g := (yi : Int)) (by rw [Int.toNat_natCast]; omega)]; exact gv_get (by rw [List.length_set]; rw [HVL.out]; exact hyn)))
              have wx : wr.cell? ⟨wO.heap.size, xi, none⟩ = some (.int .i64 (dU ps j)) := B1w.cell xi (iArr_at (by rw [List.getElem?_set_self HL1.out]))
              have wxf := B1w.frozen xi
              have hdu := HDU.out j
              have hgb := HGB.out (yi : Int)
              generalize gv vals (yi : Int) = v at *
              have HBW := Lib.hid B1w
              have HOX := Lib.hid owx
              clear B1w owx
              obtain ⟨dj, hdj⟩ : ∃ x, x = dU ps j := ⟨_, rfl⟩
              rw [← hdj] at wx hdu HT
              have HDJ := Lib.hid hdj
              clear hdj
              have hq1 : ¬ (⟨g1, o1 + k, none⟩ : Addr) = ⟨wO.heap.size, xi, none⟩ := fun e => by injection e with q1; have := HOB.out g1 rfl; omega
              have hq2 : ¬ (⟨gd, od + j * 3, none⟩ : Addr) = ⟨wO.heap.size, xi, none⟩ := fun e => by injection e with q1; omega
              have hq3 : ¬ (⟨wO.heap.size, yi, none⟩ : Addr) = ⟨wO.heap.size, xi, none⟩ := fun e => by injection e with q1 q2; omega
              have hw : IntKind.i64.wrap (v + 1) = v + 1 := IntWalk.i64_in _ (by omega)
              have CM := Lib.hid (fun w1 => l00MaxG_any dj (v + 1) w1)
              generalize max dj (v + 1) = res at CM HT
              go_wp2_with fail
              refine wp_region_held_drew (S := (fun w' => w'.cell? ⟨g1, o1 + k, none⟩ = some (.int .i64 (xi : Int)) ∧ w'.cell? ⟨gd, od + j * 3, none⟩ = some (.int .i64 (yi : Int)) ∧ w'.cell? ⟨wO.heap.size, yi, none⟩ = some (.int .i64 v) ∧ w'.frozen? ⟨wO.heap.size, xi, none⟩ = false)) (by kernel_rfl) ?_ (fun hHeld => ?_)
              · (try dsimp only); (first | exact ⟨e1, d0, wv, wxf⟩ | assumption | exact ⟨(cell_set_ne _ _ hq1).trans e1, (cell_set_ne _ _ hq2).trans d0, (cell_set_ne _ _ hq3).trans wv, (World.frozen?_setCell _ _ _ _).trans wxf⟩ | (simp [*]; done) | fail)
              refine wpAnyH_take (i := 0) (oi := ⟨_, _, _, _, _, _⟩) (v := ?_) rfl (by kernel_rfl) (by kernel_rfl) (by kernel_rfl) (fun _ _ _ h => h) (Or.inl ⟨by rfl, ?_⟩) (by assumption) ?_
              rotate_left
              · intro w hSw; (try dsimp only at hSw); go_simp; (try with_reducible rfl)
              (try simp only [Act.put, List.setIfInBounds_toArray, List.set_cons_zero, List.set_cons_succ])
              refine wpAnyH_take (i := 1) (oi := ⟨_, _, _, _, _, _⟩) (v := ?_) rfl (by kernel_rfl) (by kernel_rfl) (by kernel_rfl) (fun _ _ _ h => h) (Or.inl ⟨by rfl, ?_⟩) (by assumption) ?_
              rotate_left
              · intro w hSw; (try dsimp only at hSw); go_simp; (try with_reducible rfl)
              (try simp only [Act.put, List.setIfInBounds_toArray, List.set_cons_zero, List.set_cons_succ])
              refine wpAnyH_take (i := 2) (oi := ⟨_, _, _, _, _, _⟩) (v := ?_) rfl (by kernel_rfl) (by kernel_rfl) (by kernel_rfl) (fun _ _ _ h => h) (Or.inl ⟨by rfl, ?_⟩) (by assumption) ?_
              rotate_left
              · intro w hSw; (try dsimp only at hSw); go_simp; (try with_reducible rfl)
              (try simp only [Act.put, List.setIfInBounds_toArray, List.set_cons_zero, List.set_cons_succ])
              refine wpAnyH_take (i := 3) (oi := ⟨_, _, _, _, _, _⟩) (v := ?_) rfl (by kernel_rfl) (by kernel_rfl) (by kernel_rfl) (fun _ _ _ h => h) (Or.inl ⟨by rfl, ?_⟩) (by assumption) ?_
              rotate_left
              · intro w hSw; (try dsimp only at hSw); go_simp; (try with_reducible rfl)
              (try simp only [Act.put, List.setIfInBounds_toArray, List.set_cons_zero, List.set_cons_succ])
              refine wpAnyH_take (i := 4) (oi := ⟨_, _, _, _, _, _⟩) (v := ?_) rfl (by kernel_rfl) (by kernel_rfl) (by kernel_rfl) (fun _ _ _ h => h) (Or.inl ⟨by rfl, ?_⟩) (by assumption) ?_
              rotate_left
              · intro w hSw; (try dsimp only at hSw); go_simp; (try with_reducible rfl)
              (try simp only [Act.put, List.setIfInBounds_toArray, List.set_cons_zero, List.set_cons_succ])
              refine wpAnyH_take (i := 5) (oi := ⟨_, _, _, _, _, _⟩) (v := ?_) rfl (by kernel_rfl) (by kernel_rfl) (by kernel_rfl) (fun _ _ _ h => h) (Or.inl ⟨by rfl, ?_⟩) (by assumption) ?_
              rotate_left
              · intro w hSw; (try dsimp only at hSw); go_simp; (try with_reducible rfl)
              (try simp only [Act.put, List.setIfInBounds_toArray, List.set_cons_zero, List.set_cons_succ])
              refine wpAnyH_take (i := 6) (oi := ⟨_, _, _, _, _, _⟩) (v := ?_) rfl (by kernel_rfl) (by kernel_rfl) (by kernel_rfl) (fun _ _ _ h => h) (Or.inl ⟨by rfl, ?_⟩) (by assumption) ?_
              rotate_left
              · intro w hSw; (try dsimp only at hSw); go_simp; (try with_reducible rfl)
              (try simp only [Act.put, List.setIfInBounds_toArray, List.set_cons_zero, List.set_cons_succ])
              refine wpAnyH_take (i := 7) (oi := ⟨_, _, _, _, _, _⟩) (v := ?_) rfl (by kernel_rfl) (by kernel_rfl) (by kernel_rfl) (fun _ _ _ h => h) (Or.inl ⟨by rfl, ?_⟩) (by assumption) ?_
              rotate_left
              · intro w hSw; (try dsimp only at hSw); go_simp; (try with_reducible rfl)
              (try simp only [Act.put, List.setIfInBounds_toArray, List.set_cons_zero, List.set_cons_succ])
              refine wpAnyH_take (i := 8) (oi := ⟨_, _, _, _, _, _⟩) (v := ?_) rfl (by kernel_rfl) (by kernel_rfl) (by kernel_rfl) (fun _ _ _ h => h) (Or.inl ⟨by rfl, ?_⟩) (by assumption) ?_
              rotate_left
              · intro w hSw; (try dsimp only at hSw); go_simp; (try with_reducible rfl)
              (try simp only [Act.put, List.setIfInBounds_toArray, List.set_cons_zero, List.set_cons_succ])
              refine wpAnyH_take (i := 9) (oi := ⟨_, _, _, _, _, _⟩) (v := ?_) rfl (by kernel_rfl) (by kernel_rfl) (by kernel_rfl) (fun _ _ _ h => h) (Or.inl ⟨by rfl, ?_⟩) (by assumption) ?_
              rotate_left
              · intro w hSw; (try dsimp only at hSw); go_simp; (try with_reducible rfl)
              (try simp only [Act.put, List.setIfInBounds_toArray, List.set_cons_zero, List.set_cons_succ])
              refine wpAnyH_take (i := 10) (oi := ⟨_, _, _, _, _, _⟩) (v := ?_) rfl (by kernel_rfl) (by kernel_rfl) (by kernel_rfl) (fun _ _ _ h => h) (Or.inl ⟨by rfl, ?_⟩) (by assumption) ?_
              rotate_left
              · intro w hSw; (try dsimp only at hSw); go_simp; (try with_reducible rfl)
              (try simp only [Act.put, List.setIfInBounds_toArray, List.set_cons_zero, List.set_cons_succ])
              refine wpAnyH_take (i := 12) (oi := ⟨_, _, _, _, _, _⟩) (v := ?_) rfl (by kernel_rfl) (by kernel_rfl) (by kernel_rfl) (fun _ _ _ h => h) (Or.inl ⟨by rfl, ?_⟩) (by assumption) ?_
              rotate_left
              · intro w hSw; (try dsimp only at hSw); go_simp; (try with_reducible rfl)
              (try simp only [Act.put, List.setIfInBounds_toArray, List.set_cons_zero, List.set_cons_succ])
              refine wpAnyH_take (i := 13) (oi := ⟨_, _, _, _, _, _⟩) (v := ?_) rfl (by kernel_rfl) (by kernel_rfl) (by kernel_rfl) (fun _ _ _ h => h) (Or.inl ⟨by rfl, ?_⟩) (by assumption) ?_
              rotate_left
              · intro w hSw; (try dsimp only at hSw); go_simp; (try with_reducible rfl)
              (try simp only [Act.put, List.setIfInBounds_toArray, List.set_cons_zero, List.set_cons_succ])
              refine wpAnyH_take (i := 14) (oi := ⟨_, _, _, _, _, _⟩) (v := ?_) rfl (by kernel_rfl) (by kernel_rfl) (by kernel_rfl) (fun _ _ _ h => h) (Or.inl ⟨by rfl, ?_⟩) (by assumption) ?_
              rotate_left
              · intro w hSw; (try dsimp only at hSw); go_simp; (try with_reducible rfl)
              (try simp only [Act.put, List.setIfInBounds_toArray, List.set_cons_zero, List.set_cons_succ])
              refine wpAnyH_take (i := 15) (oi := ⟨_, _, _, _, _, _⟩) (v := ?_) rfl (by kernel_rfl) (by kernel_rfl) (by kernel_rfl) (fun _ _ _ h => h) (Or.inl ⟨by rfl, ?_⟩) (by assumption) ?_
              rotate_left
              · intro w hSw; (try dsimp only at hSw); go_simp; (try with_reducible rfl)
              (try simp only [Act.put, List.setIfInBounds_toArray, List.set_cons_zero, List.set_cons_succ])
              refine wpAnyH_take (i := 16) (oi := ⟨_, _, _, _, _, _⟩) (v := ?_) rfl (by kernel_rfl) (by kernel_rfl) (by kernel_rfl) (fun _ _ _ h => h) (Or.inl ⟨by rfl, ?_⟩) (by assumption) ?_
              rotate_left
              · intro w hSw; (try dsimp only at hSw); go_simp; (try with_reducible rfl)
              (try simp only [Act.put, List.setIfInBounds_toArray, List.set_cons_zero, List.set_cons_succ])
              refine wpAnyH_take (i := 17) (oi := ⟨_, _, _, _, _, _⟩) (v := ?_) rfl (by kernel_rfl) (by kernel_rfl) (by kernel_rfl) (fun _ _ _ h => h) (Or.inl ⟨by rfl, ?_⟩) (by assumption) ?_
              rotate_left
              · intro w hSw; (try dsimp only at hSw); go_simp; (try with_reducible rfl)
              (try simp only [Act.put, List.setIfInBounds_toArray, List.set_cons_zero, List.set_cons_succ])
              refine wpAnyH_take (i := 18) (oi := ⟨_, _, _, _, _, _⟩) (v := ?_) rfl (by kernel_rfl) (by kernel_rfl) (by kernel_rfl) (fun _ _ _ h => h) (Or.inl ⟨by rfl, ?_⟩) (by assumption) ?_
              rotate_left
              · intro w hSw; (try dsimp only at hSw); go_simp; (try with_reducible rfl)
              (try simp only [Act.put, List.setIfInBounds_toArray, List.set_cons_zero, List.set_cons_succ])
              refine wpAnyH_take (i := 19) (oi := ⟨_, _, _, _, _, _⟩) (v := ?_) rfl (by kernel_rfl) (by kernel_rfl) (by kernel_rfl) (fun _ _ _ h => h) (Or.inl ⟨by rfl, ?_⟩) (by assumption) ?_
              rotate_left
              · intro w hSw; (try dsimp only at hSw); go_simp; (try with_reducible rfl)
              (try simp only [Act.put, List.setIfInBounds_toArray, List.set_cons_zero, List.set_cons_succ])
              refine wpAnyH_take (i := 20) (oi := ⟨_, _, _, _, _, _⟩) (v := ?_) rfl (by kernel_rfl) (by kernel_rfl) (by kernel_rfl) (fun _ _ _ h => h) (Or.inl ⟨by rfl, ?_⟩) (by assumption) ?_
              rotate_left
              · intro w hSw; (try dsimp only at hSw); go_simp; (try with_reducible rfl)
              (try simp only [Act.put, List.setIfInBounds_toArray, List.set_cons_zero, List.set_cons_succ])
              refine wpAnyH_ready (rs := [11]) (by kernel_rfl) (by simp) ?_
              refine AllReadyH.cons (o := ⟨_, _, _, _, _, _⟩) rfl (fun K hK => ?_) AllReadyH.nil
              go_simp
              skip
              refine hK.out _ _ ?_ (fun hHeld => ?_)
              · (try dsimp only); (first | exact ⟨e1, d0, wv, wxf⟩ | assumption | exact ⟨(cell_set_ne _ _ hq1).trans e1, (cell_set_ne _ _ hq2).trans d0, (cell_set_ne _ _ hq3).trans wv, (World.frozen?_setCell _ _ _ _).trans wxf⟩ | (simp [*]; done) | fail)
              clear hK K
              (try simp only [Act.put, List.setIfInBounds_toArray, List.set_cons_zero, List.set_cons_succ])
              refine wpAnyH_ready (rs := [21]) (by kernel_rfl) (by simp) ?_
              refine AllReadyH.cons (o := ⟨_, _, _, _, _, _⟩) rfl (fun K hK => ?_) AllReadyH.nil
              go_simp
              (go_at_call 107; (with_reducible refine (CM.out _).mono ?_); rintro e w9 ⟨rfl, rfl⟩)
              refine hK.out _ _ ?_ (fun hHeld => ?_)
              · (try dsimp only); (first | exact ⟨e1, d0, wv, wxf⟩ | assumption | exact ⟨(cell_set_ne _ _ hq1).trans e1, (cell_set_ne _ _ hq2).trans d0, (cell_set_ne _ _ hq3).trans wv, (World.frozen?_setCell _ _ _ _).trans wxf⟩ | (simp [*]; done) | fail)
              clear hK K
              (try simp only [Act.put, List.setIfInBounds_toArray, List.set_cons_zero, List.set_cons_succ])
              refine wpAnyH_take (i := 22) (oi := ⟨_, _, _, _, _, _⟩) (v := ?_) rfl (by kernel_rfl) (by kernel_rfl) (by kernel_rfl) (fun _ _ _ h => h) (Or.inl ⟨by rfl, ?_⟩) (by assumption) ?_
              rotate_left
              · intro w hSw; (try dsimp only at hSw); go_simp; (try with_reducible rfl)
              (try simp only [Act.put, List.setIfInBounds_toArray, List.set_cons_zero, List.set_cons_succ])
              refine wpAnyH_ready (rs := [23]) (by kernel_rfl) (by simp) ?_
              refine AllReadyH.cons (o := ⟨_, _, _, _, _, _⟩) rfl (fun K hK => ?_) AllReadyH.nil
              go_simp
              skip
              refine hK.out _ _ ?_ (fun hHeld => ?_)
              · (try dsimp only); (first | exact ⟨e1, d0, wv, wxf⟩ | assumption | exact ⟨(cell_set_ne _ _ hq1).trans e1, (cell_set_ne _ _ hq2).trans d0, (cell_set_ne _ _ hq3).trans wv, (World.frozen?_setCell _ _ _ _).trans wxf⟩ | (simp [*]; done) | fail)
              clear hK K
              (try simp only [Act.put, List.setIfInBounds_toArray, List.set_cons_zero, List.set_cons_succ])
              refine wpAnyH_done (by kernel_rfl) ?_ _
              focus
                go_wp2_with fail
                go_roundw
                case rel =>
                  have hne2 := HOB.out
                  refine ⟨j + 1, by omega, by go_num, ⟨HOX.out.1, own_keep HOX.out.2 (fun q hq => by have := hne2 q hq; simp only; omega) _⟩, ?_, ?_, ?_, ?_⟩
                  · have h9 := HBW.out.set_ xi (.int .i64 res)
                    rw [iArr_set, set_same] at h9
                    rw [HT.out]
                    first | exact h9 | exact h9.drew
                  · exact (World.cell?_setCell_other _ _ _ _ (fun e => by injection e with e1 e2; omega)).trans s1x
                  · have hb9 := hb3
                    repeat' (first | with_reducible assumption | with_reducible exact Below.refl _ _ | (with_reducible refine Below.setCell ?_ ?_ _) | (with_reducible refine Below.alloc ?_ ?_ _) | (with_reducible refine Below.drew ?_) | (with_reducible refine below_dr ?_ _) | (with_reducible refine Below.trans ?_ (Below.mono (by with_reducible assumption) ?_)) | omega | (simp; done) | (simp; omega))
                  · simp; omega
                case measure => simp [intOf]; omega
set_option maxRecDepth 100000 in
set_option maxHeartbeats 12800000 in
theorem walk_GlyphDepth (a : AGlyphSet) (gl : Int) (w_gl : (Lit.int .i64 gl).wf = true) (w : World) (k_a : okGlyphSet w w.heap.size a) :
    Calls Try.prog 11 #[.agg #[.int .i64 a.1, .slice a.2.1 a.2.2.2.length a.2.2.1], .int .i64 gl] w fun e w' => e = .returned (.bool true) ∧ Below w.heap.size w w' := by
  obtain ⟨a0, ⟨a1A, a1c, a1q⟩⟩ := a
  obtain ⟨w_a0, nc_a1, cm_a1, rd_a1, ok_a1⟩ := k_a
  simp only at w_a0 nc_a1 cm_a1 rd_a1 ok_a1 ⊢
  have row_a1 : Row RvGlyph 7 w w.heap.size a1A (a1q.map dGlyph) := Row.of rd_a1 (fun i b hb => rv_Glyph b (ok_a1 i b hb))
  have sz_a1 : szRow SzGlyph (a1q.map dGlyph) := ⟨Nat.le_trans (Nat.le_of_eq (List.length_map _)) (Nat.le_trans nc_a1 cm_a1), fun i b hb => sz_map sz_Glyph ok_a1 i b hb⟩
  have hn_a1 : a1q.length = (a1q.map dGlyph).length := (List.length_map _).symm
  rw [hn_a1]
  generalize a1q.map dGlyph = a1l at row_a1 sz_a1 ⊢
  have HZ_a1 := Lib.hid sz_a1
  clear nc_a1 cm_a1 rd_a1 ok_a1 hn_a1 sz_a1
  have HZP_a := Lib.hid (show SzGlyphSet (a0, a1l) from HZ_a1.out)
  have C1 := Lib.hid (fun (ha : totGlyphSet (a0, a1l) ≤ 1048576) a1A' a1c' w q_a1 => specGlyphDepth_any a0 a1A' a1c' a1l gl w ha q_a1)
  have C2 := Lib.hid (fun (ha : totGlyphSet (a0, a1l) ≤ 1048576) a1A' a1c' w q_a1 => implGlyphDepth_any a0 a1A' a1c' a1l gl w ha q_a1)
  generalize dpI ovD (a0, a1l) gl = vi at C1 C2
  have e_vi : (vi != vi) = false := by simp
  generalize askV (a0, a1l) gl = vc at C1 C2
  have e_vc : (vc != vc) = false := by simp
  go_enter Try.func11, Try.ntmps11
  go_wp2_with fail
  generalize hW : (w.alloc (.cells #[.int .i64 a0, .slice a1A a1l.length a1c] 44)) = W0
  have row_a1w : Row RvGlyph 7 w (w.heap.size) a1A a1l := row_a1
  have bx_aW0 : AtL (w.heap.size) [.int .i64 a0, .slice a1A a1l.length a1c] W0 := by rw [← hW]; repeat' (first | with_reducible assumption | with_reducible exact AtL.new _ _ _ | ((with_reducible refine AtL.newAt ?_); (first | rfl | (simp; done))) | (with_reducible refine AtL.drew ?_) | (with_reducible refine AtL.below ?_ (by with_reducible assumption)) | (with_reducible refine AtL.alloc ?_ _) | (with_reducible refine AtL.far ?_ ?_ _ _) | omega | (simp; done) | (simp; omega))
  have row_a1W0 : Row RvGlyph 7 W0 (w.heap.size) a1A a1l := by rw [← hW]; repeat' (first | with_reducible assumption | (with_reducible refine Row.drew ?_) | (with_reducible refine Row.carry ?_ (by with_reducible assumption) ?_) | (with_reducible refine Row.alloc ?_ ?_ _) | (with_reducible refine Row.setCell ?_ ?_ _) | omega | (simp; done) | (simp; omega))
  have qW0 : w.heap.size ≤ W0.heap.size := by rw [← hW]; first | (simp; done) | (simp; omega)
  have bn : Below w.heap.size w W0 := by rw [← hW]; repeat' (first | with_reducible assumption | with_reducible exact Below.refl _ _ | (with_reducible refine Below.setCell ?_ ?_ _) | (with_reducible refine Below.alloc ?_ ?_ _) | (with_reducible refine Below.drew ?_) | (with_reducible refine below_dr ?_ _) | (with_reducible refine Below.trans ?_ (Below.mono (by with_reducible assumption) ?_)) | omega | (simp; done) | (simp; omega))
  have bW0 := Lib.hid bn
  clear hW bn
  clear row_a1w row_a1
  have kbx_a0 := bx_aW0.cell 0 rfl
  have kbx_a1 := bx_aW0.cell 1 rfl
  have lbx_a := bx_aW0.lt
  go_wp2_with fail
  clear kbx_a0 kbx_a1 lbx_a
  obtain ⟨T0, hT0⟩ : ∃ T, T = totGlyphSet (a0, a1l) := ⟨_, rfl⟩
  have HTT0 := Lib.hid hT0
  refine (szGlyphSet_any a0 a1A a1c a1l 1048576 _ (by omega) (by omega) HZP_a.out ?_).mono ?_
  · (refine Row.more (B := w.heap.size) ?_ (by first | omega | ((try simp only [World.size_setCell]); (try simp only [World.size_drew]); (try simp only [World.size_alloc]); omega))); repeat' (first | with_reducible assumption | (with_reducible refine Row.drew ?_) | (with_reducible refine Row.carry ?_ (by with_reducible assumption) ?_) | (with_reducible refine Row.alloc ?_ ?_ _) | (with_reducible refine Row.setCell ?_ ?_ _) | omega | (simp; done) | (simp; omega))
  rw [← hT0]
  clear hT0
  by_cases hfit : (T0 : Int) ≤ 1048576
  case neg =>
    rw [szV_no hfit]
    rintro e wN ⟨rfl, hb⟩
    go_wp2_with fail
    go_ret
    have bp := bW0.out
    exact ⟨rfl, by repeat' (first | with_reducible assumption | with_reducible exact Below.refl _ _ | (with_reducible refine Below.setCell ?_ ?_ _) | (with_reducible refine Below.alloc ?_ ?_ _) | (with_reducible refine Below.drew ?_) | (with_reducible refine below_dr ?_ _) | (with_reducible refine Below.trans ?_ (Below.mono (by with_reducible assumption) ?_)) | omega | (simp; done) | (simp; omega))⟩
  case pos =>
    rw [szV_yes hfit]
    have HT_a := Lib.hid (show totGlyphSet (a0, a1l) ≤ 1048576 by rw [← HTT0.out]; omega)
    obtain ⟨V0, hV⟩ : ∃ V : Int, V = 1048576 - T0 := ⟨_, rfl⟩
    have hVV : 0 ≤ V0 ∧ V0 ≤ 1048576 := by omega
    rw [← hV]
    rintro e wS0 ⟨rfl, hbwS0⟩
    clear hV hfit
    obtain ⟨hV0_0, hV1_0⟩ := hVV
    have zwS0 := hbwS0.size
    (try simp only [World.size_setCell] at zwS0)
    (try simp only [World.size_drew] at zwS0)
    (try simp only [World.size_alloc] at zwS0)
    have qwS0 : w.heap.size ≤ wS0.heap.size := by omega
    have bx_awS0 : AtL (w.heap.size) [.int .i64 a0, .slice a1A a1l.length a1c] wS0 := by repeat' (first | with_reducible assumption | with_reducible exact AtL.new _ _ _ | ((with_reducible refine AtL.newAt ?_); (first | rfl | (simp; done))) | (with_reducible refine AtL.drew ?_) | (with_reducible refine AtL.below ?_ (by with_reducible assumption)) | (with_reducible refine AtL.alloc ?_ _) | (with_reducible refine AtL.far ?_ ?_ _ _) | omega | (simp; done) | (simp; omega))
    have row_a1wS0 : Row RvGlyph 7 wS0 (w.heap.size) a1A a1l := by repeat' (first | with_reducible assumption | (with_reducible refine Row.drew ?_) | (with_reducible refine Row.carry ?_ (by with_reducible assumption) ?_) | (with_reducible refine Row.alloc ?_ ?_ _) | (with_reducible refine Row.setCell ?_ ?_ _) | omega | (simp; done) | (simp; omega))
    have bp := bW0.out
    have bn : Below w.heap.size w wS0 := by repeat' (first | with_reducible assumption | with_reducible exact Below.refl _ _ | (with_reducible refine Below.setCell ?_ ?_ _) | (with_reducible refine Below.alloc ?_ ?_ _) | (with_reducible refine Below.drew ?_) | (with_reducible refine below_dr ?_ _) | (with_reducible refine Below.trans ?_ (Below.mono (by with_reducible assumption) ?_)) | omega | (simp; done) | (simp; omega))
    have bwS0 := Lib.hid bn
    clear bn
    clear bp bW0
    clear hbwS0
    clear bx_aW0
    clear row_a1W0
    have kbx_a0 := bx_awS0.cell 0 rfl
    have kbx_a1 := bx_awS0.cell 1 rfl
    have lbx_a := bx_awS0.lt
    go_wp2_with fail
    refine (xtoGlyphSet_any a0 a1A a1c a1l _ (HT_a.out) ?_).mono ?_
    · (refine Row.more (B := w.heap.size) ?_ (by first | omega | ((try simp only [World.size_setCell]); (try simp only [World.size_drew]); (try simp only [World.size_alloc]); omega))); repeat' (first | with_reducible assumption | (with_reducible refine Row.drew ?_) | (with_reducible refine Row.carry ?_ (by with_reducible assumption) ?_) | (with_reducible refine Row.alloc ?_ ?_ _) | (with_reducible refine Row.setCell ?_ ?_ _) | omega | (simp; done) | (simp; omega))
    intro e wA0 hq
    obtain ⟨owA0_a1A, owA0_a1c, rfl, owA0_a1, hbwA0⟩ := hq
    clear kbx_a0 kbx_a1 lbx_a
    have zwA0 := hbwA0.size
    (try simp only [World.size_setCell] at zwA0)
    (try simp only [World.size_drew] at zwA0)
    (try simp only [World.size_alloc] at zwA0)
    have qwA0 : w.heap.size ≤ wA0.heap.size := by omega
    have bx_awA0 : AtL (w.heap.size) [.int .i64 a0, .slice a1A a1l.length a1c] wA0 := by repeat' (first | with_reducible assumption | with_reducible exact AtL.new _ _ _ | ((with_reducible refine AtL.newAt ?_); (first | rfl | (simp; done))) | (with_reducible refine AtL.drew ?_) | (with_reducible refine AtL.below ?_ (by with_reducible assumption)) | (with_reducible refine AtL.alloc ?_ _) | (with_reducible refine AtL.far ?_ ?_ _ _) | omega | (simp; done) | (simp; omega))
    have row_a1wA0 : Row RvGlyph 7 wA0 (w.heap.size) a1A a1l := by repeat' (first | with_reducible assumption | (with_reducible refine Row.drew ?_) | (with_reducible refine Row.carry ?_ (by with_reducible assumption) ?_) | (with_reducible refine Row.alloc ?_ ?_ _) | (with_reducible refine Row.setCell ?_ ?_ _) | omega | (simp; done) | (simp; omega))
    have bp := bwS0.out
    have bn : Below w.heap.size w wA0 := by repeat' (first | with_reducible assumption | with_reducible exact Below.refl _ _ | (with_reducible refine Below.setCell ?_ ?_ _) | (with_reducible refine Below.alloc ?_ ?_ _) | (with_reducible refine Below.drew ?_) | (with_reducible refine below_dr ?_ _) | (with_reducible refine Below.trans ?_ (Below.mono (by with_reducible assumption) ?_)) | omega | (simp; done) | (simp; omega))
    have bwA0 := Lib.hid bn
    clear bn
    clear bp bwS0
    clear hbwA0
    clear bx_awS0
    clear row_a1wS0
    go_wp2_with fail
    refine (C1.out HT_a.out owA0_a1A owA0_a1c _ ?_).mono ?_
    · exact Row.more (B := wA0.heap.size) owA0_a1.here (by first | exact Nat.le_refl _ | omega)
    rintro e wB ⟨rfl, hbwB⟩
    clear owA0_a1
    have zwB := hbwB.size
    (try simp only [World.size_setCell] at zwB)
    (try simp only [World.size_drew] at zwB)
    (try simp only [World.size_alloc] at zwB)
    have qwB : w.heap.size ≤ wB.heap.size := by omega
    have bx_awB : AtL (w.heap.size) [.int .i64 a0, .slice a1A a1l.length a1c] wB := by repeat' (first | with_reducible assumption | with_reducible exact AtL.new _ _ _ | ((with_reducible refine AtL.newAt ?_); (first | rfl | (simp; done))) | (with_reducible refine AtL.drew ?_) | (with_reducible refine AtL.below ?_ (by with_reducible assumption)) | (with_reducible refine AtL.alloc ?_ _) | (with_reducible refine AtL.far ?_ ?_ _ _) | omega | (simp; done) | (simp; omega))
    have row_a1wB : Row RvGlyph 7 wB (w.heap.size) a1A a1l := by repeat' (first | with_reducible assumption | (with_reducible refine Row.drew ?_) | (with_reducible refine Row.carry ?_ (by with_reducible assumption) ?_) | (with_reducible refine Row.alloc ?_ ?_ _) | (with_reducible refine Row.setCell ?_ ?_ _) | omega | (simp; done) | (simp; omega))
    have bp := bwA0.out
    have bn : Below w.heap.size w wB := by repeat' (first | with_reducible assumption | with_reducible exact Below.refl _ _ | (with_reducible refine Below.setCell ?_ ?_ _) | (with_reducible refine Below.alloc ?_ ?_ _) | (with_reducible refine Below.drew ?_) | (with_reducible refine below_dr ?_ _) | (with_reducible refine Below.trans ?_ (Below.mono (by with_reducible assumption) ?_)) | omega | (simp; done) | (simp; omega))
    have bwB := Lib.hid bn
    clear bn
    clear bp bwA0
    clear hbwB
    clear bx_awA0
    clear row_a1wA0
    have kbx_a0 := bx_awB.cell 0 rfl
    have kbx_a1 := bx_awB.cell 1 rfl
    have lbx_a := bx_awB.lt
    go_wp2_with fail
    clear kbx_a0 kbx_a1 lbx_a
    refine (xtoGlyphSet_any a0 a1A a1c a1l _ (HT_a.out) ?_).mono ?_
    · (refine Row.more (B := w.heap.size) ?_ (by first | omega | ((try simp only [World.size_setCell]); (try simp only [World.size_drew]); (try simp only [World.size_alloc]); omega))); repeat' (first | with_reducible assumption | (with_reducible refine Row.drew ?_) | (with_reducible refine Row.carry ?_ (by with_reducible assumption) ?_) | (with_reducible refine Row.alloc ?_ ?_ _) | (with_reducible refine Row.setCell ?_ ?_ _) | omega | (simp; done) | (simp; omega))
    intro e wX0 hq
    obtain ⟨gX0_a1A, gX0_a1c, rfl, owX_a1, hbwX0⟩ := hq
    have zwX0 := hbwX0.size
    (try simp only [World.size_setCell] at zwX0)
    (try simp only [World.size_drew] at zwX0)
    (try simp only [World.size_alloc] at zwX0)
    have qwX0 : w.heap.size ≤ wX0.heap.size := by omega
    have bx_awX0 : AtL (w.heap.size) [.int .i64 a0, .slice a1A a1l.length a1c] wX0 := by repeat' (first | with_reducible assumption | with_reducible exact AtL.new _ _ _ | ((with_reducible refine AtL.newAt ?_); (first | rfl | (simp; done))) | (with_reducible refine AtL.drew ?_) | (with_reducible refine AtL.below ?_ (by with_reducible assumption)) | (with_reducible refine AtL.alloc ?_ _) | (with_reducible refine AtL.far ?_ ?_ _ _) | omega | (simp; done) | (simp; omega))
    have row_a1wX0 : Row RvGlyph 7 wX0 (w.heap.size) a1A a1l := by repeat' (first | with_reducible assumption | (with_reducible refine Row.drew ?_) | (with_reducible refine Row.carry ?_ (by with_reducible assumption) ?_) | (with_reducible refine Row.alloc ?_ ?_ _) | (with_reducible refine Row.setCell ?_ ?_ _) | omega | (simp; done) | (simp; omega))
    have bp := bwB.out
    have bn : Below w.heap.size w wX0 := by repeat' (first | with_reducible assumption | with_reducible exact Below.refl _ _ | (with_reducible refine Below.setCell ?_ ?_ _) | (with_reducible refine Below.alloc ?_ ?_ _) | (with_reducible refine Below.drew ?_) | (with_reducible refine below_dr ?_ _) | (with_reducible refine Below.trans ?_ (Below.mono (by with_reducible assumption) ?_)) | omega | (simp; done) | (simp; omega))
    have bwX0 := Lib.hid bn
    clear bn
    clear bp bwB
    clear hbwX0
    clear bx_awB
    clear row_a1wB
    have rx_a1wX0 : Row RvGlyph 7 wX0 (wX0.heap.size) gX0_a1A a1l := owX_a1.here
    clear owX_a1
    go_wp2_with fail
    generalize hWB : wX0.alloc (.cells #[.int .i64 a0, .slice gX0_a1A a1l.length gX0_a1c] 49) = WB0
    have hbWB0 : Below wX0.heap.size wX0 WB0 := by rw [← hWB]; repeat' (first | with_reducible assumption | with_reducible exact Below.refl _ _ | (with_reducible refine Below.setCell ?_ ?_ _) | (with_reducible refine Below.alloc ?_ ?_ _) | (with_reducible refine Below.drew ?_) | (with_reducible refine below_dr ?_ _) | (with_reducible refine Below.trans ?_ (Below.mono (by with_reducible assumption) ?_)) | omega | (simp; done) | (simp; omega))
    have at_aWB0 : AtL (wX0.heap.size) [.int .i64 a0, .slice gX0_a1A a1l.length gX0_a1c] WB0 := by rw [← hWB]; exact AtL.new _ _ _
    clear hWB
    have zWB0 := hbWB0.size
    (try simp only [World.size_setCell] at zWB0)
    (try simp only [World.size_drew] at zWB0)
    (try simp only [World.size_alloc] at zWB0)
    have qWB0 : w.heap.size ≤ WB0.heap.size := by omega
    have bx_aWB0 : AtL (w.heap.size) [.int .i64 a0, .slice a1A a1l.length a1c] WB0 := by repeat' (first | with_reducible assumption | with_reducible exact AtL.new _ _ _ | ((with_reducible refine AtL.newAt ?_); (first | rfl | (simp; done))) | (with_reducible refine AtL.drew ?_) | (with_reducible refine AtL.below ?_ (by with_reducible assumption)) | (with_reducible refine AtL.alloc ?_ _) | (with_reducible refine AtL.far ?_ ?_ _ _) | omega | (simp; done) | (simp; omega))
    have row_a1WB0 : Row RvGlyph 7 WB0 (w.heap.size) a1A a1l := by repeat' (first | with_reducible assumption | (with_reducible refine Row.drew ?_) | (with_reducible refine Row.carry ?_ (by with_reducible assumption) ?_) | (with_reducible refine Row.alloc ?_ ?_ _) | (with_reducible refine Row.setCell ?_ ?_ _) | omega | (simp; done) | (simp; omega))
    have rx_a1WB0 : Row RvGlyph 7 WB0 (wX0.heap.size) gX0_a1A a1l := by repeat' (first | with_reducible assumption | (with_reducible refine Row.drew ?_) | (with_reducible refine Row.carry ?_ (by with_reducible assumption) ?_) | (with_reducible refine Row.alloc ?_ ?_ _) | (with_reducible refine Row.setCell ?_ ?_ _) | omega | (simp; done) | (simp; omega))
    have bp := bwX0.out
    have bn : Below w.heap.size w WB0 := by repeat' (first | with_reducible assumption | with_reducible exact Below.refl _ _ | (with_reducible refine Below.setCell ?_ ?_ _) | (with_reducible refine Below.alloc ?_ ?_ _) | (with_reducible refine Below.drew ?_) | (with_reducible refine below_dr ?_ _) | (with_reducible refine Below.trans ?_ (Below.mono (by with_reducible assumption) ?_)) | omega | (simp; done) | (simp; omega))
    have bWB0 := Lib.hid bn
    clear bn
    clear bp bwX0
    clear hbWB0
    clear bx_awX0
    clear row_a1wX0
    clear rx_a1wX0
    refine (C2.out HT_a.out gX0_a1A gX0_a1c _ ?_).mono ?_
    · (refine Row.more (B := wX0.heap.size) ?_ (by first | omega | ((try simp only [World.size_setCell]); (try simp only [World.size_drew]); (try simp only [World.size_alloc]); omega))); repeat' (first | with_reducible assumption | (with_reducible refine Row.drew ?_) | (with_reducible refine Row.carry ?_ (by with_reducible assumption) ?_) | (with_reducible refine Row.alloc ?_ ?_ _) | (with_reducible refine Row.setCell ?_ ?_ _) | omega | (simp; done) | (simp; omega))
    rintro e wI ⟨rfl, hbwI⟩
    have zwI := hbwI.size
    (try simp only [World.size_setCell] at zwI)
    (try simp only [World.size_drew] at zwI)
    (try simp only [World.size_alloc] at zwI)
    have qwI : w.heap.size ≤ wI.heap.size := by omega
    have bx_awI : AtL (w.heap.size) [.int .i64 a0, .slice a1A a1l.length a1c] wI := by repeat' (first | with_reducible assumption | with_reducible exact AtL.new _ _ _ | ((with_reducible refine AtL.newAt ?_); (first | rfl | (simp; done))) | (with_reducible refine AtL.drew ?_) | (with_reducible refine AtL.below ?_ (by with_reducible assumption)) | (with_reducible refine AtL.alloc ?_ _) | (with_reducible refine AtL.far ?_ ?_ _ _) | omega | (simp; done) | (simp; omega))
    have row_a1wI : Row RvGlyph 7 wI (w.heap.size) a1A a1l := by repeat' (first | with_reducible assumption | (with_reducible refine Row.drew ?_) | (with_reducible refine Row.carry ?_ (by with_reducible assumption) ?_) | (with_reducible refine Row.alloc ?_ ?_ _) | (with_reducible refine Row.setCell ?_ ?_ _) | omega | (simp; done) | (simp; omega))
    have rx_a1wI : Row RvGlyph 7 wI (wX0.heap.size) gX0_a1A a1l := by repeat' (first | with_reducible assumption | (with_reducible refine Row.drew ?_) | (with_reducible refine Row.carry ?_ (by with_reducible assumption) ?_) | (with_reducible refine Row.alloc ?_ ?_ _) | (with_reducible refine Row.setCell ?_ ?_ _) | omega | (simp; done) | (simp; omega))
    have at_awI : AtL (wX0.heap.size) [.int .i64 a0, .slice gX0_a1A a1l.length gX0_a1c] wI := by repeat' (first | with_reducible assumption | with_reducible exact AtL.new _ _ _ | ((with_reducible refine AtL.newAt ?_); (first | rfl | (simp; done))) | (with_reducible refine AtL.drew ?_) | (with_reducible refine AtL.below ?_ (by with_reducible assumption)) | (with_reducible refine AtL.alloc ?_ _) | (with_reducible refine AtL.far ?_ ?_ _ _) | omega | (simp; done) | (simp; omega))
    have bp := bWB0.out
    have bn : Below w.heap.size w wI := by repeat' (first | with_reducible assumption | with_reducible exact Below.refl _ _ | (with_reducible refine Below.setCell ?_ ?_ _) | (with_reducible refine Below.alloc ?_ ?_ _) | (with_reducible refine Below.drew ?_) | (with_reducible refine below_dr ?_ _) | (with_reducible refine Below.trans ?_ (Below.mono (by with_reducible assumption) ?_)) | omega | (simp; done) | (simp; omega))
    have bwI := Lib.hid bn
    clear bn
    clear bp bWB0
    clear hbwI
    clear bx_aWB0
    clear row_a1WB0
    clear rx_a1WB0
    clear at_aWB0
    have kat_a0 := at_awI.cell 0 rfl
    have kat_a1 := at_awI.cell 1 rfl
    have lat_a := at_awI.lt
    have kbx_a0 := bx_awI.cell 0 rfl
    have kbx_a1 := bx_awI.cell 1 rfl
    have lbx_a := bx_awI.lt
    go_wp2_with fail
    go_region_held3 (fun w' => (∀ b o, b < wI.heap.size → w'.cell? ⟨b, o, none⟩ = wI.cell? ⟨b, o, none⟩) ∧ wI.heap.size ≤ w'.heap.size)
      (first | ((try dsimp only); exact ⟨fun b o h => (by (repeat (first | with_reducible exact rfl | (with_reducible refine (cell_drew_at _ _).trans ?_) | (with_reducible refine (cell_set_at _ _ (by first | omega | (simp; done) | (simp; omega))).trans ?_) | (with_reducible refine (cell_alloc_at _ _ (by first | omega | (simp; done) | (simp; omega))).trans ?_) | (with_reducible refine (hcwT0 b o (by first | omega | (simp; done) | (simp; omega))).trans ?_) | (with_reducible refine (hcwE0 b o (by first | omega | (simp; done) | (simp; omega))).trans ?_)))), (by first | omega | (simp; done) | (simp; omega))⟩) | fail)
      (first
        | (go_at_call 22; (with_reducible refine (xtoGlyphSet_any a0 a1A a1c a1l _ (HT_a.out) ?_).mono ?_); (focus ((refine Row.more (B := w.heap.size) ?_ (by first | omega | ((try simp only [World.size_setCell]); (try simp only [World.size_drew]); (try simp only [World.size_alloc]); omega))); repeat' (first | with_reducible assumption | (with_reducible refine Row.drew ?_) | (with_reducible refine Row.carry ?_ (by with_reducible assumption) ?_) | (with_reducible refine Row.alloc ?_ ?_ _) | (with_reducible refine Row.setCell ?_ ?_ _) | omega | (simp; done) | (simp; omega)))); intro e wT0 hq; obtain ⟨owE_a1A, owE_a1c, rfl, owE_a1, hbwT0⟩ := hq; obtain ⟨hcwT0, hfwT0⟩ := bcell hbwT0; have hzwT0 := hbwT0.size; (try simp only [World.size_drew] at hcwT0 hfwT0 hzwT0); (try simp only [World.size_alloc] at hcwT0 hfwT0 hzwT0))
        | (go_at_call 24; (with_reducible refine (xeqGlyphSet_any a0 gX0_a1A gX0_a1c a1l owE_a1A owE_a1c _ (Nat.le_trans HT_a.out (by omega)) ?_ ?_).mono ?_); (focus ((refine Row.more (B := wX0.heap.size) ?_ (by first | omega | ((try simp only [World.size_setCell]); (try simp only [World.size_drew]); (try simp only [World.size_alloc]); omega))); repeat' (first | with_reducible assumption | (with_reducible refine Row.drew ?_) | (with_reducible refine Row.carry ?_ (by with_reducible assumption) ?_) | (with_reducible refine Row.alloc ?_ ?_ _) | (with_reducible refine Row.setCell ?_ ?_ _) | omega | (simp; done) | (simp; omega)))); (focus (first | exact owE_a1.here | exact (RowIn.here owE_a1).drew)); rintro e wE0 ⟨rfl, hbwE0⟩; obtain ⟨hcwE0, hfwE0⟩ := bcell hbwE0; have hzwE0 := hbwE0.size; (try simp only [World.size_drew] at hcwE0 hfwE0 hzwE0); (try simp only [World.size_alloc] at hcwE0 hfwE0 hzwE0)))
    clear kat_a0 kat_a1 lat_a
    clear kbx_a0 kbx_a1 lbx_a
    all_goals
      have zwE0 := hbwE0.size
      (try simp only [World.size_setCell] at zwE0)
      (try simp only [World.size_drew] at zwE0)
      (try simp only [World.size_alloc] at zwE0)
      have qwE0 : w.heap.size ≤ wE0.heap.size := by omega
      have bx_awE0 : AtL (w.heap.size) [.int .i64 a0, .slice a1A a1l.length a1c] wE0 := by repeat' (first | with_reducible assumption | with_reducible exact AtL.new _ _ _ | ((with_reducible refine AtL.newAt ?_); (first | rfl | (simp; done))) | (with_reducible refine AtL.drew ?_) | (with_reducible refine AtL.below ?_ (by with_reducible assumption)) | (with_reducible refine AtL.alloc ?_ _) | (with_reducible refine AtL.far ?_ ?_ _ _) | omega | (simp; done) | (simp; omega))
      have row_a1wE0 : Row RvGlyph 7 wE0 (w.heap.size) a1A a1l := by repeat' (first | with_reducible assumption | (with_reducible refine Row.drew ?_) | (with_reducible refine Row.carry ?_ (by with_reducible assumption) ?_) | (with_reducible refine Row.alloc ?_ ?_ _) | (with_reducible refine Row.setCell ?_ ?_ _) | omega | (simp; done) | (simp; omega))
      have rx_a1wE0 : Row RvGlyph 7 wE0 (wX0.heap.size) gX0_a1A a1l := by repeat' (first | with_reducible assumption | (with_reducible refine Row.drew ?_) | (with_reducible refine Row.carry ?_ (by with_reducible assumption) ?_) | (with_reducible refine Row.alloc ?_ ?_ _) | (with_reducible refine Row.setCell ?_ ?_ _) | omega | (simp; done) | (simp; omega))
      have at_awE0 : AtL (wX0.heap.size) [.int .i64 a0, .slice gX0_a1A a1l.length gX0_a1c] wE0 := by repeat' (first | with_reducible assumption | with_reducible exact AtL.new _ _ _ | ((with_reducible refine AtL.newAt ?_); (first | rfl | (simp; done))) | (with_reducible refine AtL.drew ?_) | (with_reducible refine AtL.below ?_ (by with_reducible assumption)) | (with_reducible refine AtL.alloc ?_ _) | (with_reducible refine AtL.far ?_ ?_ _ _) | omega | (simp; done) | (simp; omega))
      have bp := bwI.out
      have bn : Below w.heap.size w wE0 := by repeat' (first | with_reducible assumption | with_reducible exact Below.refl _ _ | (with_reducible refine Below.setCell ?_ ?_ _) | (with_reducible refine Below.alloc ?_ ?_ _) | (with_reducible refine Below.drew ?_) | (with_reducible refine below_dr ?_ _) | (with_reducible refine Below.trans ?_ (Below.mono (by with_reducible assumption) ?_)) | omega | (simp; done) | (simp; omega))
      have bwE0 := Lib.hid bn
      clear bn
      clear bp bwI
      clear hbwE0
      clear bx_awI
      clear row_a1wI
      clear rx_a1wI
      clear at_awI
      go_wp2_with fail
      go_ret
      have bp := bwE0.out
      exact ⟨rfl, by repeat' (first | with_reducible assumption | with_reducible exact Below.refl _ _ | (with_reducible refine Below.setCell ?_ ?_ _) | (with_reducible refine Below.alloc ?_ ?_ _) | (with_reducible refine Below.drew ?_) | (with_reducible refine below_dr ?_ _) | (with_reducible refine Below.trans ?_ (Below.mono (by with_reducible assumption) ?_)) | omega | (simp; done) | (simp; omega))⟩
end Go.Proofs.Ytelefmogmloniaa
