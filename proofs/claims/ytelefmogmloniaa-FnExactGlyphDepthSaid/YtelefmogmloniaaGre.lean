/- Walks: numbers of loops, on the reference's side. -/
import Derived.Test.YtelefmogmloniaaGrd
namespace Go.Proofs.Ytelefmogmloniaa
open Go.RowKit
set_option linter.unusedVariables false
theorem l00Min_any (a b : Int) (w : World) : Calls Try.prog 161 #[.int .i64 a, .int .i64 b] w fun e w' => e = .returned (.int .i64 (min a b)) ∧ w = w' := by
  by_cases h : a < b
  · have HX := Lib.hid (show min a b = a by omega)
    go_enter Try.func161, Try.ntmps161
    go_wp2
    go_ret
    exact ⟨ret_i HX.out.symm, rfl⟩
  · have HX := Lib.hid (show min a b = b by omega)
    go_enter Try.func161, Try.ntmps161
    go_wp2
    go_ret
    exact ⟨ret_i HX.out.symm, rfl⟩
theorem l00MaxG_any (a b : Int) (w : World) : Calls Try.prog 107 #[.int .i64 a, .int .i64 b] w fun e w' => e = .returned (.int .i64 (max a b)) ∧ w = w' := by
  by_cases h : b < a
  · have h2 : decide (a > b) = true := by simpa using h
    have HX := Lib.hid (show max a b = a by omega)
    go_enter Try.func107, Try.ntmps107
    go_wp2
    go_ret
    exact ⟨ret_i HX.out.symm, rfl⟩
  · have h2 : decide (a > b) = false := by simpa using h
    have HX := Lib.hid (show max a b = b by omega)
    go_enter Try.func107, Try.ntmps107
    go_wp2
    go_ret
    exact ⟨ret_i HX.out.symm, rfl⟩
set_option maxRecDepth 100000 in
set_option maxHeartbeats 12800000 in
theorem l17Counts_any (u : Int) (l : List DGlyph) (A : Option Addr) (c b p : Nat) (w : World) (hs : vS (u, l) = true) (ht : totRow totGlyph l ≤ 1048576) (hb : b < w.heap.size) (s1 : w.cell? ⟨b, p + 1, none⟩ = some (.slice A l.length c)) (r : Row RvGlyph 7 w w.heap.size A l) :
    Calls Try.prog 110 #[.pointer (some ⟨b, p, none⟩)] w fun e w' => ∃ P, e = .returned (.slice (some ⟨P, 0, none⟩) l.length l.length) ∧ Blk w' P 2 (iArr (vAll ovC l)) ∧ Below w.heap.size w w' := by
  have hn := vS_use hs
  have hl := hn.1
  have hp := parts_ok (vS_all hs) hn.2.1
  clear hn hs
  have CO := Lib.hid (fun w1 z1 s1 r => l17Order_any l A c b p w1 hl ht z1 s1 r)
  obtain ⟨n, hn⟩ : ∃ n, n = l.length := ⟨_, rfl⟩
  obtain ⟨ord, hord⟩ : ∃ ord, ord = ordL (psOf l) := ⟨_, rfl⟩
  have hoi : Oinv (psOf l) n ord := by rw [hord, hn, ← psOf_len]; exact ordL_inv
  have hok : oOk (psOf l) ord := by rw [hord]; exact oOk_ord
  have hva : vAll ovC l = vRun ovC l ord ord.length := by rw [hord]; rfl
  rw [hva]
  rw [← hord] at CO
  have hon : ord.length ≤ n := hoi.len
  have HI := Lib.hid (glyphs_le ht)
  rw [← hn] at hp
  have HP := Lib.hid hp
  rw [← hn] at hl CO s1 ⊢
  have HN := Lib.hid hn
  have HOI := Lib.hid hoi
  have HOK := Lib.hid hok
  clear hn hord hva hoi hok hp ht
  have HVB := Lib.hid (fun k => vB_run (ov := ovC) (l := l) (ord := ord) ovC_in k)
  have HLN := Lib.hid (fun k => (vRun_len (ov := ovC) (l := l) (ord := ord) k).trans HN.out.symm)
  obtain ⟨N, hNN⟩ : ∃ N, N = ord.length := ⟨_, rfl⟩
  rw [← hNN] at hon CO ⊢
  have HNN := Lib.hid hNN
  clear hNN
  obtain ⟨j0, hj0, hy0', hy1', hy2'⟩ := oinfo_parts infoI64
  have hmk1 := fun W => run_make_rowN (P := Try.prog) 74 2 j0 _ Try.underlying74 hj0 hy0' .i64 .i64 n n (Nat.le_refl _) (by rw [hy2']; omega) (by omega) W
  simp only [hy1', iArr_made] at hmk1
  clear hj0 hy0' hy1' hy2'
  go_enter Try.func110, Try.ntmps110
  go_wp2_with fail
  refine (CO.out _ hb s1 r).mono ?_
  intro e wO hq
  obtain ⟨A', c', rfl, owO, hbO⟩ := hq
  have zO := hbO.size
  have s1o : wO.cell? ⟨b, p + 1, none⟩ = some (.slice A n c) := (hbO.cell (p := ⟨b, p + 1, none⟩) hb).trans s1
  have HOB := Lib.hid (fun q hq => (owO.block q hq).2)
  have HOW := Lib.hid owO
  clear owO
  go_wp2_with fail
  clear hmk1 s1o
  generalize hW : wO.alloc (.cells (iArr (List.replicate n 0)) 2) = W0
  have k1 : Blk W0 wO.heap.size 2 (iArr (vRun ovC l ord 0)) := by rw [vRun_zero, ← HN.out, ← hW]; exact Blk.new _ _ _
  have ow0 : OwI 2 W0 w.heap.size A' N c' ord := by rw [← hW]; exact OwI.alloc HOW.out _
  have hb0 : Below w.heap.size w W0 := by rw [← hW]; repeat' (first | with_reducible assumption | with_reducible exact Below.refl _ _ | (with_reducible refine Below.setCell ?_ ?_ _) | (with_reducible refine Below.alloc ?_ ?_ _) | (with_reducible refine Below.drew ?_) | (with_reducible refine below_dr ?_ _) | (with_reducible refine Below.trans ?_ (Below.mono (by with_reducible assumption) ?_)) | omega | (simp; done) | (simp; omega))
  clear hW
  go_loopw [5] (fun i wr => ∃ k : Nat, k ≤ N ∧ i = .int .i64 k ∧ OwI 2 wr w.heap.size A' N c' ord ∧ Blk wr wO.heap.size 2 (iArr (vRun ovC l ord k)) ∧ Below w.heap.size w wr) (fun i _ => N - (intOf i).toNat)
  case atStart => exact ⟨0, Nat.zero_le _, rfl, ow0, k1, hb0⟩
  case round =>
    clear ow0 k1 hb0
    obtain ⟨k, hk, rfl, owr, b1, hb2⟩ := hrel
    have zr := hb2.size
    by_cases hlt : k < N
    case neg =>
      obtain rfl : N = k := by omega
      go_wp2_with fail
      go_ret
      exact ⟨wO.heap.size, by rfl, b1, hb2⟩
    case pos =>
      obtain ⟨Wq, hWq⟩ : ∃ W : World, W = wr := ⟨_, rfl⟩
      rw [← hWq] at owr b1 hb2 zr ⊢
      clear hWq
      obtain ⟨x, hx⟩ : ∃ a, ord[k]? = some a := ⟨ord[k]'(by have := HNN.out; omega), List.getElem?_eq_getElem (by have := HNN.out; omega)⟩
      obtain ⟨xi, hxi, hxe⟩ := HOI.out.lt x (List.mem_of_getElem? hx)
      subst hxe
      have s1z : Wq.cell? ⟨b, p + 1, none⟩ = some (.slice A n c) := (hb2.cell (p := ⟨b, p + 1, none⟩) hb).trans s1
      obtain ⟨g1, o1, hA1, hg1, hc1⟩ := (owr.rd (Nat.le_refl _)).elem hx
      have e0 : Wq.cell? ⟨g1, o1 + k, none⟩ = some (.int .i64 (xi : Int)) := by have h := hc1 0 _ rfl; rw [Nat.mul_one] at h; exact h
      clear hc1
      have HA1 := Lib.hid hA1
      subst hA1
      have HX := Lib.hid hx
      clear hx
      obtain ⟨⟨x0, x1, x2, x3l, x4l, x5l, x6⟩, ha⟩ : ∃ a, l[xi]? = some a := ⟨l[xi]'(by have := HN.out; omega), List.getElem?_eq_getElem (by have := HN.out; omega)⟩
      obtain ⟨g, o, rowc, rfl, hg, hRc, hcc⟩ := (Row.carry (w' := Wq) r hb2 (Nat.le_refl _)).elem ha
      obtain ⟨x3A, x3c, x4A, x4c, x5A, x5c, rfl, u_x3, u_x4, u_x5⟩ := hRc
      have c0 : Wq.cell? ⟨g, o + xi * 7, none⟩ = some (.string x0) := hcc 0 _ rfl
      have c1 : Wq.cell? ⟨g, o + xi * 7 + 1, none⟩ = some (.int .i64 x1) := hcc 1 _ rfl
      have c2 : Wq.cell? ⟨g, o + xi * 7 + 2, none⟩ = some (.int .i64 x2) := hcc 2 _ rfl
      have c3 : Wq.cell? ⟨g, o + xi * 7 + 3, none⟩ = some (.slice x3A x3l.length x3c) := hcc 3 _ rfl
      have c4 : Wq.cell? ⟨g, o + xi * 7 + 4, none⟩ = some (.slice x4A x4l.length x4c) := hcc 4 _ rfl
      have c5 : Wq.cell? ⟨g, o + xi * 7 + 5, none⟩ = some (.slice x5A x5l.length x5c) := hcc 5 _ rfl
      have c6 : Wq.cell? ⟨g, o + xi * 7 + 6, none⟩ = some (.string x6) := hcc 6 _ rfl
      clear hcc
      have HA := Lib.hid ha
      have hti := HI.out xi _ ha
      have h4 : x4l.length ≤ 1048576 := by have := totRow_len totPart x4l; simp only [totGlyph] at hti; omega
      have h3 : x3l.length ≤ 1048576 := by have := totRow_len totLoop x3l; simp only [totGlyph] at hti; omega
      have HPK := Lib.hid (HP.out xi _ ha)
      clear ha hti
      have hgw : g < Wq.heap.size := by omega
      have hki : (k : Int) < (N : Int) := by omega
      have hxn : (xi : Int) < (n : Int) := by omega
      have lb1 := b1.lt
      have hbw : b < Wq.heap.size := by omega
      obtain ⟨M, hM⟩ : ∃ M, M = x4l.length := ⟨_, rfl⟩
      have HM := Lib.hid hM
      rw [← hM] at h4 c4
      clear hM
      obtain ⟨ps, hps⟩ : ∃ ps, ps = pv (vRun ovC l ord k) (x0, x1, x2, x3l, x4l, x5l, x6) := ⟨_, rfl⟩
      have HPS := Lib.hid hps
      have HPL := Lib.hid (show ps.length = M by rw [hps, HM.out]; exact List.length_map _)
      have hpb : vB k ps := by rw [hps]; exact pv_in (HVB.out k)
      have HSU := Lib.hid (fun (j : Nat) (hj : j ≤ ps.length) => (show 0 ≤ (ps.take j).sum ∧ (ps.take j).sum ≤ 55574528 by
        have h1 := sum_in hpb j
        have h2 : (13 + (k : Int)) * (j : Int) ≤ 53 * 1048576 := Int.mul_le_mul (by omega) (by have := HPL.out; omega) (by omega) (by omega)
        omega))
      have HST := Lib.hid (show vRun ovC l ord (k + 1) = (vRun ovC l ord k).set xi (min ((x3l.length : Int) + ps.sum) 13) by rw [vRun_succ HX.out, vStep_at HA.out, ← HPS.out]; rfl)
      clear hps hpb
      have HOR := Lib.hid owr
      have HB1 := Lib.hid b1
      clear owr b1
      have U4 := Lib.hid u_x4
      clear u_x3 u_x4 u_x5
      generalize x3l.length = n3 at *
      go_wp2_with fail
      go_region_held3 (fun w' => w'.cell? ⟨b, p + 1, none⟩ = some (.slice (some ⟨g, o, none⟩) n c) ∧ w'.cell? ⟨g1, o1 + k, none⟩ = some (.int .i64 (xi : Int)))
        (first | exact ⟨s1z, e0⟩ | assumption | fail)
        (fail)
      all_goals
        have v3 : Wq.drew.cell? ⟨g, o + xi * 7 + 3, none⟩ = some (.slice x3A n3 x3c) := c3
        clear c0 c1 c2 c5 c6 s1z
        go_wp2_with fail
        clear v3
        go_loopw [7, 8] (fun s i wx => ∃ j : Nat, j ≤ M ∧ i = .int .i64 j ∧ s = .int .i64 ((n3 : Int) + (ps.take j).sum) ∧ Below Wq.heap.size Wq wx) (fun _ i _ => M - (intOf i).toNat)
        case atStart => exact ⟨0, Nat.zero_le _, rfl, by simp, by repeat' (first | with_reducible assumption | with_reducible exact Below.refl _ _ | (with_reducible refine Below.setCell ?_ ?_ _) | (with_reducible refine Below.alloc ?_ ?_ _) | (with_reducible refine Below.drew ?_) | (with_reducible refine below_dr ?_ _) | (with_reducible refine Below.trans ?_ (Below.mono (by with_reducible assumption) ?_)) | omega | (simp; done) | (simp; omega))⟩
        case round =>
          obtain ⟨j, hj, rfl, rfl, hb3⟩ := hrel
          have z3 := hb3.size
          have hs := HSU.out j (by rw [HPL.out]; exact hj)
          have B1w := HB1.out.carry hb3
          have lw1 := B1w.lt
          have v4 : wr.cell? ⟨g, o + xi * 7 + 4, none⟩ = some (.slice x4A M x4c) := (hb3.cell (p := ⟨g, o + xi * 7 + 4, none⟩) hgw).trans c4
          by_cases hjl : j < M
          case pos =>
            obtain ⟨⟨y0, y1, y2⟩, hd⟩ : ∃ a, x4l[j]? = some a := ⟨x4l[j]'(by have := HM.out; omega), List.getElem?_eq_getElem (by have := HM.out; omega)⟩
            obtain ⟨gd, od, rowd, rfl, hgd, hRd, hcd⟩ := (Row.carry (w' := wr) U4.out hb3 (by omega)).elem hd
            obtain rfl := hRd
            have d0 : wr.cell? ⟨gd, od + j * 3, none⟩ = some (.int .i64 y0) := hcd 0 _ rfl
            have d1 : wr.cell? ⟨gd, od + j * 3 + 1, none⟩ = some (.int .i64 y1) := hcd 1 _ rfl
            have d2 : wr.cell? ⟨gd, od + j * 3 + 2, none⟩ = some (.int .i64 y2) := hcd 2 _ rfl
            clear hcd
            obtain ⟨y_0, y_n⟩ := HPK.out j _ hd
            simp only at y_0 y_n
            obtain ⟨yi, rfl⟩ : ∃ yi : Nat, y0 = (yi : Int) := ⟨y0.toNat, by omega⟩
            have hpj : ps[j]? = some (gv (vRun ovC l ord k) (yi : Int)) := by
              rw [HPS.out]; unfold pv; rw [List.getElem?_map]; show Option.map _ x4l[j]? = _; rw [hd]; rfl
            have HT := Lib.hid (sum_take hpj)
            have hs2 := HSU.out (j + 1) (by rw [HPL.out]; omega)
            rw [HT.out] at hs2
            clear hd hpj
            have hyn : yi < n := by omega
            have hjM : (j : Int) < (M : Int) := by omega
            have hgd2 : gd < wr.heap.size := by omega
            have hgw3 : g < wr.heap.size := by omega
            have wv : wr.cell? ⟨wO.heap.size, yi, none⟩ = some (.int .i64 (gv (vRun ovC l ord k) (yi : Int))) := B1w.cell yi (iArr_at (gv_get (by rw [HLN.out]; exact hyn)))
            generalize gv (vRun ovC l ord k) (yi : Int) = v at *
            generalize (ps.take j).sum = sj at *
            have hw : IntKind.i64.wrap ((n3 : Int) + sj + v) = (n3 : Int) + sj + v := IntWalk.i64_in _ (by omega)
            clear B1w
            go_wp2_with fail
            go_roundw
            case rel => exact ⟨j + 1, by omega, by go_num, by rw [HT.out]; congr 1; omega, by repeat' (first | with_reducible assumption | with_reducible exact Below.refl _ _ | (with_reducible refine Below.setCell ?_ ?_ _) | (with_reducible refine Below.alloc ?_ ?_ _) | (with_reducible refine Below.drew ?_) | (with_reducible refine below_dr ?_ _) | (with_reducible refine Below.trans ?_ (Below.mono (by with_reducible assumption) ?_)) | omega | (simp; done) | (simp; omega))⟩
            case measure => simp [intOf]; omega
          case neg =>
            obtain rfl : M = j := by omega
            have HSA := Lib.hid (show (ps.take M).sum = ps.sum by rw [← HPL.out, List.take_length])
            rw [HSA.out]
            have e1 : wr.cell? ⟨g1, o1 + k, none⟩ = some (.int .i64 (xi : Int)) := (hb3.cell (p := ⟨g1, o1 + k, none⟩) (by show g1 < _; omega)).trans e0
            have wx : wr.cell? ⟨wO.heap.size, xi, none⟩ = some (.int .i64 (gv (vRun ovC l ord k) (xi : Int))) := B1w.cell xi (iArr_at (gv_get (by rw [HLN.out]; exact hxi)))
            have wxf := B1w.frozen xi
            generalize gv (vRun ovC l ord k) (xi : Int) = old at wx
            have CM := Lib.hid (fun w1 => l00Min_any ((n3 : Int) + ps.sum) 13 w1)
            generalize ps.sum = sm at *
            generalize min ((n3 : Int) + sm) 13 = res at CM HST
            have HBW := Lib.hid B1w
            clear B1w hs
            go_wp2_with fail
            go_region_with (go_at_call 161; (with_reducible refine (CM.out _).mono ?_); rintro e w9 ⟨rfl, rfl⟩)
            all_goals
              go_wp2_with fail
              go_roundw
              case rel =>
                have ow4 := HOR.out.stays hb3
                have hne := HOB.out
                refine ⟨k + 1, by omega, by go_num, ⟨ow4.1, own_keep ow4.2 (fun q hq => by have := hne q hq; simp only; omega) _⟩, ?_, ?_⟩
                · rw [HST.out, ← iArr_set]; exact HBW.out.set_ xi _
                · have hb9 := hb2.trans (hb3.mono zr)
                  repeat' (first | with_reducible assumption | with_reducible exact Below.refl _ _ | (with_reducible refine Below.setCell ?_ ?_ _) | (with_reducible refine Below.alloc ?_ ?_ _) | (with_reducible refine Below.drew ?_) | (with_reducible refine below_dr ?_ _) | (with_reducible refine Below.trans ?_ (Below.mono (by with_reducible assumption) ?_)) | omega | (simp; done) | (simp; omega))
              case measure => simp [intOf]; omega
end Go.Proofs.Ytelefmogmloniaa
