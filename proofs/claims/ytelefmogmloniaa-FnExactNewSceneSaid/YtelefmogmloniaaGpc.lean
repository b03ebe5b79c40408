/- Walks: the order in which parts come first, the reference's side. -/
import Derived.Test.YtelefmogmloniaaGpb
namespace Go.Proofs.Ytelefmogmloniaa
open Go.RowKit
set_option linter.unusedVariables false
theorem oinfo_parts {x : Option TypeInfo} {a : Option Value} {b c : Nat} (h : x.map (fun i => (i.zero, i.size, i.bytes)) = some (a, b, c)) : ∃ i, x = some i ∧ i.zero = a ∧ i.size = b ∧ i.bytes = c := by
  cases x with
  | none => simp at h
  | some i => simp at h; exact ⟨i, rfl, h.1, h.2.1, h.2.2⟩
theorem glyphs_le {l : List DGlyph} {n : Nat} (h : totRow totGlyph l ≤ n) (i : Nat) (d : DGlyph) (hd : l[i]? = some d) : totGlyph d ≤ n := Nat.le_trans (totRow_at hd) h
def lenOf : Value → Nat | .slice _ n _ => n | _ => 0
def moreOf : Value → Bool | .bool b => b | _ => false
def pG (d : DGlyph) : List Int := d.2.2.2.2.1.map fun a => a.1
theorem psOf_pG {l : List DGlyph} {k : Nat} {d : DGlyph} (h : l[k]? = some d) : (psOf l).getD k [] = pG d := psOf_at h
def rdyB (out : List Int) (l : List DPart) (j : Nat) : Bool := decide (∀ g ∈ (l.take j).map (fun a : DPart => a.1), g ∈ out)
theorem rdy_zero {out : List Int} {l : List DPart} : rdyB out l 0 = true := by simp [rdyB]
theorem rdy_succ {out : List Int} {l : List DPart} {j : Nat} {a : DPart} (ha : l[j]? = some a) : rdyB out l (j + 1) = (rdyB out l j && decide (a.1 ∈ out)) := by
  unfold rdyB
  rw [List.take_add_one, ha]
  by_cases h1 : ∀ g ∈ (l.take j).map (fun a : DPart => a.1), g ∈ out
  · rw [decide_eq_true h1, Bool.true_and]
    congr 1
    rw [eq_iff_iff]
    constructor
    · intro h; exact h a.1 (by simp)
    · intro h g hg
      rw [List.map_append, List.mem_append] at hg
      rcases hg with hg | hg
      · exact h1 g hg
      · simp at hg; rw [hg]; exact h
  · rw [decide_eq_false h1, Bool.false_and, decide_eq_false_iff_not]
    intro h
    apply h1
    intro g hg
    exact h g (by rw [List.map_append, List.mem_append]; exact .inl hg)
theorem rdy_all {out : List Int} {l : List DPart} : rdyB out l l.length = decide (∀ g ∈ l.map (fun a : DPart => a.1), g ∈ out) := by unfold rdyB; rw [List.take_length]
set_option maxRecDepth 100000 in
set_option maxHeartbeats 12800000 in
theorem l17Order_any (l : List DGlyph) (A : Option Addr) (c b p : Nat) (w : World) (hl : l.length ≤ 40) (ht : totRow totGlyph l ≤ 1048576) (hb : b < w.heap.size) (s1 : w.cell? ⟨b, p + 1, none⟩ = some (.slice A l.length c)) (r : Row RvGlyph 7 w w.heap.size A l) :
    Calls Try.prog 106 #[.pointer (some ⟨b, p, none⟩)] w fun e w' => ∃ A' c', e = .returned (.slice A' (ordL (psOf l)).length c') ∧ OwI 2 w' w.heap.size A' (ordL (psOf l)).length c' (ordL (psOf l)) ∧ Below w.heap.size w w' := by
  obtain ⟨n, hn⟩ : ∃ n, n = l.length := ⟨_, rfl⟩
  obtain ⟨ps, hps⟩ : ∃ ps, ps = psOf l := ⟨_, rfl⟩
  have hpn : ps.length = n := by rw [hps, psOf_len, hn]
  have HI := Lib.hid (glyphs_le ht)
  have HPG := Lib.hid (show ∀ (k : Nat) (d : DGlyph), l[k]? = some d → ps.getD k [] = pG d from fun k d h => by rw [hps]; exact psOf_pG h)
  rw [← hps]
  rw [← hn] at hl s1
  have HN := Lib.hid hn
  have HPS := Lib.hid hps
  have HPN := Lib.hid hpn
  clear hn hps hpn ht
  obtain ⟨i0, hi0, hz0', hz1', hz2'⟩ := oinfo_parts infoI64
  have HI0 := Lib.hid hi0
  have HZ00 := Lib.hid hz0'
  have HZ10 := Lib.hid hz1'
  have HZ20 := Lib.hid hz2'
  clear hi0 hz0' hz1' hz2'
  go_enter Try.func106, Try.ntmps106
  go_wp2_with fail
  generalize hW : w.alloc (.cells #[] 2) = W0
  have ow0 : OwI 2 W0 w.heap.size (some ⟨w.heap.size, 0, none⟩) 0 0 (oIt ps 0) := by rw [← hW]; exact OwI.new w _ (Nat.le_refl _)
  have hb0 : Below w.heap.size w W0 := by rw [← hW]; repeat' (first | with_reducible assumption | with_reducible exact Below.refl _ _ | (with_reducible refine Below.setCell ?_ ?_ _) | (with_reducible refine Below.alloc ?_ ?_ _) | (with_reducible refine Below.drew ?_) | (with_reducible refine below_dr ?_ _) | (with_reducible refine Below.trans ?_ (Below.mono (by with_reducible assumption) ?_)) | omega | (simp; done) | (simp; omega))
  clear hW
  go_loopw [3, 4, 5, 6, 7] (fun s m _ _ _ wr => ∃ (q N : Nat) (A' : Option Addr) (c' : Nat) (mo : Bool), N = (oIt ps q).length ∧ s = .slice A' N c' ∧ m = .bool mo ∧ OwI 2 wr w.heap.size A' N c' (oIt ps q) ∧ Below w.heap.size w wr ∧ (mo = true → q ≤ N) ∧ (mo = false → oIt ps q = ordL ps)) (fun s m _ _ _ _ => if moreOf m = true then n + 1 - lenOf s else 0)
  case atStart => exact ⟨0, 0, _, _, true, rfl, rfl, rfl, ow0, hb0, fun _ => Nat.le_refl _, fun h => by cases h⟩
  case round =>
    obtain ⟨q, N, A', c', mo, hN, rfl, rfl, owr, hbl, hq1, hq2⟩ := hrel
    have zr := hbl.size
    cases mo
    case false =>
      have HQ := Lib.hid (hq2 rfl)
      clear hq1 hq2
      go_wp2_with fail
      go_ret
      refine ⟨A', c', ?_, ?_, hbl⟩
      · rw [← HQ.out, ← hN]; rfl
      · rw [← HQ.out, ← hN]; exact owr
    case true =>
      have hq := hq1 rfl
      clear hq1 hq2
      have hNn : N ≤ n := by rw [hN, ← HPN.out]; exact (Oinv.it q).len
      have HNN := Lib.hid hN
      have HOW := Lib.hid owr
      clear hN owr
      go_wp2_with fail
      obtain ⟨Wp, hWp⟩ : ∃ W : World, W = wr := ⟨_, rfl⟩
      rw [← hWp] at HOW hbl zr ⊢
      clear hWp
      go_loopw [3, 4, 5, 6, 7] (fun s m i _ _ wr => ∃ (k N2 : Nat) (A' : Option Addr) (c' : Nat), k ≤ n ∧ i = .int .i64 k ∧ N2 = (oUp ps (oIt ps q) k).length ∧ s = .slice A' N2 c' ∧ m = .bool (decide (N < N2)) ∧ OwI 2 wr w.heap.size A' N2 c' (oUp ps (oIt ps q) k) ∧ Below w.heap.size w wr) (fun _ _ i _ _ _ => n - (intOf i).toNat)
      case atStart => exact ⟨0, N, _, _, Nat.zero_le _, rfl, HNN.out, rfl, by simp, HOW.out, hbl⟩
      case round =>
        obtain ⟨k, N2, B', d', hk, rfl, hN2, rfl, rfl, ow2, hb2⟩ := hrel
        have z2 := hb2.size
        have HN2 := Lib.hid hN2
        have h2n : N2 ≤ n := by rw [hN2, ← HPN.out]; exact ((Oinv.it q).up (by rw [HPN.out]; exact hk)).len
        clear hN2
        have HOW2 := Lib.hid ow2
        clear ow2
        have s1z : wr.cell? ⟨b, p + 1, none⟩ = some (.slice A n c) := (hb2.cell (p := ⟨b, p + 1, none⟩) hb).trans s1
        by_cases hlt : k < n
        case neg =>
          obtain rfl : n = k := by omega
          go_wp2_with fail
          by_cases hmo : N < N2
          case pos =>
            have q9 : decide (N < N2) = true := by simpa using hmo
            go_roundw
            case rel => exact ⟨q + 1, N2, B', d', true, by rw [HN2.out]; show _ = (oUp ps (oIt ps q) ps.length).length; rw [HPN.out], rfl, by rw [q9], by have := HOW2.out; show OwI _ _ _ _ _ _ (oUp ps (oIt ps q) ps.length); rw [HPN.out]; exact this, hb2, fun _ => by omega, fun h => by cases h⟩
            case measure => simp [moreOf, lenOf, q9]; omega
          case neg =>
            have q9 : decide (N < N2) = false := by simpa using hmo
            have hsame : oUp ps (oIt ps q) n = oIt ps q := oUp_same (by have h1 := HN2.out; have h2 := HNN.out; have h3 := oUp_len (ps := ps) (out := oIt ps q) (k := n); omega)
            have hfix : oPass ps (oIt ps q) = oIt ps q := by show oUp ps (oIt ps q) ps.length = _; rw [HPN.out]; exact hsame
            have hord := ordL_fix hfix (by rw [← HNN.out]; exact hq)
            have HS := Lib.hid hsame
            have HD := Lib.hid hord
            clear hsame hfix hord
            go_roundw
            case rel => exact ⟨q, N2, B', d', false, by rw [HN2.out, HS.out], rfl, by rw [q9], by have := HOW2.out; rw [HS.out] at this; exact this, hb2, (fun h => by cases h), fun _ => HD.out⟩
            case measure => simp [moreOf, lenOf, q9]; omega
        case pos =>
          obtain ⟨⟨x0, x1, x2, x3l, x4l, x5l, x6⟩, ha⟩ : ∃ a, l[k]? = some a := ⟨l[k]'(by have := HN.out; omega), List.getElem?_eq_getElem (by have := HN.out; omega)⟩
          obtain ⟨g, o, rowc, hAd, hg, hRc, hcc⟩ := (Row.carry (w' := wr) r hb2 (Nat.le_refl _)).elem ha
          obtain ⟨x3A, x3c, x4A, x4c, x5A, x5c, rfl, u_x3, u_x4, u_x5⟩ := hRc
          have c0 : wr.cell? ⟨g, o + k * 7, none⟩ = some (.string x0) := hcc 0 _ rfl
          have c1 : wr.cell? ⟨g, o + k * 7 + 1, none⟩ = some (.int .i64 x1) := hcc 1 _ rfl
          have c2 : wr.cell? ⟨g, o + k * 7 + 2, none⟩ = some (.int .i64 x2) := hcc 2 _ rfl
          have c3 : wr.cell? ⟨g, o + k * 7 + 3, none⟩ = some (.slice x3A x3l.length x3c) := hcc 3 _ rfl
          have c4 : wr.cell? ⟨g, o + k * 7 + 4, none⟩ = some (.slice x4A x4l.length x4c) := hcc 4 _ rfl
          have c5 : wr.cell? ⟨g, o + k * 7 + 5, none⟩ = some (.slice x5A x5l.length x5c) := hcc 5 _ rfl
          have c6 : wr.cell? ⟨g, o + k * 7 + 6, none⟩ = some (.string x6) := hcc 6 _ rfl
          clear hcc
          have HAD := Lib.hid hAd
          clear hAd
          have HA := Lib.hid ha
          have hti := HI.out k _ ha
          have h4 : x4l.length ≤ 1048576 := by have := totRow_len totPart x4l; simp only [totGlyph] at hti; omega
          clear ha hti c0 c1 c2 c3 c5 c6 u_x3 u_x5
          have hgw : g < wr.heap.size := by omega
          have hki : (k : Int) < (n : Int) := by omega
          have CH1 := Lib.hid (fun w1 B r => l00Has_any (oUp ps (oIt ps q) k) B' d' B (k : Int) w1 (by rw [← HN2.out]; omega) r)
          rw [← HN2.out] at CH1
          by_cases hin : (k : Int) ∈ oUp ps (oIt ps q) k
          case pos =>
            rw [decide_eq_true hin] at CH1
            have HE := Lib.hid (oStep_in (ps := ps) hin)
            clear hin
            rw [HAD.out] at s1z
            go_wp2_with fail
            refine (CH1.out _ _ (HOW2.out.rd (Nat.le_refl _))).mono ?_
            rintro e wH ⟨rfl, hbH⟩
            have owH := HOW2.out.stays hbH
            have zH := hbH.size
            go_wp2_with fail
            go_roundw
            case rel => exact ⟨k + 1, N2, B', d', by omega, by go_num, by rw [oUp_succ, HE.out, ← HN2.out], rfl, rfl, by rw [oUp_succ, HE.out]; exact owH, by repeat' (first | with_reducible assumption | with_reducible exact Below.refl _ _ | (with_reducible refine Below.setCell ?_ ?_ _) | (with_reducible refine Below.alloc ?_ ?_ _) | (with_reducible refine Below.drew ?_) | (with_reducible refine below_dr ?_ _) | (with_reducible refine Below.trans ?_ (Below.mono (by with_reducible assumption) ?_)) | omega | (simp; done) | (simp; omega))⟩
            case measure => simp [intOf]; omega
          case neg =>
            rw [decide_eq_false hin] at CH1
            have HNI := Lib.hid hin
            clear hin
            rw [HAD.out] at s1z
            go_wp2_with fail
            refine (CH1.out _ _ (HOW2.out.rd (Nat.le_refl _))).mono ?_
            rintro e wH ⟨rfl, hbH⟩
            have owH := HOW2.out.stays hbH
            have zH := hbH.size
            have HOWH := Lib.hid owH
            clear owH
            have s1h : wH.cell? ⟨b, p + 1, none⟩ = some (.slice A n c) := (hbH.cell (p := ⟨b, p + 1, none⟩) (by show b < _; omega)).trans (by rw [HAD.out]; exact s1z)
            have v4 : wH.cell? ⟨g, o + k * 7 + 4, none⟩ = some (.slice x4A x4l.length x4c) := (hbH.cell (p := ⟨g, o + k * 7 + 4, none⟩) hgw).trans c4
            have rP := (Row.carry (w' := wH) u_x4 hbH (by omega))
            have hbw : Below w.heap.size w wH := by repeat' (first | with_reducible assumption | with_reducible exact Below.refl _ _ | (with_reducible refine Below.setCell ?_ ?_ _) | (with_reducible refine Below.alloc ?_ ?_ _) | (with_reducible refine Below.drew ?_) | (with_reducible refine below_dr ?_ _) | (with_reducible refine Below.trans ?_ (Below.mono (by with_reducible assumption) ?_)) | omega | (simp; done) | (simp; omega))
            clear c4 s1z
            obtain ⟨M, hM⟩ : ∃ M, M = x4l.length := ⟨_, rfl⟩
            rw [← hM] at h4 v4
            have HM := Lib.hid hM
            clear hM
            go_wp2_with fail
            go_loopw [6, 7] (fun rd j wr => ∃ j' : Nat, j' ≤ M ∧ j = .int .i64 j' ∧ rd = .bool (rdyB (oUp ps (oIt ps q) k) x4l j') ∧ Below wH.heap.size wH wr) (fun _ j _ => M - (intOf j).toNat)
            case atStart => exact ⟨0, Nat.zero_le _, rfl, by rw [rdy_zero], Below.refl _ _⟩
            case round =>
              obtain ⟨j, hj, rfl, rfl, hb3⟩ := hrel
              have z3 := hb3.size
              have s1q : wr.cell? ⟨b, p + 1, none⟩ = some (.slice A n c) := (hb3.cell (p := ⟨b, p + 1, none⟩) (by show b < _; omega)).trans s1h
              rw [HAD.out] at s1q
              have v4q : wr.cell? ⟨g, o + k * 7 + 4, none⟩ = some (.slice x4A M x4c) := (hb3.cell (p := ⟨g, o + k * 7 + 4, none⟩) (by show g < _; omega)).trans v4
              have owq := HOWH.out.stays hb3
              have HOWQ := Lib.hid owq
              clear owq
              by_cases hjl : j < M
              case pos =>
                obtain ⟨⟨y0, y1, y2⟩, hd⟩ : ∃ a, x4l[j]? = some a := ⟨x4l[j]'(by have := HM.out; omega), List.getElem?_eq_getElem (by have := HM.out; omega)⟩
                obtain ⟨gd, od, rowd, rfl, hgd, hRd, hcd⟩ := (Row.carry (w' := wr) rP hb3 (by omega)).elem hd
                obtain rfl := hRd
                have d0 : wr.cell? ⟨gd, od + j * 3, none⟩ = some (.int .i64 y0) := hcd 0 _ rfl
                have d1 : wr.cell? ⟨gd, od + j * 3 + 1, none⟩ = some (.int .i64 y1) := hcd 1 _ rfl
                have d2 : wr.cell? ⟨gd, od + j * 3 + 2, none⟩ = some (.int .i64 y2) := hcd 2 _ rfl
                clear hcd
                have HSU := Lib.hid (rdy_succ (out := oUp ps (oIt ps q) k) hd)
                clear hd
                have hgd2 : gd < wr.heap.size := by omega
                have hjM : (j : Int) < (M : Int) := by omega
                rcases hv : rdyB (oUp ps (oIt ps q) k) x4l j with _ | _
                case false =>
                  have HV := Lib.hid hv
                  clear hv
                  go_wp2_with fail
                  go_roundw
                  case rel => exact ⟨j + 1, by omega, by go_num, by rw [HSU.out, HV.out]; rfl, by repeat' (first | with_reducible assumption | with_reducible exact Below.refl _ _ | (with_reducible refine Below.setCell ?_ ?_ _) | (with_reducible refine Below.alloc ?_ ?_ _) | (with_reducible refine Below.drew ?_) | (with_reducible refine below_dr ?_ _) | (with_reducible refine Below.trans ?_ (Below.mono (by with_reducible assumption) ?_)) | omega | (simp; done) | (simp; omega))⟩
                  case measure => simp [intOf]; omega
                case true =>
                  have HV := Lib.hid hv
                  clear hv
                  have CH2 := Lib.hid (fun w1 B r => l00Has_any (oUp ps (oIt ps q) k) B' d' B y0 w1 (by rw [← HN2.out]; omega) r)
                  rw [← HN2.out] at CH2
                  go_wp2_with fail
                  refine (CH2.out _ _ (HOWQ.out.rd (Nat.le_refl _))).mono ?_
                  rintro e wK ⟨rfl, hbK⟩
                  go_wp2_with fail
                  go_roundw
                  case rel => exact ⟨j + 1, by omega, by go_num, by rw [HSU.out, HV.out]; rfl, by repeat' (first | with_reducible assumption | with_reducible exact Below.refl _ _ | (with_reducible refine Below.setCell ?_ ?_ _) | (with_reducible refine Below.alloc ?_ ?_ _) | (with_reducible refine Below.drew ?_) | (with_reducible refine below_dr ?_ _) | (with_reducible refine Below.trans ?_ (Below.mono (by with_reducible assumption) ?_)) | omega | (simp; done) | (simp; omega))⟩
                  case measure => simp [intOf]; omega
              case neg =>
                obtain rfl : M = j := by omega
                have HR := Lib.hid (rdy_all (out := oUp ps (oIt ps q) k) (l := x4l))
                rw [← HM.out] at HR
                rcases hv : rdyB (oUp ps (oIt ps q) k) x4l M with _ | _
                case false =>
                  have HE := Lib.hid (oStep_no (ps := ps) (i := k) (out := oUp ps (oIt ps q) k) (by rw [HPG.out k _ HA.out]; rw [HR.out] at hv; rw [decide_eq_false_iff_not] at hv; exact hv))
                  clear hv
                  go_wp2_with fail
                  have owH := HOWQ.out
                  go_roundw
                  case rel => exact ⟨k + 1, N2, B', d', by omega, by go_num, by rw [oUp_succ, HE.out, ← HN2.out], rfl, rfl, by rw [oUp_succ, HE.out]; exact owH, by repeat' (first | with_reducible assumption | with_reducible exact Below.refl _ _ | (with_reducible refine Below.setCell ?_ ?_ _) | (with_reducible refine Below.alloc ?_ ?_ _) | (with_reducible refine Below.drew ?_) | (with_reducible refine below_dr ?_ _) | (with_reducible refine Below.trans ?_ (Below.mono (by with_reducible assumption) ?_)) | omega | (simp; done) | (simp; omega))⟩
                  case measure => simp [intOf]; omega
                case true =>
                  have HE := Lib.hid (oStep_yes (ps := ps) (i := k) HNI.out (by rw [HPG.out k _ HA.out]; rw [HR.out] at hv; rw [decide_eq_true_eq] at hv; exact hv))
                  clear hv
                  have gA : Below w.heap.size w wr := by repeat' (first | with_reducible assumption | with_reducible exact Below.refl _ _ | (with_reducible refine Below.setCell ?_ ?_ _) | (with_reducible refine Below.alloc ?_ ?_ _) | (with_reducible refine Below.drew ?_) | (with_reducible refine below_dr ?_ _) | (with_reducible refine Below.trans ?_ (Below.mono (by with_reducible assumption) ?_)) | omega | (simp; done) | (simp; omega))
                  have zA := gA.size
                  have HMX := Lib.hid (show N2 + 1 ≤ maxLen by unfold maxLen; omega)
                  have HBY := Lib.hid (show (N2 + 1) * 8 ≤ 140737488355328 by omega)
                  have HRD := Lib.hid (ireads_new wr (k : Int) 2)
                  have HOW9 := Lib.hid (show (wr.alloc (.cells #[.int .i64 (k : Int)] 2)).ownsRow w.heap.size 2 1 (.slice B' N2 d') N2 _ from (HOWQ.out.alloc _).2)
                  have HRB := Lib.hid HOWQ.out.block
                  have HBS := Lib.hid (show w.heap.size ≤ (wr.alloc (.cells #[.int .i64 (k : Int)] 2)).heap.size by simp; omega)
                  have HGA := Lib.hid (gA.alloc zA (.cells #[.int .i64 (k : Int)] 2))
                  go_wp2_with (at_builtin; refine wpList_append_any _ rfl (.tmp 53) (.tmp 55) _ rfl w.heap.size 2 i0 _ 1 8 Try.underlying74 HI0.out HZ00.out HZ10.out HZ20.out rfl (by omega) (.slice B' N2 d') N2 _ rfl HOW9.out _ (some ⟨wr.heap.size, 0, none⟩) 1 1 [.int .i64 (k : Int)] rfl HRD.out (cInt_one (k : Int)) HMX.out HBY.out HBS.out ?_; intro v9 w9 hown9 hg9 hat9; obtain ⟨g9, cap9, rfl, _, _⟩ := hown9.form (by omega); have HOWN9 := Lib.hid hown9; have HG9 := Lib.hid hg9; clear hown9 hg9 hat9)
                  have g9b : Below w.heap.size w w9 := below_of_grown HGA.out HG9.out (by have := HBS.out; omega) (fun q hq => by have := HRB.out q hq; omega)
                  have ow9 : OwI 2 w9 w.heap.size (some ⟨g9, 0, none⟩) (N2 + 1) cap9 (oUp ps (oIt ps q) k ++ [(k : Int)]) := OwI.grown (by have := HN2.out; simp only [List.length_cons, List.length_nil]; omega) HOWN9.out
                  have hNle : N ≤ N2 := by have h1 := HN2.out; have h2 := HNN.out; have h3 := oUp_len (ps := ps) (out := oIt ps q) (k := k); omega
                  go_roundw
                  case rel => exact ⟨k + 1, N2 + 1, _, _, by omega, by go_num, by rw [oUp_succ, HE.out, List.length_append, ← HN2.out]; rfl, rfl, by rw [decide_eq_true (by omega)], by rw [oUp_succ, HE.out]; exact ow9, g9b⟩
                  case measure => simp [intOf]; omega
end Go.Proofs.Ytelefmogmloniaa
