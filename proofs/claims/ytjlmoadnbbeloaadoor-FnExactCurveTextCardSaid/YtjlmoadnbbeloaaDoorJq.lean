/- Walks: the text of a curve, the program's side. -/
import Derived.Test.YtjlmoadnbbeloaaDoorJp
import Derived.Test.YtjlmoadnbbeloaaDoorKv2
namespace Go.Proofs.YtjlmoadnbbeloaaDoor
open Go.RowKit
set_option linter.unusedVariables false
theorem one_str (vs : List ByteArray) : ∀ u ∈ cellsF cS vs, u.oneCell' = true := cellsF_one (fun a => cS_one a) vs
set_option maxRecDepth 100000 in
set_option maxHeartbeats 6400000 in
theorem implCurveText_false (l : List APt) (A : Option Addr) (c : Nat) (t : Int) (ff fl : Bool) (fx fy lx ly : Int) (w : World) (hv : vCur l false t ff fl fx fy lx ly = true) (hl : l.length ≤ 1048576) (r : Rd cPt 2 w w.heap.size A l) (ht : Lib.TabIs Tryd.prog w "internal/strconv.uint64pow10" .u64 Lib.pow10Tab) :
    Calls Tryd.prog 19 #[.agg #[.slice A l.length c, .bool false, .int .i64 t, .bool ff, .bool fl, .int .i64 fx, .int .i64 fy, .int .i64 lx, .int .i64 ly]] w fun e w' => e = .returned (.string (joinB ⟨#[32]⟩ (curW l false t ff fl fx fy lx ly))) ∧ Below w.heap.size w w' := by
  obtain ⟨hq1, hq2, hq3, hq4, hq5, hq6, _⟩ := vC_parts hv
  have hlen := len_yes hq1
  have hten : 3 ≤ t ∧ t ≤ 12 := by simpa [tenB] using hq3
  have hti : -9223372036854775808 ≤ t ∧ t ≤ 9223372036854775807 := ⟨by omega, by omega⟩
  have hef := endB_ok hq5
  have hel := endB_ok hq6
  have HP := Lib.hid hq2
  have HSM := Lib.hid (curW_small (cl := false) (ff := ff) (fl := fl) hti hq2 hef hel)
  have HLN := Lib.hid (curW_len (l := l) (cl := false) (t := t) (ff := ff) (fl := fl) (fx := fx) (fy := fy) (lx := lx) (ly := ly))
  have HTAB := Lib.hid (fun w1 (hb : Below w.heap.size w w1) => Joins.tab_stays gPow ht hb (Nat.le_refl _))
  have CV := Lib.hid (fun w r => implValidCurve_any l A c false t ff fl fx fy lx ly w hl r)
  rw [hv] at CV
  have CD := Lib.hid (fun w1 (hb : Below w.heap.size w w1) => show Calls Tryd.prog 50 #[.int .i64 t] w1 (fun e w' => e = .returned (.string (decB t)) ∧ Below w1.heap.size w1 w') from implDecimal_any t w1 hti.1 hti.2 (HTAB.out w1 hb))
  have CF := Lib.hid (fun w1 (hb : Below w.heap.size w w1) => implPtText_any fx fy w1 (okB_in hef).1 (okB_in hef).2 (HTAB.out w1 hb))
  have CL := Lib.hid (fun w1 (hb : Below w.heap.size w w1) => implPtText_any lx ly w1 (okB_in hel).1 (okB_in hel).2 (HTAB.out w1 hb))
  clear hv hq1 hq2 hq3 hq4 hq5 hq6 hten hef hel hti ht
  obtain ⟨i0, hi0, hz0', hz1', hz2'⟩ := info_parts infoStr
  have HI0 := Lib.hid hi0
  have HZ0 := Lib.hid hz0'
  have HZ1 := Lib.hid hz1'
  have HZ2 := Lib.hid hz2'
  clear hi0 hz0' hz1' hz2'
  obtain ⟨d, hd⟩ : ∃ d, d = decB t := ⟨_, rfl⟩
  rw [← hd] at CD
  have HD := Lib.hid hd
  clear hd
  obtain ⟨T, hT⟩ : ∃ T, T = joinB ⟨#[32]⟩ (curW l false t ff fl fx fy lx ly) := ⟨_, rfl⟩
  rw [← hT]
  have HT := Lib.hid hT
  clear hT
  obtain ⟨n, hn⟩ : ∃ n, n = l.length := ⟨_, rfl⟩
  rw [← hn] at hlen CV ⊢
  have HN := Lib.hid hn
  clear hn hl
  go_enter Tryd.func19, Tryd.ntmps19
  go_wp2_with fail
  refine (CV.out _ ?_).mono ?_
  · (refine Rd.more (B := w.heap.size) ?_ (by first | omega | ((try simp only [World.size_setCell]); (try simp only [World.size_drew]); (try simp only [World.size_alloc]); omega) | (simp; done) | (simp; omega))); (repeat' (first | with_reducible assumption | (with_reducible refine Rd.drew ?_) | (with_reducible refine Rd.carry ?_ (by with_reducible assumption) ?_) | (with_reducible refine Rd.alloc ?_ ?_ _) | (with_reducible refine Rd.setCell ?_ ?_ _) | omega | (simp; done) | (simp; omega)))
  rintro e w1 ⟨rfl, hb1⟩
  have at1 : AtL w.heap.size [.slice A n c, .bool false, .int .i64 t, .bool ff, .bool fl, .int .i64 fx, .int .i64 fy, .int .i64 lx, .int .i64 ly] w1 := (AtL.new w _ _).below hb1
  have g1 : Below w.heap.size w w1 := by repeat' (first | with_reducible assumption | with_reducible exact Below.refl _ _ | (with_reducible refine Below.setCell ?_ ?_ _) | (with_reducible refine Below.alloc ?_ ?_ _) | (with_reducible refine Below.drew ?_) | (with_reducible refine below_dr ?_ _) | (with_reducible refine Below.trans ?_ (Below.mono (by with_reducible assumption) ?_)) | omega | (simp; done) | (simp; omega))
  clear hb1
  have k2 := at1.cell 2 rfl
  have lw := at1.lt
  go_wp2_with fail
  refine (CD.out _ g1).mono ?_
  rintro e w2 ⟨rfl, hb2⟩
  have at2 := at1.below hb2
  have g2 : Below w.heap.size w w2 := by repeat' (first | with_reducible assumption | with_reducible exact Below.refl _ _ | (with_reducible refine Below.setCell ?_ ?_ _) | (with_reducible refine Below.alloc ?_ ?_ _) | (with_reducible refine Below.drew ?_) | (with_reducible refine below_dr ?_ _) | (with_reducible refine Below.trans ?_ (Below.mono (by with_reducible assumption) ?_)) | omega | (simp; done) | (simp; omega))
  have z2 := hb2.size
  clear k2 hb2 at1 g1
  have k0 := at2.cell 0 rfl
  have k1 := at2.cell 1 rfl
  have lw2 := at2.lt
  go_wp2_with fail
  generalize hW : (w2.alloc (.cells #[.string ⟨#[111, 112, 101, 110]⟩, .string d] 9)) = W0
  obtain ⟨G, hG⟩ : ∃ G, G = w2.heap.size := ⟨_, rfl⟩
  have bk0 : Blk W0 G 9 #[.string (wordC false), .string d] := by rw [← hW, hG]; exact Blk.new _ _ _
  have at3 : AtL w.heap.size [.slice A n c, .bool false, .int .i64 t, .bool ff, .bool fl, .int .i64 fx, .int .i64 fy, .int .i64 lx, .int .i64 ly] W0 := by rw [← hW]; exact at2.alloc _
  have g3 : Below w.heap.size w W0 := by rw [← hW]; repeat' (first | with_reducible assumption | with_reducible exact Below.refl _ _ | (with_reducible refine Below.setCell ?_ ?_ _) | (with_reducible refine Below.alloc ?_ ?_ _) | (with_reducible refine Below.drew ?_) | (with_reducible refine below_dr ?_ _) | (with_reducible refine Below.trans ?_ (Below.mono (by with_reducible assumption) ?_)) | omega | (simp; done) | (simp; omega))
  have hGw : w.heap.size + 1 ≤ G := by omega
  rw [← hG]
  clear hW hG at2 g2 k0 k1 lw lw2 z2 CV CD
  have ow0 : OwS W0 (w.heap.size + 1) (some ⟨G, 0, none⟩) 2 2 (cwK l false t 0) := OwS.of_blk (ws := (cwK l false t 0)) bk0 (by rw [show cwK l false t 0 = [wordC false, decB t] from rfl, ← HD.out]; rfl) (by rw [cwK_len (Nat.zero_le _)]; omega) _ hGw
  clear bk0
  go_loopw [3, 20] (fun s i wr => ∃ (k : Nat) (A' : Option Addr) (m c' : Nat), k ≤ n ∧ i = .int .i64 (k : Int) ∧ s = .slice A' m c' ∧ OwS wr (w.heap.size + 1) A' m c' (cwK l false t k) ∧ AtL w.heap.size [.slice A n c, .bool false, .int .i64 t, .bool ff, .bool fl, .int .i64 fx, .int .i64 fy, .int .i64 lx, .int .i64 ly] wr ∧ Below w.heap.size w wr) (fun _ i _ => n - (intOf i).toNat)
  case atStart => exact ⟨0, _, _, _, Nat.zero_le _, rfl, rfl, ow0, at3, g3⟩
  case round =>
    clear at3 g3 ow0 hGw
    obtain ⟨k, A', m, c', hk, rfl, rfl, ow, at4, hbl⟩ := hrel
    have lb := at4.lt
    have hz := hbl.size
    have hm12 : m ≤ 12 := by have h1 := ow.1; rw [cwK_len (by have := HN.out; omega)] at h1; omega
    by_cases hlt : k < n
    case pos =>
      obtain ⟨⟨x, y⟩, ha⟩ : ∃ a, l[k]? = some a := ⟨l[k]'(by have := HN.out; omega), List.getElem?_eq_getElem (by have := HN.out; omega)⟩
      have hxy := okB_in (pts_all HP.out ha)
      have CT := Lib.hid (fun w1 (hb : Below w.heap.size w w1) => implPtText_any x y w1 hxy.1 hxy.2 (HTAB.out w1 hb))
      have HST := Lib.hid (show (cwK l false t k) ++ [ptT x y] = (cwK l false t (k + 1)) from (cwK_step ha).symm)
      obtain ⟨g, o, rfl, hg, hc⟩ := (r.below hbl).elem ha
      have c0 : wr.cell? ⟨g, o + k * 2, none⟩ = some (.int .i64 x) := hc 0 _ rfl
      have c1 : wr.cell? ⟨g, o + k * 2 + 1, none⟩ = some (.int .i64 y) := hc 1 _ rfl
      have hgw : g < wr.heap.size := by omega
      have hki : (k : Int) < (n : Int) := by omega
      clear hc ha hxy r CF CL
      generalize ptT x y = u at CT HST
      go_wp2_with fail
      refine (CT.out _ (by repeat' (first | with_reducible assumption | with_reducible exact Below.refl _ _ | (with_reducible refine Below.setCell ?_ ?_ _) | (with_reducible refine Below.alloc ?_ ?_ _) | (with_reducible refine Below.drew ?_) | (with_reducible refine below_dr ?_ _) | (with_reducible refine Below.trans ?_ (Below.mono (by with_reducible assumption) ?_)) | omega | (simp; done) | (simp; omega)))).mono ?_
      rintro e w3 ⟨rfl, hb3⟩
      have at5 : AtL w.heap.size [.slice (some ⟨g, o, none⟩) n c, .bool false, .int .i64 t, .bool ff, .bool fl, .int .i64 fx, .int .i64 fy, .int .i64 lx, .int .i64 ly] w3 := by repeat' (first | with_reducible assumption | (with_reducible refine AtL.below ?_ (by with_reducible assumption)) | (with_reducible refine AtL.drew ?_) | (with_reducible refine AtL.alloc ?_ _) | ((with_reducible refine AtL.far ?_ ?_ _ _); omega))
      have ow3 : OwS w3 (w.heap.size + 1) A' m c' (cwK l false t k) := by repeat' (first | with_reducible assumption | (with_reducible refine OwS.stays ?_ (by with_reducible assumption)) | (with_reducible refine OwS.drew ?_) | (with_reducible refine OwS.alloc ?_ _))
      have g3 : Below w.heap.size w w3 := by repeat' (first | with_reducible assumption | with_reducible exact Below.refl _ _ | (with_reducible refine Below.setCell ?_ ?_ _) | (with_reducible refine Below.alloc ?_ ?_ _) | (with_reducible refine Below.drew ?_) | (with_reducible refine below_dr ?_ _) | (with_reducible refine Below.trans ?_ (Below.mono (by with_reducible assumption) ?_)) | omega | (simp; done) | (simp; omega))
      have z3 := g3.size
      clear hb3 at4 ow hbl c0 c1
      have HOW := Lib.hid (show (w3.alloc (.cells #[.string u] 9)).ownsRow (w.heap.size + 1) 9 1 (.slice A' m c') m _ from (ow3.alloc _).2)
      have HRD := Lib.hid (reads_new w3 [.string u] 9)
      have HRB := Lib.hid ow3.block
      have HMX := Lib.hid (show m + 1 ≤ maxLen by unfold maxLen; omega)
      have HBY := Lib.hid (show (m + 1) * 16 ≤ 140737488355328 by omega)
      have HBS := Lib.hid (show w.heap.size + 1 ≤ (w3.alloc (.cells #[.string u] 9)).heap.size by simp; omega)
      go_wp2_with (at_builtin; refine wpList_append_any _ rfl (.tmp 24) (.tmp 27) _ rfl (w.heap.size + 1) 9 i0 _ 1 16 Tryd.underlying82 HI0.out HZ0.out HZ1.out HZ2.out rfl (by omega) (.slice A' m c') m _ rfl HOW.out _ (some ⟨w3.heap.size, 0, none⟩) 1 1 [.string u] rfl HRD.out (one_str [u]) HMX.out HBY.out HBS.out ?_; intro v9 w9 hown9 hg9 hat9; obtain ⟨g9, cap9, rfl, _, _⟩ := hown9.form (by omega); have HOWN9 := Lib.hid hown9; have HG9 := Lib.hid hg9; clear hown9 hg9 hat9)
      have g9b : Below w.heap.size w w9 := below_of_grown (show Below w.heap.size w (w3.alloc (.cells #[.string u] 9)) by repeat' (first | with_reducible assumption | with_reducible exact Below.refl _ _ | (with_reducible refine Below.setCell ?_ ?_ _) | (with_reducible refine Below.alloc ?_ ?_ _) | (with_reducible refine Below.drew ?_) | (with_reducible refine below_dr ?_ _) | (with_reducible refine Below.trans ?_ (Below.mono (by with_reducible assumption) ?_)) | omega | (simp; done) | (simp; omega))) HG9.out (by simp; omega) (fun q hq => by have := HRB.out q hq; omega)
      have at9 : AtL w.heap.size [.slice (some ⟨g, o, none⟩) n c, .bool false, .int .i64 t, .bool ff, .bool fl, .int .i64 fx, .int .i64 fy, .int .i64 lx, .int .i64 ly] w9 := AtL.grown (at5.alloc (.cells #[.string u] 9)) HG9.out (fun q hq => by have := HRB.out q hq; omega)
      have ow9 : OwS w9 (w.heap.size + 1) (some ⟨g9, 0, none⟩) (m + 1) cap9 ((cwK l false t k) ++ [u]) := OwS.grown (by have := ow3.1; simp only [List.length_cons, List.length_nil]; omega) HOWN9.out
      have z9 := g9b.size
      clear HOW HRD HMX HBY HBS HOWN9 HG9 HRB
      go_roundw
      case rel => exact ⟨k + 1, _, _, _, by omega, by go_num, rfl, by rw [HST.out] at ow9; exact ow9, at9, g9b⟩
      case measure => first | (simp [intOf]; done) | (simp [intOf]; omega)
    case neg =>
      obtain rfl : n = k := by omega
      have hki : ¬ ((n : Int) < (n : Int)) := by omega
      clear r
      have k3 := at4.cell 3 rfl
      have k4 := at4.cell 4 rfl
      have k5 := at4.cell 5 rfl
      have k6 := at4.cell 6 rfl
      have k7 := at4.cell 7 rfl
      have k8 := at4.cell 8 rfl
      obtain ⟨u, hu⟩ : ∃ u, u = ptT fx fy := ⟨_, rfl⟩
      obtain ⟨v, hv⟩ : ∃ v, v = ptT lx ly := ⟨_, rfl⟩
      rw [← hu] at CF
      rw [← hv] at CL
      have HU := Lib.hid hu
      have HV := Lib.hid hv
      clear hu hv
      rcases ff with _ | _
      case false =>
        rcases fl with _ | _
        case false =>
          have HQ := Lib.hid (show curW l false t false false fx fy lx ly = (cwK l false t n) from by unfold curW; rw [← HN.out]; simp [endW])
          go_wp2_with fail
          refine (joinOw_any ow ?_ (m := 43) ?_ ?_ ⟨#[32]⟩ rfl).mono ?_
          · simp [cwK]
          · intro y hy; exact HSM.out y (by rw [HQ.out]; exact hy)
          · have h1 := HLN.out; rw [HQ.out] at h1; have h2 := HN.out; generalize (List.length _) = z at h1 ⊢; omega
          rintro e wJ ⟨rfl, hbJ⟩
          go_wp2_with fail
          go_ret
          exact ⟨by rw [HT.out, HQ.out]; first | rfl | (rw [List.append_assoc]; rfl), by repeat' (first | with_reducible assumption | with_reducible exact Below.refl _ _ | (with_reducible refine Below.setCell ?_ ?_ _) | (with_reducible refine Below.alloc ?_ ?_ _) | (with_reducible refine Below.drew ?_) | (with_reducible refine below_dr ?_ _) | (with_reducible refine Below.trans ?_ (Below.mono (by with_reducible assumption) ?_)) | omega | (simp; done) | (simp; omega))⟩
        case true =>
          have HQ := Lib.hid (show curW l false t false true fx fy lx ly = (cwK l false t n) ++ [⟨#[108, 97, 115, 116]⟩, v] from by unfold curW; rw [← HN.out]; simp [endW, lastW, HV.out])
          go_wp2_with fail
          refine (CL.out _ (by repeat' (first | with_reducible assumption | with_reducible exact Below.refl _ _ | (with_reducible refine Below.setCell ?_ ?_ _) | (with_reducible refine Below.alloc ?_ ?_ _) | (with_reducible refine Below.drew ?_) | (with_reducible refine below_dr ?_ _) | (with_reducible refine Below.trans ?_ (Below.mono (by with_reducible assumption) ?_)) | omega | (simp; done) | (simp; omega)))).mono ?_
          rintro e w3 ⟨rfl, hbw3⟩
          have atw3 : AtL w.heap.size [.slice A n c, .bool false, .int .i64 t, .bool false, .bool true, .int .i64 fx, .int .i64 fy, .int .i64 lx, .int .i64 ly] w3 := by repeat' (first | with_reducible assumption | (with_reducible refine AtL.below ?_ (by with_reducible assumption)) | (with_reducible refine AtL.drew ?_) | (with_reducible refine AtL.alloc ?_ _) | ((with_reducible refine AtL.far ?_ ?_ _ _); omega))
          have oww3 : OwS w3 (w.heap.size + 1) A' (m) c' ((cwK l false t n)) := by repeat' (first | with_reducible assumption | (with_reducible refine OwS.stays ?_ (by with_reducible assumption)) | (with_reducible refine OwS.drew ?_) | (with_reducible refine OwS.alloc ?_ _))
          have gw3 : Below w.heap.size w w3 := by repeat' (first | with_reducible assumption | with_reducible exact Below.refl _ _ | (with_reducible refine Below.setCell ?_ ?_ _) | (with_reducible refine Below.alloc ?_ ?_ _) | (with_reducible refine Below.drew ?_) | (with_reducible refine below_dr ?_ _) | (with_reducible refine Below.trans ?_ (Below.mono (by with_reducible assumption) ?_)) | omega | (simp; done) | (simp; omega))
          have zw3 := gw3.size
          clear hbw3
          have HOW := Lib.hid (show (w3.alloc (.cells #[.string ⟨#[108, 97, 115, 116]⟩, .string v] 9)).ownsRow (w.heap.size + 1) 9 1 (.slice A' m c') m _ from (oww3.alloc _).2)
          have HRD := Lib.hid (reads_new w3 [.string ⟨#[108, 97, 115, 116]⟩, .string v] 9)
          have HRB := Lib.hid oww3.block
          have HMX := Lib.hid (show m + 2 ≤ maxLen by unfold maxLen; omega)
          have HBY := Lib.hid (show (m + 2) * 16 ≤ 140737488355328 by omega)
          have HBS := Lib.hid (show w.heap.size + 1 ≤ (w3.alloc (.cells #[.string ⟨#[108, 97, 115, 116]⟩, .string v] 9)).heap.size by simp; omega)
          go_wp2_with (at_builtin; refine wpList_append_any _ rfl (.tmp 40) (.tmp 44) _ rfl (w.heap.size + 1) 9 i0 _ 1 16 Tryd.underlying82 HI0.out HZ0.out HZ1.out HZ2.out rfl (by omega) (.slice A' m c') m _ rfl HOW.out _ (some ⟨w3.heap.size, 0, none⟩) 2 2 [.string ⟨#[108, 97, 115, 116]⟩, .string v] rfl HRD.out (one_str [⟨#[108, 97, 115, 116]⟩, v]) HMX.out HBY.out HBS.out ?_; intro v9 w9 hown9 hg9 hat9; obtain ⟨g9, cap9, rfl, _, _⟩ := hown9.form (by omega); have HOWN9 := Lib.hid hown9; have HG9 := Lib.hid hg9; clear hown9 hg9 hat9)
          have g9b : Below w.heap.size w w9 := below_of_grown (show Below w.heap.size w (w3.alloc (.cells #[.string ⟨#[108, 97, 115, 116]⟩, .string v] 9)) by repeat' (first | with_reducible assumption | with_reducible exact Below.refl _ _ | (with_reducible refine Below.setCell ?_ ?_ _) | (with_reducible refine Below.alloc ?_ ?_ _) | (with_reducible refine Below.drew ?_) | (with_reducible refine below_dr ?_ _) | (with_reducible refine Below.trans ?_ (Below.mono (by with_reducible assumption) ?_)) | omega | (simp; done) | (simp; omega))) HG9.out (by simp; omega) (fun q hq => by have := HRB.out q hq; omega)
          have at9 : AtL w.heap.size [.slice A n c, .bool false, .int .i64 t, .bool false, .bool true, .int .i64 fx, .int .i64 fy, .int .i64 lx, .int .i64 ly] w9 := AtL.grown (atw3.alloc (.cells #[.string ⟨#[108, 97, 115, 116]⟩, .string v] 9)) HG9.out (fun q hq => by have := HRB.out q hq; omega)
          have ow9 : OwS w9 (w.heap.size + 1) (some ⟨g9, 0, none⟩) (m + 2) cap9 ((cwK l false t n) ++ [⟨#[108, 97, 115, 116]⟩, v]) := OwS.grown (by have := oww3.1; simp only [List.length_cons, List.length_nil]; omega) HOWN9.out
          have z9 := g9b.size
          clear HOW HRD HMX HBY HBS HOWN9 HG9 HRB
          refine (joinOw_any ow9 ?_ (m := 43) ?_ ?_ ⟨#[32]⟩ rfl).mono ?_
          · simp [cwK]
          · intro y hy; exact HSM.out y (by rw [HQ.out]; exact hy)
          · have h1 := HLN.out; rw [HQ.out] at h1; have h2 := HN.out; generalize (List.length _) = z at h1 ⊢; omega
          rintro e wJ ⟨rfl, hbJ⟩
          go_wp2_with fail
          go_ret
          exact ⟨by rw [HT.out, HQ.out]; first | rfl | (rw [List.append_assoc]; rfl), by repeat' (first | with_reducible assumption | with_reducible exact Below.refl _ _ | (with_reducible refine Below.setCell ?_ ?_ _) | (with_reducible refine Below.alloc ?_ ?_ _) | (with_reducible refine Below.drew ?_) | (with_reducible refine below_dr ?_ _) | (with_reducible refine Below.trans ?_ (Below.mono (by with_reducible assumption) ?_)) | omega | (simp; done) | (simp; omega))⟩
      case true =>
        rcases fl with _ | _
        case false =>
          have HQ := Lib.hid (show curW l false t true false fx fy lx ly = (cwK l false t n) ++ [⟨#[102, 105, 114, 115, 116]⟩, u] from by unfold curW; rw [← HN.out]; simp [endW, firstW, HU.out])
          go_wp2_with fail
          refine (CF.out _ (by repeat' (first | with_reducible assumption | with_reducible exact Below.refl _ _ | (with_reducible refine Below.setCell ?_ ?_ _) | (with_reducible refine Below.alloc ?_ ?_ _) | (with_reducible refine Below.drew ?_) | (with_reducible refine below_dr ?_ _) | (with_reducible refine Below.trans ?_ (Below.mono (by with_reducible assumption) ?_)) | omega | (simp; done) | (simp; omega)))).mono ?_
          rintro e w3 ⟨rfl, hbw3⟩
          have atw3 : AtL w.heap.size [.slice A n c, .bool false, .int .i64 t, .bool true, .bool false, .int .i64 fx, .int .i64 fy, .int .i64 lx, .int .i64 ly] w3 := by repeat' (first | with_reducible assumption | (with_reducible refine AtL.below ?_ (by with_reducible assumption)) | (with_reducible refine AtL.drew ?_) | (with_reducible refine AtL.alloc ?_ _) | ((with_reducible refine AtL.far ?_ ?_ _ _); omega))
          have oww3 : OwS w3 (w.heap.size + 1) A' (m) c' ((cwK l false t n)) := by repeat' (first | with_reducible assumption | (with_reducible refine OwS.stays ?_ (by with_reducible assumption)) | (with_reducible refine OwS.drew ?_) | (with_reducible refine OwS.alloc ?_ _))
          have gw3 : Below w.heap.size w w3 := by repeat' (first | with_reducible assumption | with_reducible exact Below.refl _ _ | (with_reducible refine Below.setCell ?_ ?_ _) | (with_reducible refine Below.alloc ?_ ?_ _) | (with_reducible refine Below.drew ?_) | (with_reducible refine below_dr ?_ _) | (with_reducible refine Below.trans ?_ (Below.mono (by with_reducible assumption) ?_)) | omega | (simp; done) | (simp; omega))
          have zw3 := gw3.size
          clear hbw3
          have q4 := atw3.cell 4 rfl
          have q7 := atw3.cell 7 rfl
          have q8 := atw3.cell 8 rfl
          have lw3 := atw3.lt
          clear k3 k4 k5 k6 k7 k8 at4 ow hbl lb
          have HOW := Lib.hid (show (w3.alloc (.cells #[.string ⟨#[102, 105, 114, 115, 116]⟩, .string u] 9)).ownsRow (w.heap.size + 1) 9 1 (.slice A' m c') m _ from (oww3.alloc _).2)
          have HRD := Lib.hid (reads_new w3 [.string ⟨#[102, 105, 114, 115, 116]⟩, .string u] 9)
          have HRB := Lib.hid oww3.block
          have HMX := Lib.hid (show m + 2 ≤ maxLen by unfold maxLen; omega)
          have HBY := Lib.hid (show (m + 2) * 16 ≤ 140737488355328 by omega)
          have HBS := Lib.hid (show w.heap.size + 1 ≤ (w3.alloc (.cells #[.string ⟨#[102, 105, 114, 115, 116]⟩, .string u] 9)).heap.size by simp; omega)
          go_wp2_with (at_builtin; refine wpList_append_any _ rfl (.tmp 32) (.tmp 36) _ rfl (w.heap.size + 1) 9 i0 _ 1 16 Tryd.underlying82 HI0.out HZ0.out HZ1.out HZ2.out rfl (by omega) (.slice A' m c') m _ rfl HOW.out _ (some ⟨w3.heap.size, 0, none⟩) 2 2 [.string ⟨#[102, 105, 114, 115, 116]⟩, .string u] rfl HRD.out (one_str [⟨#[102, 105, 114, 115, 116]⟩, u]) HMX.out HBY.out HBS.out ?_; intro v9 w9 hown9 hg9 hat9; obtain ⟨g9, cap9, rfl, _, _⟩ := hown9.form (by omega); have HOWN9 := Lib.hid hown9; have HG9 := Lib.hid hg9; have at9 : AtL w.heap.size [.slice A n c, .bool false, .int .i64 t, .bool true, .bool false, .int .i64 fx, .int .i64 fy, .int .i64 lx, .int .i64 ly] w9 := AtL.grown (atw3.alloc (.cells #[.string ⟨#[102, 105, 114, 115, 116]⟩, .string u] 9)) hg9 (fun q hq => (by have := HRB.out q hq; omega)); have p4 := at9.cell 4 rfl; have p7 := at9.cell 7 rfl; have p8 := at9.cell 8 rfl; have lw9 := at9.lt; clear hown9 hg9 hat9)
          have g9b : Below w.heap.size w w9 := below_of_grown (show Below w.heap.size w (w3.alloc (.cells #[.string ⟨#[102, 105, 114, 115, 116]⟩, .string u] 9)) by repeat' (first | with_reducible assumption | with_reducible exact Below.refl _ _ | (with_reducible refine Below.setCell ?_ ?_ _) | (with_reducible refine Below.alloc ?_ ?_ _) | (with_reducible refine Below.drew ?_) | (with_reducible refine below_dr ?_ _) | (with_reducible refine Below.trans ?_ (Below.mono (by with_reducible assumption) ?_)) | omega | (simp; done) | (simp; omega))) HG9.out (by simp; omega) (fun q hq => by have := HRB.out q hq; omega)
          have at9 : AtL w.heap.size [.slice A n c, .bool false, .int .i64 t, .bool true, .bool false, .int .i64 fx, .int .i64 fy, .int .i64 lx, .int .i64 ly] w9 := AtL.grown (atw3.alloc (.cells #[.string ⟨#[102, 105, 114, 115, 116]⟩, .string u] 9)) HG9.out (fun q hq => by have := HRB.out q hq; omega)
          have ow9 : OwS w9 (w.heap.size + 1) (some ⟨g9, 0, none⟩) (m + 2) cap9 ((cwK l false t n) ++ [⟨#[102, 105, 114, 115, 116]⟩, u]) := OwS.grown (by have := oww3.1; simp only [List.length_cons, List.length_nil]; omega) HOWN9.out
          have z9 := g9b.size
          clear HOW HRD HMX HBY HBS HOWN9 HG9 HRB
          refine (joinOw_any ow9 ?_ (m := 43) ?_ ?_ ⟨#[32]⟩ rfl).mono ?_
          · simp [cwK]
          · intro y hy; exact HSM.out y (by rw [HQ.out]; exact hy)
          · have h1 := HLN.out; rw [HQ.out] at h1; have h2 := HN.out; generalize (List.length _) = z at h1 ⊢; omega
          rintro e wJ ⟨rfl, hbJ⟩
          go_wp2_with fail
          go_ret
          exact ⟨by rw [HT.out, HQ.out]; first | rfl | (rw [List.append_assoc]; rfl), by repeat' (first | with_reducible assumption | with_reducible exact Below.refl _ _ | (with_reducible refine Below.setCell ?_ ?_ _) | (with_reducible refine Below.alloc ?_ ?_ _) | (with_reducible refine Below.drew ?_) | (with_reducible refine below_dr ?_ _) | (with_reducible refine Below.trans ?_ (Below.mono (by with_reducible assumption) ?_)) | omega | (simp; done) | (simp; omega))⟩
        case true =>
          have HQ := Lib.hid (show curW l false t true true fx fy lx ly = (cwK l false t n) ++ [⟨#[102, 105, 114, 115, 116]⟩, u] ++ [⟨#[108, 97, 115, 116]⟩, v] from by unfold curW; rw [← HN.out]; simp [endW, firstW, HU.out, lastW, HV.out])
          go_wp2_with fail
          refine (CF.out _ (by repeat' (first | with_reducible assumption | with_reducible exact Below.refl _ _ | (with_reducible refine Below.setCell ?_ ?_ _) | (with_reducible refine Below.alloc ?_ ?_ _) | (with_reducible refine Below.drew ?_) | (with_reducible refine below_dr ?_ _) | (with_reducible refine Below.trans ?_ (Below.mono (by with_reducible assumption) ?_)) | omega | (simp; done) | (simp; omega)))).mono ?_
          rintro e w3 ⟨rfl, hbw3⟩
          have atw3 : AtL w.heap.size [.slice A n c, .bool false, .int .i64 t, .bool true, .bool true, .int .i64 fx, .int .i64 fy, .int .i64 lx, .int .i64 ly] w3 := by repeat' (first | with_reducible assumption | (with_reducible refine AtL.below ?_ (by with_reducible assumption)) | (with_reducible refine AtL.drew ?_) | (with_reducible refine AtL.alloc ?_ _) | ((with_reducible refine AtL.far ?_ ?_ _ _); omega))
          have oww3 : OwS w3 (w.heap.size + 1) A' (m) c' ((cwK l false t n)) := by repeat' (first | with_reducible assumption | (with_reducible refine OwS.stays ?_ (by with_reducible assumption)) | (with_reducible refine OwS.drew ?_) | (with_reducible refine OwS.alloc ?_ _))
          have gw3 : Below w.heap.size w w3 := by repeat' (first | with_reducible assumption | with_reducible exact Below.refl _ _ | (with_reducible refine Below.setCell ?_ ?_ _) | (with_reducible refine Below.alloc ?_ ?_ _) | (with_reducible refine Below.drew ?_) | (with_reducible refine below_dr ?_ _) | (with_reducible refine Below.trans ?_ (Below.mono (by with_reducible assumption) ?_)) | omega | (simp; done) | (simp; omega))
          have zw3 := gw3.size
          clear hbw3
          have q4 := atw3.cell 4 rfl
          have q7 := atw3.cell 7 rfl
          have q8 := atw3.cell 8 rfl
          have lw3 := atw3.lt
          clear k3 k4 k5 k6 k7 k8 at4 ow hbl lb
          have HOW := Lib.hid (show (w3.alloc (.cells #[.string ⟨#[102, 105, 114, 115, 116]⟩, .string u] 9)).ownsRow (w.heap.size + 1) 9 1 (.slice A' m c') m _ from (oww3.alloc _).2)
          have HRD := Lib.hid (reads_new w3 [.string ⟨#[102, 105, 114, 115, 116]⟩, .string u] 9)
          have HRB := Lib.hid oww3.block
          have HMX := Lib.hid (show m + 2 ≤ maxLen by unfold maxLen; omega)
          have HBY := Lib.hid (show (m + 2) * 16 ≤ 140737488355328 by omega)
          have HBS := Lib.hid (show w.heap.size + 1 ≤ (w3.alloc (.cells #[.string ⟨#[102, 105, 114, 115, 116]⟩, .string u] 9)).heap.size by simp; omega)
          go_wp2_with (at_builtin; refine wpList_append_any _ rfl (.tmp 32) (.tmp 36) _ rfl (w.heap.size + 1) 9 i0 _ 1 16 Tryd.underlying82 HI0.out HZ0.out HZ1.out HZ2.out rfl (by omega) (.slice A' m c') m _ rfl HOW.out _ (some ⟨w3.heap.size, 0, none⟩) 2 2 [.string ⟨#[102, 105, 114, 115, 116]⟩, .string u] rfl HRD.out (one_str [⟨#[102, 105, 114, 115, 116]⟩, u]) HMX.out HBY.out HBS.out ?_; intro v9 wA hown9 hg9 hatA; obtain ⟨gg, cc, rfl, _, _⟩ := hown9.form (by omega); have HOWN9 := Lib.hid hown9; have HG9 := Lib.hid hg9; have atA : AtL w.heap.size [.slice A n c, .bool false, .int .i64 t, .bool true, .bool true, .int .i64 fx, .int .i64 fy, .int .i64 lx, .int .i64 ly] wA := AtL.grown (atw3.alloc (.cells #[.string ⟨#[102, 105, 114, 115, 116]⟩, .string u] 9)) hg9 (fun q hq => (by have := HRB.out q hq; omega)); have p4 := atA.cell 4 rfl; have p7 := atA.cell 7 rfl; have p8 := atA.cell 8 rfl; have lwA := atA.lt; clear hown9 hg9 hatA)
          have gA : Below w.heap.size w wA := below_of_grown (show Below w.heap.size w (w3.alloc (.cells #[.string ⟨#[102, 105, 114, 115, 116]⟩, .string u] 9)) by repeat' (first | with_reducible assumption | with_reducible exact Below.refl _ _ | (with_reducible refine Below.setCell ?_ ?_ _) | (with_reducible refine Below.alloc ?_ ?_ _) | (with_reducible refine Below.drew ?_) | (with_reducible refine below_dr ?_ _) | (with_reducible refine Below.trans ?_ (Below.mono (by with_reducible assumption) ?_)) | omega | (simp; done) | (simp; omega))) HG9.out (by simp; omega) (fun q hq => by have := HRB.out q hq; omega)
          have atA : AtL w.heap.size [.slice A n c, .bool false, .int .i64 t, .bool true, .bool true, .int .i64 fx, .int .i64 fy, .int .i64 lx, .int .i64 ly] wA := AtL.grown (atw3.alloc (.cells #[.string ⟨#[102, 105, 114, 115, 116]⟩, .string u] 9)) HG9.out (fun q hq => by have := HRB.out q hq; omega)
          have owA : OwS wA (w.heap.size + 1) (some ⟨gg, 0, none⟩) (m + 2) cc ((cwK l false t n) ++ [⟨#[102, 105, 114, 115, 116]⟩, u]) := OwS.grown (by have := oww3.1; simp only [List.length_cons, List.length_nil]; omega) HOWN9.out
          have zA := gA.size
          clear HOW HRD HMX HBY HBS HOWN9 HG9 HRB
          clear q4 q7 q8 lw3 atw3 oww3 gw3 zw3
          refine (CL.out _ (by repeat' (first | with_reducible assumption | with_reducible exact Below.refl _ _ | (with_reducible refine Below.setCell ?_ ?_ _) | (with_reducible refine Below.alloc ?_ ?_ _) | (with_reducible refine Below.drew ?_) | (with_reducible refine below_dr ?_ _) | (with_reducible refine Below.trans ?_ (Below.mono (by with_reducible assumption) ?_)) | omega | (simp; done) | (simp; omega)))).mono ?_
          rintro e w4 ⟨rfl, hbw4⟩
          have atw4 : AtL w.heap.size [.slice A n c, .bool false, .int .i64 t, .bool true, .bool true, .int .i64 fx, .int .i64 fy, .int .i64 lx, .int .i64 ly] w4 := by repeat' (first | with_reducible assumption | (with_reducible refine AtL.below ?_ (by with_reducible assumption)) | (with_reducible refine AtL.drew ?_) | (with_reducible refine AtL.alloc ?_ _) | ((with_reducible refine AtL.far ?_ ?_ _ _); omega))
          have oww4 : OwS w4 (w.heap.size + 1) (some ⟨gg, 0, none⟩) (m + 2) cc ((cwK l false t n) ++ [⟨#[102, 105, 114, 115, 116]⟩, u]) := by repeat' (first | with_reducible assumption | (with_reducible refine OwS.stays ?_ (by with_reducible assumption)) | (with_reducible refine OwS.drew ?_) | (with_reducible refine OwS.alloc ?_ _))
          have gw4 : Below w.heap.size w w4 := by repeat' (first | with_reducible assumption | with_reducible exact Below.refl _ _ | (with_reducible refine Below.setCell ?_ ?_ _) | (with_reducible refine Below.alloc ?_ ?_ _) | (with_reducible refine Below.drew ?_) | (with_reducible refine below_dr ?_ _) | (with_reducible refine Below.trans ?_ (Below.mono (by with_reducible assumption) ?_)) | omega | (simp; done) | (simp; omega))
          have zw4 := gw4.size
          clear hbw4
          have HOW := Lib.hid (show (w4.alloc (.cells #[.string ⟨#[108, 97, 115, 116]⟩, .string v] 9)).ownsRow (w.heap.size + 1) 9 1 (.slice (some ⟨gg, 0, none⟩) (m + 2) cc) (m + 2) _ from (oww4.alloc _).2)
          have HRD := Lib.hid (reads_new w4 [.string ⟨#[108, 97, 115, 116]⟩, .string v] 9)
          have HRB := Lib.hid oww4.block
          have HMX := Lib.hid (show (m + 2) + 2 ≤ maxLen by unfold maxLen; omega)
          have HBY := Lib.hid (show ((m + 2) + 2) * 16 ≤ 140737488355328 by omega)
          have HBS := Lib.hid (show w.heap.size + 1 ≤ (w4.alloc (.cells #[.string ⟨#[108, 97, 115, 116]⟩, .string v] 9)).heap.size by simp; omega)
          go_wp2_with (at_builtin; refine wpList_append_any _ rfl (.tmp 40) (.tmp 44) _ rfl (w.heap.size + 1) 9 i0 _ 1 16 Tryd.underlying82 HI0.out HZ0.out HZ1.out HZ2.out rfl (by omega) (.slice (some ⟨gg, 0, none⟩) (m + 2) cc) (m + 2) _ rfl HOW.out _ (some ⟨w4.heap.size, 0, none⟩) 2 2 [.string ⟨#[108, 97, 115, 116]⟩, .string v] rfl HRD.out (one_str [⟨#[108, 97, 115, 116]⟩, v]) HMX.out HBY.out HBS.out ?_; intro v9 w9 hown9 hg9 hat9; obtain ⟨g9, cap9, rfl, _, _⟩ := hown9.form (by omega); have HOWN9 := Lib.hid hown9; have HG9 := Lib.hid hg9; clear hown9 hg9 hat9)
          have g9b : Below w.heap.size w w9 := below_of_grown (show Below w.heap.size w (w4.alloc (.cells #[.string ⟨#[108, 97, 115, 116]⟩, .string v] 9)) by repeat' (first | with_reducible assumption | with_reducible exact Below.refl _ _ | (with_reducible refine Below.setCell ?_ ?_ _) | (with_reducible refine Below.alloc ?_ ?_ _) | (with_reducible refine Below.drew ?_) | (with_reducible refine below_dr ?_ _) | (with_reducible refine Below.trans ?_ (Below.mono (by with_reducible assumption) ?_)) | omega | (simp; done) | (simp; omega))) HG9.out (by simp; omega) (fun q hq => by have := HRB.out q hq; omega)
          have at9 : AtL w.heap.size [.slice A n c, .bool false, .int .i64 t, .bool true, .bool true, .int .i64 fx, .int .i64 fy, .int .i64 lx, .int .i64 ly] w9 := AtL.grown (atw4.alloc (.cells #[.string ⟨#[108, 97, 115, 116]⟩, .string v] 9)) HG9.out (fun q hq => by have := HRB.out q hq; omega)
          have ow9 : OwS w9 (w.heap.size + 1) (some ⟨g9, 0, none⟩) ((m + 2) + 2) cap9 ((cwK l false t n) ++ [⟨#[102, 105, 114, 115, 116]⟩, u] ++ [⟨#[108, 97, 115, 116]⟩, v]) := OwS.grown (by have := oww4.1; simp only [List.length_cons, List.length_nil]; omega) HOWN9.out
          have z9 := g9b.size
          clear HOW HRD HMX HBY HBS HOWN9 HG9 HRB
          refine (joinOw_any ow9 ?_ (m := 43) ?_ ?_ ⟨#[32]⟩ rfl).mono ?_
          · simp [cwK]
          · intro y hy; exact HSM.out y (by rw [HQ.out]; exact hy)
          · have h1 := HLN.out; rw [HQ.out] at h1; have h2 := HN.out; generalize (List.length _) = z at h1 ⊢; omega
          rintro e wJ ⟨rfl, hbJ⟩
          go_wp2_with fail
          go_ret
          exact ⟨by rw [HT.out, HQ.out]; first | rfl | (rw [List.append_assoc]; rfl), by repeat' (first | with_reducible assumption | with_reducible exact Below.refl _ _ | (with_reducible refine Below.setCell ?_ ?_ _) | (with_reducible refine Below.alloc ?_ ?_ _) | (with_reducible refine Below.drew ?_) | (with_reducible refine below_dr ?_ _) | (with_reducible refine Below.trans ?_ (Below.mono (by with_reducible assumption) ?_)) | omega | (simp; done) | (simp; omega))⟩
set_option maxRecDepth 100000 in
set_option maxHeartbeats 6400000 in
theorem implCurveText_true (l : List APt) (A : Option Addr) (c : Nat) (t : Int) (ff fl : Bool) (fx fy lx ly : Int) (w : World) (hv : vCur l true t ff fl fx fy lx ly = true) (hl : l.length ≤ 1048576) (r : Rd cPt 2 w w.heap.size A l) (ht : Lib.TabIs Tryd.prog w "internal/strconv.uint64pow10" .u64 Lib.pow10Tab) :
    Calls Tryd.prog 19 #[.agg #[.slice A l.length c, .bool true, .int .i64 t, .bool ff, .bool fl, .int .i64 fx, .int .i64 fy, .int .i64 lx, .int .i64 ly]] w fun e w' => e = .returned (.string (joinB ⟨#[32]⟩ (curW l true t ff fl fx fy lx ly))) ∧ Below w.heap.size w w' := by
  obtain ⟨hq1, hq2, hq3, hq4, hq5, hq6, _⟩ := vC_parts hv
  have hlen := len_yes hq1
  have hten : 3 ≤ t ∧ t ≤ 12 := by simpa [tenB] using hq3
  have hti : -9223372036854775808 ≤ t ∧ t ≤ 9223372036854775807 := ⟨by omega, by omega⟩
  have hef := endB_ok hq5
  have hel := endB_ok hq6
  have HP := Lib.hid hq2
  have HSM := Lib.hid (curW_small (cl := true) (ff := ff) (fl := fl) hti hq2 hef hel)
  have HLN := Lib.hid (curW_len (l := l) (cl := true) (t := t) (ff := ff) (fl := fl) (fx := fx) (fy := fy) (lx := lx) (ly := ly))
  have HTAB := Lib.hid (fun w1 (hb : Below w.heap.size w w1) => Joins.tab_stays gPow ht hb (Nat.le_refl _))
  have CV := Lib.hid (fun w r => implValidCurve_any l A c true t ff fl fx fy lx ly w hl r)
  rw [hv] at CV
  have CD := Lib.hid (fun w1 (hb : Below w.heap.size w w1) => show Calls Tryd.prog 50 #[.int .i64 t] w1 (fun e w' => e = .returned (.string (decB t)) ∧ Below w1.heap.size w1 w') from implDecimal_any t w1 hti.1 hti.2 (HTAB.out w1 hb))
  have CF := Lib.hid (fun w1 (hb : Below w.heap.size w w1) => implPtText_any fx fy w1 (okB_in hef).1 (okB_in hef).2 (HTAB.out w1 hb))
  have CL := Lib.hid (fun w1 (hb : Below w.heap.size w w1) => implPtText_any lx ly w1 (okB_in hel).1 (okB_in hel).2 (HTAB.out w1 hb))
  clear hv hq1 hq2 hq3 hq4 hq5 hq6 hten hef hel hti ht
  obtain ⟨i0, hi0, hz0', hz1', hz2'⟩ := info_parts infoStr
  have HI0 := Lib.hid hi0
  have HZ0 := Lib.hid hz0'
  have HZ1 := Lib.hid hz1'
  have HZ2 := Lib.hid hz2'
  clear hi0 hz0' hz1' hz2'
  obtain ⟨d, hd⟩ : ∃ d, d = decB t := ⟨_, rfl⟩
  rw [← hd] at CD
  have HD := Lib.hid hd
  clear hd
  obtain ⟨T, hT⟩ : ∃ T, T = joinB ⟨#[32]⟩ (curW l true t ff fl fx fy lx ly) := ⟨_, rfl⟩
  rw [← hT]
  have HT := Lib.hid hT
  clear hT
  obtain ⟨n, hn⟩ : ∃ n, n = l.length := ⟨_, rfl⟩
  rw [← hn] at hlen CV ⊢
  have HN := Lib.hid hn
  clear hn hl
  go_enter Tryd.func19, Tryd.ntmps19
  go_wp2_with fail
  refine (CV.out _ ?_).mono ?_
  · (refine Rd.more (B := w.heap.size) ?_ (by first | omega | ((try simp only [World.size_setCell]); (try simp only [World.size_drew]); (try simp only [World.size_alloc]); omega) | (simp; done) | (simp; omega))); (repeat' (first | with_reducible assumption | (with_reducible refine Rd.drew ?_) | (with_reducible refine Rd.carry ?_ (by with_reducible assumption) ?_) | (with_reducible refine Rd.alloc ?_ ?_ _) | (with_reducible refine Rd.setCell ?_ ?_ _) | omega | (simp; done) | (simp; omega)))
  rintro e w1 ⟨rfl, hb1⟩
  have at1 : AtL w.heap.size [.slice A n c, .bool true, .int .i64 t, .bool ff, .bool fl, .int .i64 fx, .int .i64 fy, .int .i64 lx, .int .i64 ly] w1 := (AtL.new w _ _).below hb1
  have g1 : Below w.heap.size w w1 := by repeat' (first | with_reducible assumption | with_reducible exact Below.refl _ _ | (with_reducible refine Below.setCell ?_ ?_ _) | (with_reducible refine Below.alloc ?_ ?_ _) | (with_reducible refine Below.drew ?_) | (with_reducible refine below_dr ?_ _) | (with_reducible refine Below.trans ?_ (Below.mono (by with_reducible assumption) ?_)) | omega | (simp; done) | (simp; omega))
  clear hb1
  have k2 := at1.cell 2 rfl
  have lw := at1.lt
  go_wp2_with fail
  refine (CD.out _ g1).mono ?_
  rintro e w2 ⟨rfl, hb2⟩
  have at2 := at1.below hb2
  have g2 : Below w.heap.size w w2 := by repeat' (first | with_reducible assumption | with_reducible exact Below.refl _ _ | (with_reducible refine Below.setCell ?_ ?_ _) | (with_reducible refine Below.alloc ?_ ?_ _) | (with_reducible refine Below.drew ?_) | (with_reducible refine below_dr ?_ _) | (with_reducible refine Below.trans ?_ (Below.mono (by with_reducible assumption) ?_)) | omega | (simp; done) | (simp; omega))
  have z2 := hb2.size
  clear k2 hb2 at1 g1
  have k0 := at2.cell 0 rfl
  have k1 := at2.cell 1 rfl
  have lw2 := at2.lt
  go_wp2_with fail
  generalize hW : (w2.alloc (.cells #[.string ⟨#[99, 108, 111, 115, 101, 100]⟩, .string d] 9)) = W0
  obtain ⟨G, hG⟩ : ∃ G, G = w2.heap.size := ⟨_, rfl⟩
  have bk0 : Blk W0 G 9 #[.string (wordC true), .string d] := by rw [← hW, hG]; exact Blk.new _ _ _
  have at3 : AtL w.heap.size [.slice A n c, .bool true, .int .i64 t, .bool ff, .bool fl, .int .i64 fx, .int .i64 fy, .int .i64 lx, .int .i64 ly] W0 := by rw [← hW]; exact at2.alloc _
  have g3 : Below w.heap.size w W0 := by rw [← hW]; repeat' (first | with_reducible assumption | with_reducible exact Below.refl _ _ | (with_reducible refine Below.setCell ?_ ?_ _) | (with_reducible refine Below.alloc ?_ ?_ _) | (with_reducible refine Below.drew ?_) | (with_reducible refine below_dr ?_ _) | (with_reducible refine Below.trans ?_ (Below.mono (by with_reducible assumption) ?_)) | omega | (simp; done) | (simp; omega))
  have hGw : w.heap.size + 1 ≤ G := by omega
  rw [← hG]
  clear hW hG at2 g2 k0 k1 lw lw2 z2 CV CD
  have ow0 : OwS W0 (w.heap.size + 1) (some ⟨G, 0, none⟩) 2 2 (cwK l true t 0) := OwS.of_blk (ws := (cwK l true t 0)) bk0 (by rw [show cwK l true t 0 = [wordC true, decB t] from rfl, ← HD.out]; rfl) (by rw [cwK_len (Nat.zero_le _)]; omega) _ hGw
  clear bk0
  go_loopw [3, 20] (fun s i wr => ∃ (k : Nat) (A' : Option Addr) (m c' : Nat), k ≤ n ∧ i = .int .i64 (k : Int) ∧ s = .slice A' m c' ∧ OwS wr (w.heap.size + 1) A' m c' (cwK l true t k) ∧ AtL w.heap.size [.slice A n c, .bool true, .int .i64 t, .bool ff, .bool fl, .int .i64 fx, .int .i64 fy, .int .i64 lx, .int .i64 ly] wr ∧ Below w.heap.size w wr) (fun _ i _ => n - (intOf i).toNat)
  case atStart => exact ⟨0, _, _, _, Nat.zero_le _, rfl, rfl, ow0, at3, g3⟩
  case round =>
    clear at3 g3 ow0 hGw
    obtain ⟨k, A', m, c', hk, rfl, rfl, ow, at4, hbl⟩ := hrel
    have lb := at4.lt
    have hz := hbl.size
    have hm12 : m ≤ 12 := by have h1 := ow.1; rw [cwK_len (by have := HN.out; omega)] at h1; omega
    by_cases hlt : k < n
    case pos =>
      obtain ⟨⟨x, y⟩, ha⟩ : ∃ a, l[k]? = some a := ⟨l[k]'(by have := HN.out; omega), List.getElem?_eq_getElem (by have := HN.out; omega)⟩
      have hxy := okB_in (pts_all HP.out ha)
      have CT := Lib.hid (fun w1 (hb : Below w.heap.size w w1) => implPtText_any x y w1 hxy.1 hxy.2 (HTAB.out w1 hb))
      have HST := Lib.hid (show (cwK l true t k) ++ [ptT x y] = (cwK l true t (k + 1)) from (cwK_step ha).symm)
      obtain ⟨g, o, rfl, hg, hc⟩ := (r.below hbl).elem ha
      have c0 : wr.cell? ⟨g, o + k * 2, none⟩ = some (.int .i64 x) := hc 0 _ rfl
      have c1 : wr.cell? ⟨g, o + k * 2 + 1, none⟩ = some (.int .i64 y) := hc 1 _ rfl
      have hgw : g < wr.heap.size := by omega
      have hki : (k : Int) < (n : Int) := by omega
      clear hc ha hxy r CF CL
      generalize ptT x y = u at CT HST
      go_wp2_with fail
      refine (CT.out _ (by repeat' (first | with_reducible assumption | with_reducible exact Below.refl _ _ | (with_reducible refine Below.setCell ?_ ?_ _) | (with_reducible refine Below.alloc ?_ ?_ _) | (with_reducible refine Below.drew ?_) | (with_reducible refine below_dr ?_ _) | (with_reducible refine Below.trans ?_ (Below.mono (by with_reducible assumption) ?_)) | omega | (simp; done) | (simp; omega)))).mono ?_
      rintro e w3 ⟨rfl, hb3⟩
      have at5 : AtL w.heap.size [.slice (some ⟨g, o, none⟩) n c, .bool true, .int .i64 t, .bool ff, .bool fl, .int .i64 fx, .int .i64 fy, .int .i64 lx, .int .i64 ly] w3 := by repeat' (first | with_reducible assumption | (with_reducible refine AtL.below ?_ (by with_reducible assumption)) | (with_reducible refine AtL.drew ?_) | (with_reducible refine AtL.alloc ?_ _) | ((with_reducible refine AtL.far ?_ ?_ _ _); omega))
      have ow3 : OwS w3 (w.heap.size + 1) A' m c' (cwK l true t k) := by repeat' (first | with_reducible assumption | (with_reducible refine OwS.stays ?_ (by with_reducible assumption)) | (with_reducible refine OwS.drew ?_) | (with_reducible refine OwS.alloc ?_ _))
      have g3 : Below w.heap.size w w3 := by repeat' (first | with_reducible assumption | with_reducible exact Below.refl _ _ | (with_reducible refine Below.setCell ?_ ?_ _) | (with_reducible refine Below.alloc ?_ ?_ _) | (with_reducible refine Below.drew ?_) | (with_reducible refine below_dr ?_ _) | (with_reducible refine Below.trans ?_ (Below.mono (by with_reducible assumption) ?_)) | omega | (simp; done) | (simp; omega))
      have z3 := g3.size
      clear hb3 at4 ow hbl c0 c1
      have HOW := Lib.hid (show (w3.alloc (.cells #[.string u] 9)).ownsRow (w.heap.size + 1) 9 1 (.slice A' m c') m _ from (ow3.alloc _).2)
      have HRD := Lib.hid (reads_new w3 [.string u] 9)
      have HRB := Lib.hid ow3.block
      have HMX := Lib.hid (show m + 1 ≤ maxLen by unfold maxLen; omega)
      have HBY := Lib.hid (show (m + 1) * 16 ≤ 140737488355328 by omega)
      have HBS := Lib.hid (show w.heap.size + 1 ≤ (w3.alloc (.cells #[.string u] 9)).heap.size by simp; omega)
      go_wp2_with (at_builtin; refine wpList_append_any _ rfl (.tmp 24) (.tmp 27) _ rfl (w.heap.size + 1) 9 i0 _ 1 16 Tryd.underlying82 HI0.out HZ0.out HZ1.out HZ2.out rfl (by omega) (.slice A' m c') m _ rfl HOW.out _ (some ⟨w3.heap.size, 0, none⟩) 1 1 [.string u] rfl HRD.out (one_str [u]) HMX.out HBY.out HBS.out ?_; intro v9 w9 hown9 hg9 hat9; obtain ⟨g9, cap9, rfl, _, _⟩ := hown9.form (by omega); have HOWN9 := Lib.hid hown9; have HG9 := Lib.hid hg9; clear hown9 hg9 hat9)
      have g9b : Below w.heap.size w w9 := below_of_grown (show Below w.heap.size w (w3.alloc (.cells #[.string u] 9)) by repeat' (first | with_reducible assumption | with_reducible exact Below.refl _ _ | (with_reducible refine Below.setCell ?_ ?_ _) | (with_reducible refine Below.alloc ?_ ?_ _) | (with_reducible refine Below.drew ?_) | (with_reducible refine below_dr ?_ _) | (with_reducible refine Below.trans ?_ (Below.mono (by with_reducible assumption) ?_)) | omega | (simp; done) | (simp; omega))) HG9.out (by simp; omega) (fun q hq => by have := HRB.out q hq; omega)
      have at9 : AtL w.heap.size [.slice (some ⟨g, o, none⟩) n c, .bool true, .int .i64 t, .bool ff, .bool fl, .int .i64 fx, .int .i64 fy, .int .i64 lx, .int .i64 ly] w9 := AtL.grown (at5.alloc (.cells #[.string u] 9)) HG9.out (fun q hq => by have := HRB.out q hq; omega)
      have ow9 : OwS w9 (w.heap.size + 1) (some ⟨g9, 0, none⟩) (m + 1) cap9 ((cwK l true t k) ++ [u]) := OwS.grown (by have := ow3.1; simp only [List.length_cons, List.length_nil]; omega) HOWN9.out
      have z9 := g9b.size
      clear HOW HRD HMX HBY HBS HOWN9 HG9 HRB
      go_roundw
      case rel => exact ⟨k + 1, _, _, _, by omega, by go_num, rfl, by rw [HST.out] at ow9; exact ow9, at9, g9b⟩
      case measure => first | (simp [intOf]; done) | (simp [intOf]; omega)
    case neg =>
      obtain rfl : n = k := by omega
      have hki : ¬ ((n : Int) < (n : Int)) := by omega
      clear r
      have k3 := at4.cell 3 rfl
      have k4 := at4.cell 4 rfl
      have k5 := at4.cell 5 rfl
      have k6 := at4.cell 6 rfl
      have k7 := at4.cell 7 rfl
      have k8 := at4.cell 8 rfl
      obtain ⟨u, hu⟩ : ∃ u, u = ptT fx fy := ⟨_, rfl⟩
      obtain ⟨v, hv⟩ : ∃ v, v = ptT lx ly := ⟨_, rfl⟩
      rw [← hu] at CF
      rw [← hv] at CL
      have HU := Lib.hid hu
      have HV := Lib.hid hv
      clear hu hv
      rcases ff with _ | _
      case false =>
        rcases fl with _ | _
        case false =>
          have HQ := Lib.hid (show curW l true t false false fx fy lx ly = (cwK l true t n) from by unfold curW; rw [← HN.out]; simp [endW])
          go_wp2_with fail
          refine (joinOw_any ow ?_ (m := 43) ?_ ?_ ⟨#[32]⟩ rfl).mono ?_
          · simp [cwK]
          · intro y hy; exact HSM.out y (by rw [HQ.out]; exact hy)
          · have h1 := HLN.out; rw [HQ.out] at h1; have h2 := HN.out; generalize (List.length _) = z at h1 ⊢; omega
          rintro e wJ ⟨rfl, hbJ⟩
          go_wp2_with fail
          go_ret
          exact ⟨by rw [HT.out, HQ.out]; first | rfl | (rw [List.append_assoc]; rfl), by repeat' (first | with_reducible assumption | with_reducible exact Below.refl _ _ | (with_reducible refine Below.setCell ?_ ?_ _) | (with_reducible refine Below.alloc ?_ ?_ _) | (with_reducible refine Below.drew ?_) | (with_reducible refine below_dr ?_ _) | (with_reducible refine Below.trans ?_ (Below.mono (by with_reducible assumption) ?_)) | omega | (simp; done) | (simp; omega))⟩
        case true =>
          have HQ := Lib.hid (show curW l true t false true fx fy lx ly = (cwK l true t n) ++ [⟨#[108, 97, 115, 116]⟩, v] from by unfold curW; rw [← HN.out]; simp [endW, lastW, HV.out])
          go_wp2_with fail
          refine (CL.out _ (by repeat' (first | with_reducible assumption | with_reducible exact Below.refl _ _ | (with_reducible refine Below.setCell ?_ ?_ _) | (with_reducible refine Below.alloc ?_ ?_ _) | (with_reducible refine Below.drew ?_) | (with_reducible refine below_dr ?_ _) | (with_reducible refine Below.trans ?_ (Below.mono (by with_reducible assumption) ?_)) | omega | (simp; done) | (simp; omega)))).mono ?_
          rintro e w3 ⟨rfl, hbw3⟩
          have atw3 : AtL w.heap.size [.slice A n c, .bool true, .int .i64 t, .bool false, .bool true, .int .i64 fx, .int .i64 fy, .int .i64 lx, .int .i64 ly] w3 := by repeat' (first | with_reducible assumption | (with_reducible refine AtL.below ?_ (by with_reducible assumption)) | (with_reducible refine AtL.drew ?_) | (with_reducible refine AtL.alloc ?_ _) | ((with_reducible refine AtL.far ?_ ?_ _ _); omega))
          have oww3 : OwS w3 (w.heap.size + 1) A' (m) c' ((cwK l true t n)) := by repeat' (first | with_reducible assumption | (with_reducible refine OwS.stays ?_ (by with_reducible assumption)) | (with_reducible refine OwS.drew ?_) | (with_reducible refine OwS.alloc ?_ _))
          have gw3 : Below w.heap.size w w3 := by repeat' (first | with_reducible assumption | with_reducible exact Below.refl _ _ | (with_reducible refine Below.setCell ?_ ?_ _) | (with_reducible refine Below.alloc ?_ ?_ _) | (with_reducible refine Below.drew ?_) | (with_reducible refine below_dr ?_ _) | (with_reducible refine Below.trans ?_ (Below.mono (by with_reducible assumption) ?_)) | omega | (simp; done) | (simp; omega))
          have zw3 := gw3.size
          clear hbw3
          have HOW := Lib.hid (show (w3.alloc (.cells #[.string ⟨#[108, 97, 115, 116]⟩, .string v] 9)).ownsRow (w.heap.size + 1) 9 1 (.slice A' m c') m _ from (oww3.alloc _).2)
          have HRD := Lib.hid (reads_new w3 [.string ⟨#[108, 97, 115, 116]⟩, .string v] 9)
          have HRB := Lib.hid oww3.block
          have HMX := Lib.hid (show m + 2 ≤ maxLen by unfold maxLen; omega)
          have HBY := Lib.hid (show (m + 2) * 16 ≤ 140737488355328 by omega)
          have HBS := Lib.hid (show w.heap.size + 1 ≤ (w3.alloc (.cells #[.string ⟨#[108, 97, 115, 116]⟩, .string v] 9)).heap.size by simp; omega)
          go_wp2_with (at_builtin; refine wpList_append_any _ rfl (.tmp 40) (.tmp 44) _ rfl (w.heap.size + 1) 9 i0 _ 1 16 Tryd.underlying82 HI0.out HZ0.out HZ1.out HZ2.out rfl (by omega) (.slice A' m c') m _ rfl HOW.out _ (some ⟨w3.heap.size, 0, none⟩) 2 2 [.string ⟨#[108, 97, 115, 116]⟩, .string v] rfl HRD.out (one_str [⟨#[108, 97, 115, 116]⟩, v]) HMX.out HBY.out HBS.out ?_; intro v9 w9 hown9 hg9 hat9; obtain ⟨g9, cap9, rfl, _, _⟩ := hown9.form (by omega); have HOWN9 := Lib.hid hown9; have HG9 := Lib.hid hg9; clear hown9 hg9 hat9)
          have g9b : Below w.heap.size w w9 := below_of_grown (show Below w.heap.size w (w3.alloc (.cells #[.string ⟨#[108, 97, 115, 116]⟩, .string v] 9)) by repeat' (first | with_reducible assumption | with_reducible exact Below.refl _ _ | (with_reducible refine Below.setCell ?_ ?_ _) | (with_reducible refine Below.alloc ?_ ?_ _) | (with_reducible refine Below.drew ?_) | (with_reducible refine below_dr ?_ _) | (with_reducible refine Below.trans ?_ (Below.mono (by with_reducible assumption) ?_)) | omega | (simp; done) | (simp; omega))) HG9.out (by simp; omega) (fun q hq => by have := HRB.out q hq; omega)
          have at9 : AtL w.heap.size [.slice A n c, .bool true, .int .i64 t, .bool false, .bool true, .int .i64 fx, .int .i64 fy, .int .i64 lx, .int .i64 ly] w9 := AtL.grown (atw3.alloc (.cells #[.string ⟨#[108, 97, 115, 116]⟩, .string v] 9)) HG9.out (fun q hq => by have := HRB.out q hq; omega)
          have ow9 : OwS w9 (w.heap.size + 1) (some ⟨g9, 0, none⟩) (m + 2) cap9 ((cwK l true t n) ++ [⟨#[108, 97, 115, 116]⟩, v]) := OwS.grown (by have := oww3.1; simp only [List.length_cons, List.length_nil]; omega) HOWN9.out
          have z9 := g9b.size
          clear HOW HRD HMX HBY HBS HOWN9 HG9 HRB
          refine (joinOw_any ow9 ?_ (m := 43) ?_ ?_ ⟨#[32]⟩ rfl).mono ?_
          · simp [cwK]
          · intro y hy; exact HSM.out y (by rw [HQ.out]; exact hy)
          · have h1 := HLN.out; rw [HQ.out] at h1; have h2 := HN.out; generalize (List.length _) = z at h1 ⊢; omega
          rintro e wJ ⟨rfl, hbJ⟩
          go_wp2_with fail
          go_ret
          exact ⟨by rw [HT.out, HQ.out]; first | rfl | (rw [List.append_assoc]; rfl), by repeat' (first | with_reducible assumption | with_reducible exact Below.refl _ _ | (with_reducible refine Below.setCell ?_ ?_ _) | (with_reducible refine Below.alloc ?_ ?_ _) | (with_reducible refine Below.drew ?_) | (with_reducible refine below_dr ?_ _) | (with_reducible refine Below.trans ?_ (Below.mono (by with_reducible assumption) ?_)) | omega | (simp; done) | (simp; omega))⟩
      case true =>
        rcases fl with _ | _
        case false =>
          have HQ := Lib.hid (show curW l true t true false fx fy lx ly = (cwK l true t n) ++ [⟨#[102, 105, 114, 115, 116]⟩, u] from by unfold curW; rw [← HN.out]; simp [endW, firstW, HU.out])
          go_wp2_with fail
          refine (CF.out _ (by repeat' (first | with_reducible assumption | with_reducible exact Below.refl _ _ | (with_reducible refine Below.setCell ?_ ?_ _) | (with_reducible refine Below.alloc ?_ ?_ _) | (with_reducible refine Below.drew ?_) | (with_reducible refine below_dr ?_ _) | (with_reducible refine Below.trans ?_ (Below.mono (by with_reducible assumption) ?_)) | omega | (simp; done) | (simp; omega)))).mono ?_
          rintro e w3 ⟨rfl, hbw3⟩
          have atw3 : AtL w.heap.size [.slice A n c, .bool true, .int .i64 t, .bool true, .bool false, .int .i64 fx, .int .i64 fy, .int .i64 lx, .int .i64 ly] w3 := by repeat' (first | with_reducible assumption | (with_reducible refine AtL.below ?_ (by with_reducible assumption)) | (with_reducible refine AtL.drew ?_) | (with_reducible refine AtL.alloc ?_ _) | ((with_reducible refine AtL.far ?_ ?_ _ _); omega))
          have oww3 : OwS w3 (w.heap.size + 1) A' (m) c' ((cwK l true t n)) := by repeat' (first | with_reducible assumption | (with_reducible refine OwS.stays ?_ (by with_reducible assumption)) | (with_reducible refine OwS.drew ?_) | (with_reducible refine OwS.alloc ?_ _))
          have gw3 : Below w.heap.size w w3 := by repeat' (first | with_reducible assumption | with_reducible exact Below.refl _ _ | (with_reducible refine Below.setCell ?_ ?_ _) | (with_reducible refine Below.alloc ?_ ?_ _) | (with_reducible refine Below.drew ?_) | (with_reducible refine below_dr ?_ _) | (with_reducible refine Below.trans ?_ (Below.mono (by with_reducible assumption) ?_)) | omega | (simp; done) | (simp; omega))
          have zw3 := gw3.size
          clear hbw3
          have q4 := atw3.cell 4 rfl
          have q7 := atw3.cell 7 rfl
          have q8 := atw3.cell 8 rfl
          have lw3 := atw3.lt
          clear k3 k4 k5 k6 k7 k8 at4 ow hbl lb
          have HOW := Lib.hid (show (w3.alloc (.cells #[.string ⟨#[102, 105, 114, 115, 116]⟩, .string u] 9)).ownsRow (w.heap.size + 1) 9 1 (.slice A' m c') m _ from (oww3.alloc _).2)
          have HRD := Lib.hid (reads_new w3 [.string ⟨#[102, 105, 114, 115, 116]⟩, .string u] 9)
          have HRB := Lib.hid oww3.block
          have HMX := Lib.hid (show m + 2 ≤ maxLen by unfold maxLen; omega)
          have HBY := Lib.hid (show (m + 2) * 16 ≤ 140737488355328 by omega)
          have HBS := Lib.hid (show w.heap.size + 1 ≤ (w3.alloc (.cells #[.string ⟨#[102, 105, 114, 115, 116]⟩, .string u] 9)).heap.size by simp; omega)
          go_wp2_with (at_builtin; refine wpList_append_any _ rfl (.tmp 32) (.tmp 36) _ rfl (w.heap.size + 1) 9 i0 _ 1 16 Tryd.underlying82 HI0.out HZ0.out HZ1.out HZ2.out rfl (by omega) (.slice A' m c') m _ rfl HOW.out _ (some ⟨w3.heap.size, 0, none⟩) 2 2 [.string ⟨#[102, 105, 114, 115, 116]⟩, .string u] rfl HRD.out (one_str [⟨#[102, 105, 114, 115, 116]⟩, u]) HMX.out HBY.out HBS.out ?_; intro v9 w9 hown9 hg9 hat9; obtain ⟨g9, cap9, rfl, _, _⟩ := hown9.form (by omega); have HOWN9 := Lib.hid hown9; have HG9 := Lib.hid hg9; have at9 : AtL w.heap.size [.slice A n c, .bool true, .int .i64 t, .bool true, .bool false, .int .i64 fx, .int .i64 fy, .int .i64 lx, .int .i64 ly] w9 := AtL.grown (atw3.alloc (.cells #[.string ⟨#[102, 105, 114, 115, 116]⟩, .string u] 9)) hg9 (fun q hq => (by have := HRB.out q hq; omega)); have p4 := at9.cell 4 rfl; have p7 := at9.cell 7 rfl; have p8 := at9.cell 8 rfl; have lw9 := at9.lt; clear hown9 hg9 hat9)
          have g9b : Below w.heap.size w w9 := below_of_grown (show Below w.heap.size w (w3.alloc (.cells #[.string ⟨#[102, 105, 114, 115, 116]⟩, .string u] 9)) by repeat' (first | with_reducible assumption | with_reducible exact Below.refl _ _ | (with_reducible refine Below.setCell ?_ ?_ _) | (with_reducible refine Below.alloc ?_ ?_ _) | (with_reducible refine Below.drew ?_) | (with_reducible refine below_dr ?_ _) | (with_reducible refine Below.trans ?_ (Below.mono (by with_reducible assumption) ?_)) | omega | (simp; done) | (simp; omega))) HG9.out (by simp; omega) (fun q hq => by have := HRB.out q hq; omega)
          have at9 : AtL w.heap.size [.slice A n c, .bool true, .int .i64 t, .bool true, .bool false, .int .i64 fx, .int .i64 fy, .int .i64 lx, .int .i64 ly] w9 := AtL.grown (atw3.alloc (.cells #[.string ⟨#[102, 105, 114, 115, 116]⟩, .string u] 9)) HG9.out (fun q hq => by have := HRB.out q hq; omega)
          have ow9 : OwS w9 (w.heap.size + 1) (some ⟨g9, 0, none⟩) (m + 2) cap9 ((cwK l true t n) ++ [⟨#[102, 105, 114, 115, 116]⟩, u]) := OwS.grown (by have := oww3.1; simp only [List.length_cons, List.length_nil]; omega) HOWN9.out
          have z9 := g9b.size
          clear HOW HRD HMX HBY HBS HOWN9 HG9 HRB
          refine (joinOw_any ow9 ?_ (m := 43) ?_ ?_ ⟨#[32]⟩ rfl).mono ?_
          · simp [cwK]
          · intro y hy; exact HSM.out y (by rw [HQ.out]; exact hy)
          · have h1 := HLN.out; rw [HQ.out] at h1; have h2 := HN.out; generalize (List.length _) = z at h1 ⊢; omega
          rintro e wJ ⟨rfl, hbJ⟩
          go_wp2_with fail
          go_ret
          exact ⟨by rw [HT.out, HQ.out]; first | rfl | (rw [List.append_assoc]; rfl), by repeat' (first | with_reducible assumption | with_reducible exact Below.refl _ _ | (with_reducible refine Below.setCell ?_ ?_ _) | (with_reducible refine Below.alloc ?_ ?_ _) | (with_reducible refine Below.drew ?_) | (with_reducible refine below_dr ?_ _) | (with_reducible refine Below.trans ?_ (Below.mono (by with_reducible assumption) ?_)) | omega | (simp; done) | (simp; omega))⟩
        case true =>
          have HQ := Lib.hid (show curW l true t true true fx fy lx ly = (cwK l true t n) ++ [⟨#[102, 105, 114, 115, 116]⟩, u] ++ [⟨#[108, 97, 115, 116]⟩, v] from by unfold curW; rw [← HN.out]; simp [endW, firstW, HU.out, lastW, HV.out])
          go_wp2_with fail
          refine (CF.out _ (by repeat' (first | with_reducible assumption | with_reducible exact Below.refl _ _ | (with_reducible refine Below.setCell ?_ ?_ _) | (with_reducible refine Below.alloc ?_ ?_ _) | (with_reducible refine Below.drew ?_) | (with_reducible refine below_dr ?_ _) | (with_reducible refine Below.trans ?_ (Below.mono (by with_reducible assumption) ?_)) | omega | (simp; done) | (simp; omega)))).mono ?_
          rintro e w3 ⟨rfl, hbw3⟩
          have atw3 : AtL w.heap.size [.slice A n c, .bool true, .int .i64 t, .bool true, .bool true, .int .i64 fx, .int .i64 fy, .int .i64 lx, .int .i64 ly] w3 := by repeat' (first | with_reducible assumption | (with_reducible refine AtL.below ?_ (by with_reducible assumption)) | (with_reducible refine AtL.drew ?_) | (with_reducible refine AtL.alloc ?_ _) | ((with_reducible refine AtL.far ?_ ?_ _ _); omega))
          have oww3 : OwS w3 (w.heap.size + 1) A' (m) c' ((cwK l true t n)) := by repeat' (first | with_reducible assumption | (with_reducible refine OwS.stays ?_ (by with_reducible assumption)) | (with_reducible refine OwS.drew ?_) | (with_reducible refine OwS.alloc ?_ _))
          have gw3 : Below w.heap.size w w3 := by repeat' (first | with_reducible assumption | with_reducible exact Below.refl _ _ | (with_reducible refine Below.setCell ?_ ?_ _) | (with_reducible refine Below.alloc ?_ ?_ _) | (with_reducible refine Below.drew ?_) | (with_reducible refine below_dr ?_ _) | (with_reducible refine Below.trans ?_ (Below.mono (by with_reducible assumption) ?_)) | omega | (simp; done) | (simp; omega))
          have zw3 := gw3.size
          clear hbw3
          have q4 := atw3.cell 4 rfl
          have q7 := atw3.cell 7 rfl
          have q8 := atw3.cell 8 rfl
          have lw3 := atw3.lt
          clear k3 k4 k5 k6 k7 k8 at4 ow hbl lb
          have HOW := Lib.hid (show (w3.alloc (.cells #[.string ⟨#[102, 105, 114, 115, 116]⟩, .string u] 9)).ownsRow (w.heap.size + 1) 9 1 (.slice A' m c') m _ from (oww3.alloc _).2)
          have HRD := Lib.hid (reads_new w3 [.string ⟨#[102, 105, 114, 115, 116]⟩, .string u] 9)
          have HRB := Lib.hid oww3.block
          have HMX := Lib.hid (show m + 2 ≤ maxLen by unfold maxLen; omega)
          have HBY := Lib.hid (show (m + 2) * 16 ≤ 140737488355328 by omega)
          have HBS := Lib.hid (show w.heap.size + 1 ≤ (w3.alloc (.cells #[.string ⟨#[102, 105, 114, 115, 116]⟩, .string u] 9)).heap.size by simp; omega)
          go_wp2_with (at_builtin; refine wpList_append_any _ rfl (.tmp 32) (.tmp 36) _ rfl (w.heap.size + 1) 9 i0 _ 1 16 Tryd.underlying82 HI0.out HZ0.out HZ1.out HZ2.out rfl (by omega) (.slice A' m c') m _ rfl HOW.out _ (some ⟨w3.heap.size, 0, none⟩) 2 2 [.string ⟨#[102, 105, 114, 115, 116]⟩, .string u] rfl HRD.out (one_str [⟨#[102, 105, 114, 115, 116]⟩, u]) HMX.out HBY.out HBS.out ?_; intro v9 wA hown9 hg9 hatA; obtain ⟨gg, cc, rfl, _, _⟩ := hown9.form (by omega); have HOWN9 := Lib.hid hown9; have HG9 := Lib.hid hg9; have atA : AtL w.heap.size [.slice A n c, .bool true, .int .i64 t, .bool true, .bool true, .int .i64 fx, .int .i64 fy, .int .i64 lx, .int .i64 ly] wA := AtL.grown (atw3.alloc (.cells #[.string ⟨#[102, 105, 114, 115, 116]⟩, .string u] 9)) hg9 (fun q hq => (by have := HRB.out q hq; omega)); have p4 := atA.cell 4 rfl; have p7 := atA.cell 7 rfl; have p8 := atA.cell 8 rfl; have lwA := atA.lt; clear hown9 hg9 hatA)
          have gA : Below w.heap.size w wA := below_of_grown (show Below w.heap.size w (w3.alloc (.cells #[.string ⟨#[102, 105, 114, 115, 116]⟩, .string u] 9)) by repeat' (first | with_reducible assumption | with_reducible exact Below.refl _ _ | (with_reducible refine Below.setCell ?_ ?_ _) | (with_reducible refine Below.alloc ?_ ?_ _) | (with_reducible refine Below.drew ?_) | (with_reducible refine below_dr ?_ _) | (with_reducible refine Below.trans ?_ (Below.mono (by with_reducible assumption) ?_)) | omega | (simp; done) | (simp; omega))) HG9.out (by simp; omega) (fun q hq => by have := HRB.out q hq; omega)
          have atA : AtL w.heap.size [.slice A n c, .bool true, .int .i64 t, .bool true, .bool true, .int .i64 fx, .int .i64 fy, .int .i64 lx, .int .i64 ly] wA := AtL.grown (atw3.alloc (.cells #[.string ⟨#[102, 105, 114, 115, 116]⟩, .string u] 9)) HG9.out (fun q hq => by have := HRB.out q hq; omega)
          have owA : OwS wA (w.heap.size + 1) (some ⟨gg, 0, none⟩) (m + 2) cc ((cwK l true t n) ++ [⟨#[102, 105, 114, 115, 116]⟩, u]) := OwS.grown (by have := oww3.1; simp only [List.length_cons, List.length_nil]; omega) HOWN9.out
          have zA := gA.size
          clear HOW HRD HMX HBY HBS HOWN9 HG9 HRB
          clear q4 q7 q8 lw3 atw3 oww3 gw3 zw3
          refine (CL.out _ (by repeat' (first | with_reducible assumption | with_reducible exact Below.refl _ _ | (with_reducible refine Below.setCell ?_ ?_ _) | (with_reducible refine Below.alloc ?_ ?_ _) | (with_reducible refine Below.drew ?_) | (with_reducible refine below_dr ?_ _) | (with_reducible refine Below.trans ?_ (Below.mono (by with_reducible assumption) ?_)) | omega | (simp; done) | (simp; omega)))).mono ?_
          rintro e w4 ⟨rfl, hbw4⟩
          have atw4 : AtL w.heap.size [.slice A n c, .bool true, .int .i64 t, .bool true, .bool true, .int .i64 fx, .int .i64 fy, .int .i64 lx, .int .i64 ly] w4 := by repeat' (first | with_reducible assumption | (with_reducible refine AtL.below ?_ (by with_reducible assumption)) | (with_reducible refine AtL.drew ?_) | (with_reducible refine AtL.alloc ?_ _) | ((with_reducible refine AtL.far ?_ ?_ _ _); omega))
          have oww4 : OwS w4 (w.heap.size + 1) (some ⟨gg, 0, none⟩) (m + 2) cc ((cwK l true t n) ++ [⟨#[102, 105, 114, 115, 116]⟩, u]) := by repeat' (first | with_reducible assumption | (with_reducible refine OwS.stays ?_ (by with_reducible assumption)) | (with_reducible refine OwS.drew ?_) | (with_reducible refine OwS.alloc ?_ _))
          have gw4 : Below w.heap.size w w4 := by repeat' (first | with_reducible assumption | with_reducible exact Below.refl _ _ | (with_reducible refine Below.setCell ?_ ?_ _) | (with_reducible refine Below.alloc ?_ ?_ _) | (with_reducible refine Below.drew ?_) | (with_reducible refine below_dr ?_ _) | (with_reducible refine Below.trans ?_ (Below.mono (by with_reducible assumption) ?_)) | omega | (simp; done) | (simp; omega))
          have zw4 := gw4.size
          clear hbw4
          have HOW := Lib.hid (show (w4.alloc (.cells #[.string ⟨#[108, 97, 115, 116]⟩, .string v] 9)).ownsRow (w.heap.size + 1) 9 1 (.slice (some ⟨gg, 0, none⟩) (m + 2) cc) (m + 2) _ from (oww4.alloc _).2)
          have HRD := Lib.hid (reads_new w4 [.string ⟨#[108, 97, 115, 116]⟩, .string v] 9)
          have HRB := Lib.hid oww4.block
          have HMX := Lib.hid (show (m + 2) + 2 ≤ maxLen by unfold maxLen; omega)
          have HBY := Lib.hid (show ((m + 2) + 2) * 16 ≤ 140737488355328 by omega)
          have HBS := Lib.hid (show w.heap.size + 1 ≤ (w4.alloc (.cells #[.string ⟨#[108, 97, 115, 116]⟩, .string v] 9)).heap.size by simp; omega)
          go_wp2_with (at_builtin; refine wpList_append_any _ rfl (.tmp 40) (.tmp 44) _ rfl (w.heap.size + 1) 9 i0 _ 1 16 Tryd.underlying82 HI0.out HZ0.out HZ1.out HZ2.out rfl (by omega) (.slice (some ⟨gg, 0, none⟩) (m + 2) cc) (m + 2) _ rfl HOW.out _ (some ⟨w4.heap.size, 0, none⟩) 2 2 [.string ⟨#[108, 97, 115, 116]⟩, .string v] rfl HRD.out (one_str [⟨#[108, 97, 115, 116]⟩, v]) HMX.out HBY.out HBS.out ?_; intro v9 w9 hown9 hg9 hat9; obtain ⟨g9, cap9, rfl, _, _⟩ := hown9.form (by omega); have HOWN9 := Lib.hid hown9; have HG9 := Lib.hid hg9; clear hown9 hg9 hat9)
          have g9b : Below w.heap.size w w9 := below_of_grown (show Below w.heap.size w (w4.alloc (.cells #[.string ⟨#[108, 97, 115, 116]⟩, .string v] 9)) by repeat' (first | with_reducible assumption | with_reducible exact Below.refl _ _ | (with_reducible refine Below.setCell ?_ ?_ _) | (with_reducible refine Below.alloc ?_ ?_ _) | (with_reducible refine Below.drew ?_) | (with_reducible refine below_dr ?_ _) | (with_reducible refine Below.trans ?_ (Below.mono (by with_reducible assumption) ?_)) | omega | (simp; done) | (simp; omega))) HG9.out (by simp; omega) (fun q hq => by have := HRB.out q hq; omega)
          have at9 : AtL w.heap.size [.slice A n c, .bool true, .int .i64 t, .bool true, .bool true, .int .i64 fx, .int .i64 fy, .int .i64 lx, .int .i64 ly] w9 := AtL.grown (atw4.alloc (.cells #[.string ⟨#[108, 97, 115, 116]⟩, .string v] 9)) HG9.out (fun q hq => by have := HRB.out q hq; omega)
          have ow9 : OwS w9 (w.heap.size + 1) (some ⟨g9, 0, none⟩) ((m + 2) + 2) cap9 ((cwK l true t n) ++ [⟨#[102, 105, 114, 115, 116]⟩, u] ++ [⟨#[108, 97, 115, 116]⟩, v]) := OwS.grown (by have := oww4.1; simp only [List.length_cons, List.length_nil]; omega) HOWN9.out
          have z9 := g9b.size
          clear HOW HRD HMX HBY HBS HOWN9 HG9 HRB
          refine (joinOw_any ow9 ?_ (m := 43) ?_ ?_ ⟨#[32]⟩ rfl).mono ?_
          · simp [cwK]
          · intro y hy; exact HSM.out y (by rw [HQ.out]; exact hy)
          · have h1 := HLN.out; rw [HQ.out] at h1; have h2 := HN.out; generalize (List.length _) = z at h1 ⊢; omega
          rintro e wJ ⟨rfl, hbJ⟩
          go_wp2_with fail
          go_ret
          exact ⟨by rw [HT.out, HQ.out]; first | rfl | (rw [List.append_assoc]; rfl), by repeat' (first | with_reducible assumption | with_reducible exact Below.refl _ _ | (with_reducible refine Below.setCell ?_ ?_ _) | (with_reducible refine Below.alloc ?_ ?_ _) | (with_reducible refine Below.drew ?_) | (with_reducible refine below_dr ?_ _) | (with_reducible refine Below.trans ?_ (Below.mono (by with_reducible assumption) ?_)) | omega | (simp; done) | (simp; omega))⟩
end Go.Proofs.YtjlmoadnbbeloaaDoor
