/- Walks: the text of a region, the program's side. -/
import Derived.Test.YtnlhofepobkljaaDoorWb
import Derived.Test.YtnlhofepobkljaaDoorWt
namespace Go.Proofs.YtnlhofepobkljaaDoor
open Go.RowKit
set_option linter.unusedVariables false
theorem arr_eta (s : ByteArray) : (⟨s.data.toList.toArray⟩ : ByteArray) = s := by cases s; simp
theorem blen (s : ByteArray) : s.data.toList.length = s.size := by rw [Lib.size_eq]
theorem wb32 (b : Nat) (l : List UInt8) (w : World) (h : Bu w b l) (hlen : l.length ≤ 1000000) : Calls Tryd.prog 14 #[.pointer (some ⟨b, 0, none⟩), .int .u8 32] w fun e w' => e = .returned .nilIface ∧ Wr b (l ++ [32]) w w' := writeByte_any b l 32 w h (by omega)
theorem wb10 (b : Nat) (l : List UInt8) (w : World) (h : Bu w b l) (hlen : l.length ≤ 1000000) : Calls Tryd.prog 14 #[.pointer (some ⟨b, 0, none⟩), .int .u8 10] w fun e w' => e = .returned .nilIface ∧ Wr b (l ++ [10]) w w' := writeByte_any b l 10 w h (by omega)
set_option maxRecDepth 1000000 in
set_option maxHeartbeats 68000000 in
theorem implRegionText_yes (ds : List DRing) (A : Option Addr) (c : Nat) (w : World) (hv : vRn ds = true) (r : RdRing w w.heap.size A ds) (ht : Lib.TabIs Tryd.prog w "internal/strconv.uint64pow10" .u64 Lib.pow10Tab) :
    Calls Tryd.prog 7 #[.agg #[.slice A ds.length c]] w fun e w' => e = .returned (.string (outR ds ds.length)) ∧ Below w.heap.size w w' := by
  obtain ⟨h12, hall⟩ := vRn_all2 hv
  have HALL := Lib.hid hall
  have HSZ := Lib.hid (outR_size hall)
  have CV := Lib.hid (fun w r => implValidRegion_any ds A c w (by omega) (fun i d h => by have := HALL.out i d h; omega) r)
  rw [hv] at CV
  have HTAB := Lib.hid (fun w1 (hb : Below w.heap.size w w1) => Joins.tab_stays gPow ht hb (Nat.le_refl _))
  clear hv hall ht
  obtain ⟨n, hn⟩ : ∃ n, n = ds.length := ⟨_, rfl⟩
  rw [← hn] at h12 CV HSZ ⊢
  have HN := Lib.hid hn
  clear hn
  go_enter Tryd.func7, Tryd.ntmps7
  go_wp2_with fail
  refine (CV.out _ ((r.alloc (Nat.le_refl _) _).more (by simp))).mono ?_
  rintro e w1 ⟨rfl, hb1⟩
  have at1 : AtL w.heap.size [.slice A n c] w1 := (AtL.new w _ _).below hb1
  have g1 : Below w.heap.size w w1 := by repeat' (first | with_reducible assumption | with_reducible exact Below.refl _ _ | (with_reducible refine Below.setCell ?_ ?_ _) | (with_reducible refine Below.alloc ?_ ?_ _) | (with_reducible refine Below.drew ?_) | (with_reducible refine below_dr ?_ _) | (with_reducible refine Below.trans ?_ (Below.mono (by with_reducible assumption) ?_)) | omega | (simp; done) | (simp; omega))
  have k0 := at1.cell 0 rfl
  have lw := at1.lt
  clear hb1 CV
  go_wp2_with fail
  generalize hW : w1.alloc (.cells #[.pointer none, .slice none 0 0] 42) = W0
  obtain ⟨G, hG⟩ : ∃ G, G = w1.heap.size := ⟨_, rfl⟩
  have bu0 : Bu W0 G (outR ds 0).data.toList := by rw [← hW, hG]; exact Bu.fresh w1
  have g2 : Below w.heap.size w W0 := by rw [← hW]; repeat' (first | with_reducible assumption | with_reducible exact Below.refl _ _ | (with_reducible refine Below.setCell ?_ ?_ _) | (with_reducible refine Below.alloc ?_ ?_ _) | (with_reducible refine Below.drew ?_) | (with_reducible refine below_dr ?_ _) | (with_reducible refine Below.trans ?_ (Below.mono (by with_reducible assumption) ?_)) | omega | (simp; done) | (simp; omega))
  have hGw : w.heap.size ≤ G := by omega
  rw [← hG]
  clear hW hG at1 g1 k0 lw
  go_loopw [14] (fun i wr => ∃ k : Nat, k ≤ n ∧ i = .int .i64 (k : Int) ∧ Bu wr G (outR ds k).data.toList ∧ Below w.heap.size w wr) (fun i _ => n - (intOf i).toNat)
  case atStart => exact ⟨0, Nat.zero_le _, rfl, bu0, g2⟩
  case round =>
    clear bu0 g2
    obtain ⟨k, hk, rfl, bu, hbl⟩ := hrel
    have zr := hbl.size
    have lG := bu.lt
    have hOs := HSZ.out k hk
    by_cases hlt : k < n
    case pos =>
      obtain ⟨dl, ha⟩ : ∃ a, ds[k]? = some a := ⟨ds[k]'(by have := HN.out; omega), List.getElem?_eq_getElem (by have := HN.out; omega)⟩
      obtain ⟨⟨h1, h60⟩, hpt⟩ := HALL.out k dl ha
      have HPT := Lib.hid hpt
      have HJS := Lib.hid (fun q => ptsB_sz h60 hpt q)
      obtain ⟨g, o, A1, c1, rfl, hg, hc, hrd⟩ := r.elem0 ha
      have p0 : wr.cell? ⟨g, o + k, none⟩ = some (.slice A1 dl.length c1) := (hbl.cell (p := ⟨g, o + k, none⟩) hg).trans hc
      have hgw : g < wr.heap.size := by omega
      have hki : (k : Int) < (n : Int) := by omega
      have HST := Lib.hid (show outR ds k ++ ptsB (dl.take dl.length) ++ ⟨#[10]⟩ = outR ds (k + 1) from by rw [List.take_length]; exact (outR_step ha).symm)
      have HRD := Lib.hid hrd
      clear hc ha r hpt hrd
      obtain ⟨m, hm⟩ : ∃ m, m = dl.length := ⟨_, rfl⟩
      rw [← hm] at h1 h60 p0 HST
      have HM := Lib.hid hm
      clear hm
      generalize outR ds k = O at *
      have HO := Lib.hid (show O = O ++ ptsB (dl.take 0) from by rw [show ptsB (dl.take 0) = ⟨#[]⟩ from rfl, app_nil])
      go_wp2_with fail
      generalize hW : wr.alloc (.cells #[.slice A1 m c1] 45) = WL
      have buL : Bu WL G O.data.toList := by rw [← hW]; exact bu.alloc _
      have gL : Below w.heap.size w WL := by rw [← hW]; repeat' (first | with_reducible assumption | with_reducible exact Below.refl _ _ | (with_reducible refine Below.setCell ?_ ?_ _) | (with_reducible refine Below.alloc ?_ ?_ _) | (with_reducible refine Below.drew ?_) | (with_reducible refine below_dr ?_ _) | (with_reducible refine Below.trans ?_ (Below.mono (by with_reducible assumption) ?_)) | omega | (simp; done) | (simp; omega))
      clear hW bu hbl p0 hgw zr lG
      go_loopw [21] (fun i wr2 => ∃ q : Nat, q ≤ m ∧ i = .int .i64 (q : Int) ∧ Bu wr2 G (O ++ ptsB (dl.take q)).data.toList ∧ Below w.heap.size w wr2) (fun i _ => m - (intOf i).toNat)
      case atStart => exact ⟨0, Nat.zero_le _, rfl, by rw [← HO.out]; exact buL, gL⟩
      case round =>
        clear buL gL
        obtain ⟨q, hq, rfl, bu, hbl⟩ := hrel
        have zr := hbl.size
        have lG := bu.lt
        have hJs := HJS.out q
        by_cases hlq : q < m
        case pos =>
          obtain ⟨⟨x, y⟩, ha⟩ : ∃ a, dl[q]? = some a := ⟨dl[q]'(by have := HM.out; omega), List.getElem?_eq_getElem (by have := HM.out; omega)⟩
          have hok : okB x y = true := HPT.out q _ ha
          have hxy := okB_in hok
          have CT0 := fun w1 (hb : Below w.heap.size w w1) => implPtText_any x y w1 hxy.1 hxy.2 (HTAB.out w1 hb)
          simp only [ptT_yes hok] at CT0
          have CT := Lib.hid CT0
          clear CT0
          have ht : (ptB x y).size ≤ 43 := ptB_size hxy.1 hxy.2
          obtain ⟨g1, o1, had, hg1, hc1⟩ := (HRD.out.below hbl).elem ha
          subst had
          have c0 : wr.cell? ⟨g1, o1 + q * 2, none⟩ = some (.int .i64 x) := hc1 0 _ rfl
          have c1' : wr.cell? ⟨g1, o1 + q * 2 + 1, none⟩ = some (.int .i64 y) := hc1 1 _ rfl
          have hg1w : g1 < wr.heap.size := by omega
          have hqm : (q : Int) < (m : Int) := by omega
          clear hc1 hok hxy
          by_cases hq0 : q = 0
          · subst hq0
            have HS := st_0 (O := O) ha
            clear ha
            generalize ptB x y = u at CT ht HS
            obtain ⟨B0, hB0⟩ : ∃ B0, B0 = (O ++ ptsB (dl.take 0)).data.toList := ⟨_, rfl⟩
            rw [← hB0] at bu
            have hBl : B0.length ≤ 800000 := by rw [hB0, blen, size_app]; omega
            have HBX := Lib.hid (show B0  ++ u.data.toList = (O ++ ptsB (dl.take (0 + 1))).data.toList from by rw [← HS, hB0, ← HO.out]; simp)
            clear HS hB0
            simp only [Nat.zero_mul, Nat.add_zero] at c0 c1'
            have bkA : Blk (wr.alloc (.cells #[.int .i64 x, .int .i64 y] 47)) wr.heap.size 47 #[.int .i64 x, .int .i64 y] := Blk.new _ _ _
            have buA : Bu (wr.alloc (.cells #[.int .i64 x, .int .i64 y] 47)) G B0 := bu.alloc _
            have gA : Below w.heap.size w (wr.alloc (.cells #[.int .i64 x, .int .i64 y] 47)) := by repeat' (first | with_reducible assumption | with_reducible exact Below.refl _ _ | (with_reducible refine Below.setCell ?_ ?_ _) | (with_reducible refine Below.alloc ?_ ?_ _) | (with_reducible refine Below.drew ?_) | (with_reducible refine below_dr ?_ _) | (with_reducible refine Below.trans ?_ (Below.mono (by with_reducible assumption) ?_)) | omega | (simp; done) | (simp; omega))
            obtain ⟨Q, hQ⟩ : ∃ Q, Q = wr.heap.size := ⟨_, rfl⟩
            have hQG : ¬ Q = G := by omega
            rw [← hQ] at bkA
            have HQ := Lib.hid hQ
            clear hQ bu
            go_wp2_with fail
            (try simp only [← HQ.out])
            refine (CT.out _ (by repeat' (first | with_reducible assumption | with_reducible exact Below.refl _ _ | (with_reducible refine Below.setCell ?_ ?_ _) | (with_reducible refine Below.alloc ?_ ?_ _) | (with_reducible refine Below.drew ?_) | (with_reducible refine below_dr ?_ _) | (with_reducible refine Below.trans ?_ (Below.mono (by with_reducible assumption) ?_)) | omega | (simp; done) | (simp; omega)))).mono ?_
            rintro e wC ⟨rfl, hbC⟩
            have buC := buA.stays hbC
            have gC : Below w.heap.size w wC := by repeat' (first | with_reducible assumption | with_reducible exact Below.refl _ _ | (with_reducible refine Below.setCell ?_ ?_ _) | (with_reducible refine Below.alloc ?_ ?_ _) | (with_reducible refine Below.drew ?_) | (with_reducible refine below_dr ?_ _) | (with_reducible refine Below.trans ?_ (Below.mono (by with_reducible assumption) ?_)) | omega | (simp; done) | (simp; omega))
            have zzC := gC.size
            clear hbC
            go_wp2_with fail
            refine (writeString_any G _ u _ buC (by first | omega | (simp; omega))).mono ?_
            rintro e wZ ⟨rfl, buZ, hbZ, hkZ⟩
            clear hkZ
            go_wp2_with fail
            go_roundw
            case rel => exact ⟨0 + 1, by omega, by go_num, by rw [← HBX.out]; first | exact buZ | simpa using buZ, by repeat' (first | with_reducible assumption | with_reducible exact Below.refl _ _ | (with_reducible refine Below.setCell ?_ ?_ _) | (with_reducible refine Below.alloc ?_ ?_ _) | (with_reducible refine Below.drew ?_) | (with_reducible refine below_dr ?_ _) | (with_reducible refine Below.trans ?_ (Below.mono (by with_reducible assumption) ?_)) | omega | (simp; done) | (simp; omega))⟩
            case measure => first | (simp [intOf]; done) | (simp [intOf]; omega)
          · have hq1 : 0 < q := by omega
            have hqp : (0 : Int) < (q : Int) := by omega
            have HS := st_k (O := O) hq1 ha
            clear ha
            generalize ptB x y = u at CT ht HS
            obtain ⟨B0, hB0⟩ : ∃ B0, B0 = (O ++ ptsB (dl.take q)).data.toList := ⟨_, rfl⟩
            rw [← hB0] at bu
            have hBl : B0.length ≤ 800000 := by rw [hB0, blen, size_app]; omega
            have HBX := Lib.hid (show B0 ++ [32] ++ u.data.toList = (O ++ ptsB (dl.take (q + 1))).data.toList from by rw [← HS, hB0]; simp)
            clear HS hB0
            have bkA : Blk (wr.alloc (.cells #[.int .i64 x, .int .i64 y] 47)) wr.heap.size 47 #[.int .i64 x, .int .i64 y] := Blk.new _ _ _
            have buA : Bu (wr.alloc (.cells #[.int .i64 x, .int .i64 y] 47)) G B0 := bu.alloc _
            have gA : Below w.heap.size w (wr.alloc (.cells #[.int .i64 x, .int .i64 y] 47)) := by repeat' (first | with_reducible assumption | with_reducible exact Below.refl _ _ | (with_reducible refine Below.setCell ?_ ?_ _) | (with_reducible refine Below.alloc ?_ ?_ _) | (with_reducible refine Below.drew ?_) | (with_reducible refine below_dr ?_ _) | (with_reducible refine Below.trans ?_ (Below.mono (by with_reducible assumption) ?_)) | omega | (simp; done) | (simp; omega))
            obtain ⟨Q, hQ⟩ : ∃ Q, Q = wr.heap.size := ⟨_, rfl⟩
            have hQG : ¬ Q = G := by omega
            rw [← hQ] at bkA
            have HQ := Lib.hid hQ
            clear hQ bu
            go_wp2_with fail
            (try simp only [← HQ.out])
            refine (wb32 G _ _ buA (by first | omega | (simp; omega))).mono ?_
            rintro e wC ⟨rfl, buC, hbC, hkC⟩
            have bkC := hkC Q _ _ bkA (by decide) hQG
            have gC : Below w.heap.size w wC := by repeat' (first | with_reducible assumption | with_reducible exact Below.refl _ _ | (with_reducible refine Below.setCell ?_ ?_ _) | (with_reducible refine Below.alloc ?_ ?_ _) | (with_reducible refine Below.drew ?_) | (with_reducible refine below_dr ?_ _) | (with_reducible refine Below.trans ?_ (Below.mono (by with_reducible assumption) ?_)) | omega | (simp; done) | (simp; omega))
            have zzC := gC.size
            have yC0 := bkC.cell 0 rfl
            have yC1 := bkC.cell 1 rfl
            have lC := bkC.lt
            clear hbC hkC buA bkA gA
            go_wp2_with fail
            refine (CT.out _ (by repeat' (first | with_reducible assumption | with_reducible exact Below.refl _ _ | (with_reducible refine Below.setCell ?_ ?_ _) | (with_reducible refine Below.alloc ?_ ?_ _) | (with_reducible refine Below.drew ?_) | (with_reducible refine below_dr ?_ _) | (with_reducible refine Below.trans ?_ (Below.mono (by with_reducible assumption) ?_)) | omega | (simp; done) | (simp; omega)))).mono ?_
            rintro e wD ⟨rfl, hbD⟩
            have buD := buC.stays hbD
            have gD : Below w.heap.size w wD := by repeat' (first | with_reducible assumption | with_reducible exact Below.refl _ _ | (with_reducible refine Below.setCell ?_ ?_ _) | (with_reducible refine Below.alloc ?_ ?_ _) | (with_reducible refine Below.drew ?_) | (with_reducible refine below_dr ?_ _) | (with_reducible refine Below.trans ?_ (Below.mono (by with_reducible assumption) ?_)) | omega | (simp; done) | (simp; omega))
            have zzD := gD.size
            clear hbD
            go_wp2_with fail
            refine (writeString_any G _ u _ buD (by first | omega | (simp; omega))).mono ?_
            rintro e wZ ⟨rfl, buZ, hbZ, hkZ⟩
            clear hkZ
            go_wp2_with fail
            go_roundw
            case rel => exact ⟨q + 1, by omega, by go_num, by rw [← HBX.out]; first | exact buZ | simpa using buZ, by repeat' (first | with_reducible assumption | with_reducible exact Below.refl _ _ | (with_reducible refine Below.setCell ?_ ?_ _) | (with_reducible refine Below.alloc ?_ ?_ _) | (with_reducible refine Below.drew ?_) | (with_reducible refine below_dr ?_ _) | (with_reducible refine Below.trans ?_ (Below.mono (by with_reducible assumption) ?_)) | omega | (simp; done) | (simp; omega))⟩
            case measure => first | (simp [intOf]; done) | (simp [intOf]; omega)
        case neg =>
          obtain rfl : q = m := by omega
          obtain ⟨B0, hB0⟩ : ∃ B0, B0 = (O ++ ptsB (dl.take q)).data.toList := ⟨_, rfl⟩
          have HBX := Lib.hid (show B0 ++ [10] = (outR ds (k + 1)).data.toList from by rw [← HST.out, hB0]; simp)
          have hBl : B0.length ≤ 800000 := by rw [hB0, blen, size_app]; omega
          rw [← hB0] at bu
          clear hB0
          have hqi : ¬ ((q : Int) < (q : Int)) := by omega
          go_wp2_with fail
          refine (wb10 G _ _ bu (by omega)).mono ?_
          rintro e wZ ⟨rfl, buZ, hbZ, hkZ⟩
          clear hkZ
          go_wp2_with fail
          go_roundw
          case rel => exact ⟨k + 1, by omega, by go_num, by rw [← HBX.out]; exact buZ, by repeat' (first | with_reducible assumption | with_reducible exact Below.refl _ _ | (with_reducible refine Below.setCell ?_ ?_ _) | (with_reducible refine Below.alloc ?_ ?_ _) | (with_reducible refine Below.drew ?_) | (with_reducible refine below_dr ?_ _) | (with_reducible refine Below.trans ?_ (Below.mono (by with_reducible assumption) ?_)) | omega | (simp; done) | (simp; omega))⟩
          case measure => first | (simp [intOf]; done) | (simp [intOf]; omega)
    case neg =>
      obtain rfl : k = n := by omega
      have hki : ¬ ((k : Int) < (k : Int)) := by omega
      go_wp2_with fail
      refine (buString_any G _ _ bu).mono ?_
      rintro e wZ ⟨rfl, hbZ⟩
      rw [arr_eta]
      go_wp2_with fail
      go_ret
      exact ⟨rfl, by repeat' (first | with_reducible assumption | with_reducible exact Below.refl _ _ | (with_reducible refine Below.setCell ?_ ?_ _) | (with_reducible refine Below.alloc ?_ ?_ _) | (with_reducible refine Below.drew ?_) | (with_reducible refine below_dr ?_ _) | (with_reducible refine Below.trans ?_ (Below.mono (by with_reducible assumption) ?_)) | omega | (simp; done) | (simp; omega))⟩
end Go.Proofs.YtnlhofepobkljaaDoor
