/- Walks: parts of a pixel read from a text, the program's side. -/
import Derived.Test.YtdikenapnncmfaaDoorPyq
import Derived.Test.YtdikenapnncmfaaDoorWRnq
import Derived.Test.YtdikenapnncmfaaDoorRxbq
namespace Go.Proofs.YtdikenapnncmfaaDoor.Pix
open Go.RowKit
set_option linter.unusedVariables false
theorem cell_ltB {w : World} {a : Addr} {v : Value} (h : w.cell? a = some v) : a.block < w.heap.size := by
  rcases Nat.lt_or_ge a.block w.heap.size with hlt | hge
  · exact hlt
  · simp [World.cell?, Array.getElem?_eq_none hge] at h
/-- Some number stands in the library's variable. -/
def MaxIs (w : World) : Prop := ∃ m, w.cell? ⟨1, 0, none⟩ = some (.int .i64 m)
theorem MaxIs.stay {w w' : World} (h : MaxIs w) (hb : Below w.heap.size w w') : MaxIs w' := by
  obtain ⟨m, hm⟩ := h
  exact ⟨m, (hb.cell (cell_ltB hm)).trans hm⟩
theorem cutp_any (s : ByteArray) (w : World) : Calls Tryd.prog 30 #[.string s, .string ⟨#[45]⟩] w fun e w' => e = .returned (.tuple #[.string (unB s), .bool (ngB s)]) ∧ Below w.heap.size w w' :=
  (Tryd.strings_CutPrefix s ⟨#[45]⟩ w).mono fun e w' ⟨he, hw⟩ => ⟨he, by rw [hw]; exact Below.refl _ _⟩
theorem cut58_any (s : ByteArray) (w : World) (hs : s.size ≤ 1048576) (hM : MaxIs w) :
    Calls Tryd.prog 31 #[.string (unB s), .string ⟨#[58]⟩] w fun e w' => (∃ b, e = .returned (.tuple #[.string (cA s), .string (cB s), .bool b])) ∧ Below w.heap.size w w' := by
  obtain ⟨m, hm⟩ := hM
  have h1 := unB_size s
  exact (Tryd.strings_Cut (unB s) ⟨#[58]⟩ m w (by omega) hm).mono fun e w' ⟨he, n, hw⟩ => ⟨⟨(Lib.cut (unL s.data.toList) [58]).2.2, he⟩, by rw [hw]; exact Joins.below_draws _ _ _⟩
theorem rdn_any' (t : ByteArray) (n : Int) (hn : n0 t.data.toList = n) (w : World) (ht : t.size ≤ 1048577) (hT : Tabs w) :
    Calls Tryd.prog 32 #[.string t] w fun e w' => (∃ b, e = .returned (.tuple #[.int .i64 n, .bool b])) ∧ Below w.heap.size w w' := by
  refine (implReadDecimal_any t w (by omega) hT).mono ?_
  rintro e w1 ⟨rfl, hb⟩
  refine ⟨?_, hb⟩
  subst hn
  unfold n0
  cases numL t.data.toList with
  | none => exact ⟨_, rfl⟩
  | some n => exact ⟨_, rfl⟩
theorem bne_yes {a b : ByteArray} (h : ¬ a = b) : (a.toList != b.toList) = true := by
  rw [Lib.toList_data, Lib.toList_data, bne_iff_ne]
  intro e
  exact h (ByteArray.ext (Array.toList_inj.1 e))
theorem bne_no {a b : ByteArray} (h : a = b) : (a.toList != b.toList) = false := by subst h; simp
theorem wrap_f64 (n : Int) : IntKind.i64.wrap n = if n % 18446744073709551616 < 9223372036854775808 then n % 18446744073709551616 else n % 18446744073709551616 - 18446744073709551616 := by
  have e : IntKind.i64.wrap n = if (true && decide (n % 2 ^ 64 ≥ 2 ^ (64 - 1))) = true then n % 2 ^ 64 - 2 ^ 64 else n % 2 ^ 64 := rfl
  rw [e, show (2 : Int) ^ 64 = 18446744073709551616 by decide, show (2 : Int) ^ (64 - 1) = 9223372036854775808 by decide]
  by_cases h : n % 18446744073709551616 < 9223372036854775808
  · rw [if_pos h, if_neg (by simp; omega)]
  · rw [if_neg h, if_pos (by simp; omega)]
theorem wrap_i64 (n : Int) : -9223372036854775808 ≤ IntKind.i64.wrap n ∧ IntKind.i64.wrap n ≤ 9223372036854775807 := by
  rw [wrap_f64]; split <;> omega
set_option maxRecDepth 100000 in
set_option maxHeartbeats 3200000 in
theorem implReadPixels_any (s : ByteArray) (w : World) (hs : s.size ≤ 1048576) (hT : Tabs w) (hM : MaxIs w) :
    Calls Tryd.prog 13 #[.string s] w fun e w' => ∃ n b, e = .returned (.tuple #[.int .i64 n, .bool b]) ∧ Rp s n b ∧ Below w.heap.size w w' := by
  have HY := Lib.hid (Rp_yes (s := s))
  have HN := Lib.hid (Rp_no (s := s))
  have hF : vF s = if ngB s then w64 (-(vW s)) else vW s := rfl
  have hW : vW s = w64 (w64 (w64 (n0 (cA s).data.toList * 64) + n0 (49 :: (cB s).data.toList)) - 100) := rfl
  have z1 := cA_size s
  have z2 := cB_size s
  have CP := Lib.hid (fun w => cutp_any s w)
  have CC := Lib.hid (fun w1 (hb : Below w.heap.size w w1) => cut58_any s w1 hs (hM.stay hb))
  have RA := Lib.hid (fun w1 (hb : Below w.heap.size w w1) => rdn_any' (cA s) _ rfl w1 (by omega) (hT.stay hb))
  have hl : (⟨#[49]⟩ ++ cB s : ByteArray).size ≤ 1048577 := by rw [ByteArray.size_append]; have : (⟨#[49]⟩ : ByteArray).size = 1 := rfl; omega
  have RB := Lib.hid (fun w1 (hb : Below w.heap.size w w1) => rdn_any' (⟨#[49]⟩ ++ cB s) (n0 (49 :: (cB s).data.toList)) (by simp [ByteArray.data_append]) w1 hl (hT.stay hb))
  have PX := Lib.hid (fun v (hv : -9223372036854775808 ≤ v ∧ v ≤ 9223372036854775807) w1 (hb : Below w.heap.size w w1) => implPixelsText_any v w1 hv (hT.stay hb).1)
  have k1 := n0_in (cA s).data.toList
  have k2 := n0_in (49 :: (cB s).data.toList)
  clear hT hM hl
  generalize vF s = F at *
  generalize vW s = W at *
  generalize n0 (cA s).data.toList = k at *
  generalize n0 (49 :: (cB s).data.toList) = r at *
  generalize cA s = a at *
  generalize cB s = b at *
  generalize unB s = t at *
  have f0 : (9223372036854775807 < 1 + b.size) = False := by simp only [eq_iff_iff, iff_false]; omega
  obtain ⟨v1, h1⟩ : ∃ v, IntKind.i64.wrap (k * 64) = v := ⟨_, rfl⟩
  have hW1 : W = w64 (w64 (v1 + r) - 100) := by rw [hW, ← h1]
  obtain ⟨v2, h2⟩ : ∃ v, IntKind.i64.wrap (v1 + r) = v := ⟨_, rfl⟩
  have hW2 : W = w64 (v2 - 100) := by rw [hW1, ← h2]
  have h3 : IntKind.i64.wrap (v2 - 100) = W := hW2.symm
  have h3b : IntKind.i64.wrap (v2 + -100) = W := h3
  have h3c : IntKind.i64.wrap (-100 + v2) = W := by rw [Int.add_comm]; exact h3
  have i3 : -9223372036854775808 ≤ W ∧ W ≤ 9223372036854775807 := by rw [hW]; exact wrap_i64 _
  clear hW hW1 hW2
  rcases hg : ngB s with _ | _
  all_goals rw [hg] at CP hF
  all_goals clear hg
  case false =>
    obtain rfl : F = W := by rw [hF]; rfl
    have i4 := i3
    have PY := Lib.hid (PX.out F i4)
    clear hF i3 i4 k1 k2 PX
    by_cases hq : pxT F = s
    case pos =>
      have e2 := bne_no hq
      have e1 : ((pxT F).toList == s.toList) = true := by simpa [bne] using e2
      have HR := Lib.hid (HY.out hq)
      clear hq HY HN
      generalize pxT F = R at *
      go_enter Tryd.func13, Tryd.ntmps13
      go_wp2_with (first | (go_at_call 30; (with_reducible refine (CP.out _).mono ?_); rintro e wa ⟨rfl, ha⟩; have hza := ha.size; (try simp only [World.size_alloc] at hza)) | (go_at_call 31; (with_reducible refine (CC.out _ (by repeat' (first | with_reducible assumption | with_reducible exact Below.refl _ _ | (with_reducible refine Below.setCell ?_ ?_ _) | (with_reducible refine Below.alloc ?_ ?_ _) | (with_reducible refine Below.drew ?_) | (with_reducible refine below_dr ?_ _) | (with_reducible refine Below.trans ?_ (Below.mono (by with_reducible assumption) ?_)) | omega | (simp; done) | (simp; omega)))).mono ?_); rintro e wb ⟨⟨bb, rfl⟩, hb⟩; have hzb := hb.size; (try simp only [World.size_alloc] at hzb)) | (go_at_call 32; (with_reducible refine (RA.out _ (by repeat' (first | with_reducible assumption | with_reducible exact Below.refl _ _ | (with_reducible refine Below.setCell ?_ ?_ _) | (with_reducible refine Below.alloc ?_ ?_ _) | (with_reducible refine Below.drew ?_) | (with_reducible refine below_dr ?_ _) | (with_reducible refine Below.trans ?_ (Below.mono (by with_reducible assumption) ?_)) | omega | (simp; done) | (simp; omega)))).mono ?_); rintro e wc ⟨⟨bc, rfl⟩, hc⟩; have hzc := hc.size; (try simp only [World.size_alloc] at hzc)) | (go_at_call 32; (with_reducible refine (RB.out _ (by repeat' (first | with_reducible assumption | with_reducible exact Below.refl _ _ | (with_reducible refine Below.setCell ?_ ?_ _) | (with_reducible refine Below.alloc ?_ ?_ _) | (with_reducible refine Below.drew ?_) | (with_reducible refine below_dr ?_ _) | (with_reducible refine Below.trans ?_ (Below.mono (by with_reducible assumption) ?_)) | omega | (simp; done) | (simp; omega)))).mono ?_); rintro e wd ⟨⟨bd, rfl⟩, hd⟩; have hzd := hd.size; (try simp only [World.size_alloc] at hzd)) | (go_at_call 14; (with_reducible refine (PY.out _ (by repeat' (first | with_reducible assumption | with_reducible exact Below.refl _ _ | (with_reducible refine Below.setCell ?_ ?_ _) | (with_reducible refine Below.alloc ?_ ?_ _) | (with_reducible refine Below.drew ?_) | (with_reducible refine below_dr ?_ _) | (with_reducible refine Below.trans ?_ (Below.mono (by with_reducible assumption) ?_)) | omega | (simp; done) | (simp; omega)))).mono ?_); rintro e we ⟨rfl, he⟩; have hze := he.size; (try simp only [World.size_alloc] at hze)))
      refine bodyPost_ret (v := .tuple #[.int .i64 (F), .bool true]) (by simp [results, Tryd.results13, go_sem]) rfl ⟨_, _, rfl, HR.out, ?_⟩
      repeat' (first | with_reducible assumption | with_reducible exact Below.refl _ _ | (with_reducible refine Below.setCell ?_ ?_ _) | (with_reducible refine Below.alloc ?_ ?_ _) | (with_reducible refine Below.drew ?_) | (with_reducible refine below_dr ?_ _) | (with_reducible refine Below.trans ?_ (Below.mono (by with_reducible assumption) ?_)) | omega | (simp; done) | (simp; omega))
    case neg =>
      have e2 := bne_yes hq
      have e1 : ((pxT F).toList == s.toList) = false := by simpa [bne] using e2
      have HR := Lib.hid (HN.out hq)
      clear hq HY HN
      generalize pxT F = R at *
      go_enter Tryd.func13, Tryd.ntmps13
      go_wp2_with (first | (go_at_call 30; (with_reducible refine (CP.out _).mono ?_); rintro e wa ⟨rfl, ha⟩; have hza := ha.size; (try simp only [World.size_alloc] at hza)) | (go_at_call 31; (with_reducible refine (CC.out _ (by repeat' (first | with_reducible assumption | with_reducible exact Below.refl _ _ | (with_reducible refine Below.setCell ?_ ?_ _) | (with_reducible refine Below.alloc ?_ ?_ _) | (with_reducible refine Below.drew ?_) | (with_reducible refine below_dr ?_ _) | (with_reducible refine Below.trans ?_ (Below.mono (by with_reducible assumption) ?_)) | omega | (simp; done) | (simp; omega)))).mono ?_); rintro e wb ⟨⟨bb, rfl⟩, hb⟩; have hzb := hb.size; (try simp only [World.size_alloc] at hzb)) | (go_at_call 32; (with_reducible refine (RA.out _ (by repeat' (first | with_reducible assumption | with_reducible exact Below.refl _ _ | (with_reducible refine Below.setCell ?_ ?_ _) | (with_reducible refine Below.alloc ?_ ?_ _) | (with_reducible refine Below.drew ?_) | (with_reducible refine below_dr ?_ _) | (with_reducible refine Below.trans ?_ (Below.mono (by with_reducible assumption) ?_)) | omega | (simp; done) | (simp; omega)))).mono ?_); rintro e wc ⟨⟨bc, rfl⟩, hc⟩; have hzc := hc.size; (try simp only [World.size_alloc] at hzc)) | (go_at_call 32; (with_reducible refine (RB.out _ (by repeat' (first | with_reducible assumption | with_reducible exact Below.refl _ _ | (with_reducible refine Below.setCell ?_ ?_ _) | (with_reducible refine Below.alloc ?_ ?_ _) | (with_reducible refine Below.drew ?_) | (with_reducible refine below_dr ?_ _) | (with_reducible refine Below.trans ?_ (Below.mono (by with_reducible assumption) ?_)) | omega | (simp; done) | (simp; omega)))).mono ?_); rintro e wd ⟨⟨bd, rfl⟩, hd⟩; have hzd := hd.size; (try simp only [World.size_alloc] at hzd)) | (go_at_call 14; (with_reducible refine (PY.out _ (by repeat' (first | with_reducible assumption | with_reducible exact Below.refl _ _ | (with_reducible refine Below.setCell ?_ ?_ _) | (with_reducible refine Below.alloc ?_ ?_ _) | (with_reducible refine Below.drew ?_) | (with_reducible refine below_dr ?_ _) | (with_reducible refine Below.trans ?_ (Below.mono (by with_reducible assumption) ?_)) | omega | (simp; done) | (simp; omega)))).mono ?_); rintro e we ⟨rfl, he⟩; have hze := he.size; (try simp only [World.size_alloc] at hze)))
      refine bodyPost_ret (v := .tuple #[.int .i64 (0), .bool false]) (by simp [results, Tryd.results13, go_sem]) rfl ⟨_, _, rfl, HR.out, ?_⟩
      repeat' (first | with_reducible assumption | with_reducible exact Below.refl _ _ | (with_reducible refine Below.setCell ?_ ?_ _) | (with_reducible refine Below.alloc ?_ ?_ _) | (with_reducible refine Below.drew ?_) | (with_reducible refine below_dr ?_ _) | (with_reducible refine Below.trans ?_ (Below.mono (by with_reducible assumption) ?_)) | omega | (simp; done) | (simp; omega))
  case true =>
    have hG : F = w64 (-W) := by rw [hF]; rfl
    have h4 : IntKind.i64.wrap (-W) = F := hG.symm
    have i4 : -9223372036854775808 ≤ F ∧ F ≤ 9223372036854775807 := by rw [hG]; exact wrap_i64 _
    clear hG
    have PY := Lib.hid (PX.out F i4)
    clear hF i3 i4 k1 k2 PX
    by_cases hq : pxT F = s
    case pos =>
      have e2 := bne_no hq
      have e1 : ((pxT F).toList == s.toList) = true := by simpa [bne] using e2
      have HR := Lib.hid (HY.out hq)
      clear hq HY HN
      generalize pxT F = R at *
      go_enter Tryd.func13, Tryd.ntmps13
      go_wp2_with (first | (go_at_call 30; (with_reducible refine (CP.out _).mono ?_); rintro e wa ⟨rfl, ha⟩; have hza := ha.size; (try simp only [World.size_alloc] at hza)) | (go_at_call 31; (with_reducible refine (CC.out _ (by repeat' (first | with_reducible assumption | with_reducible exact Below.refl _ _ | (with_reducible refine Below.setCell ?_ ?_ _) | (with_reducible refine Below.alloc ?_ ?_ _) | (with_reducible refine Below.drew ?_) | (with_reducible refine below_dr ?_ _) | (with_reducible refine Below.trans ?_ (Below.mono (by with_reducible assumption) ?_)) | omega | (simp; done) | (simp; omega)))).mono ?_); rintro e wb ⟨⟨bb, rfl⟩, hb⟩; have hzb := hb.size; (try simp only [World.size_alloc] at hzb)) | (go_at_call 32; (with_reducible refine (RA.out _ (by repeat' (first | with_reducible assumption | with_reducible exact Below.refl _ _ | (with_reducible refine Below.setCell ?_ ?_ _) | (with_reducible refine Below.alloc ?_ ?_ _) | (with_reducible refine Below.drew ?_) | (with_reducible refine below_dr ?_ _) | (with_reducible refine Below.trans ?_ (Below.mono (by with_reducible assumption) ?_)) | omega | (simp; done) | (simp; omega)))).mono ?_); rintro e wc ⟨⟨bc, rfl⟩, hc⟩; have hzc := hc.size; (try simp only [World.size_alloc] at hzc)) | (go_at_call 32; (with_reducible refine (RB.out _ (by repeat' (first | with_reducible assumption | with_reducible exact Below.refl _ _ | (with_reducible refine Below.setCell ?_ ?_ _) | (with_reducible refine Below.alloc ?_ ?_ _) | (with_reducible refine Below.drew ?_) | (with_reducible refine below_dr ?_ _) | (with_reducible refine Below.trans ?_ (Below.mono (by with_reducible assumption) ?_)) | omega | (simp; done) | (simp; omega)))).mono ?_); rintro e wd ⟨⟨bd, rfl⟩, hd⟩; have hzd := hd.size; (try simp only [World.size_alloc] at hzd)) | (go_at_call 14; (with_reducible refine (PY.out _ (by repeat' (first | with_reducible assumption | with_reducible exact Below.refl _ _ | (with_reducible refine Below.setCell ?_ ?_ _) | (with_reducible refine Below.alloc ?_ ?_ _) | (with_reducible refine Below.drew ?_) | (with_reducible refine below_dr ?_ _) | (with_reducible refine Below.trans ?_ (Below.mono (by with_reducible assumption) ?_)) | omega | (simp; done) | (simp; omega)))).mono ?_); rintro e we ⟨rfl, he⟩; have hze := he.size; (try simp only [World.size_alloc] at hze)))
      refine bodyPost_ret (v := .tuple #[.int .i64 (F), .bool true]) (by simp [results, Tryd.results13, go_sem]) rfl ⟨_, _, rfl, HR.out, ?_⟩
      repeat' (first | with_reducible assumption | with_reducible exact Below.refl _ _ | (with_reducible refine Below.setCell ?_ ?_ _) | (with_reducible refine Below.alloc ?_ ?_ _) | (with_reducible refine Below.drew ?_) | (with_reducible refine below_dr ?_ _) | (with_reducible refine Below.trans ?_ (Below.mono (by with_reducible assumption) ?_)) | omega | (simp; done) | (simp; omega))
    case neg =>
      have e2 := bne_yes hq
      have e1 : ((pxT F).toList == s.toList) = false := by simpa [bne] using e2
      have HR := Lib.hid (HN.out hq)
      clear hq HY HN
      generalize pxT F = R at *
      go_enter Tryd.func13, Tryd.ntmps13
      go_wp2_with (first | (go_at_call 30; (with_reducible refine (CP.out _).mono ?_); rintro e wa ⟨rfl, ha⟩; have hza := ha.size; (try simp only [World.size_alloc] at hza)) | (go_at_call 31; (with_reducible refine (CC.out _ (by repeat' (first | with_reducible assumption | with_reducible exact Below.refl _ _ | (with_reducible refine Below.setCell ?_ ?_ _) | (with_reducible refine Below.alloc ?_ ?_ _) | (with_reducible refine Below.drew ?_) | (with_reducible refine below_dr ?_ _) | (with_reducible refine Below.trans ?_ (Below.mono (by with_reducible assumption) ?_)) | omega | (simp; done) | (simp; omega)))).mono ?_); rintro e wb ⟨⟨bb, rfl⟩, hb⟩; have hzb := hb.size; (try simp only [World.size_alloc] at hzb)) | (go_at_call 32; (with_reducible refine (RA.out _ (by repeat' (first | with_reducible assumption | with_reducible exact Below.refl _ _ | (with_reducible refine Below.setCell ?_ ?_ _) | (with_reducible refine Below.alloc ?_ ?_ _) | (with_reducible refine Below.drew ?_) | (with_reducible refine below_dr ?_ _) | (with_reducible refine Below.trans ?_ (Below.mono (by with_reducible assumption) ?_)) | omega | (simp; done) | (simp; omega)))).mono ?_); rintro e wc ⟨⟨bc, rfl⟩, hc⟩; have hzc := hc.size; (try simp only [World.size_alloc] at hzc)) | (go_at_call 32; (with_reducible refine (RB.out _ (by repeat' (first | with_reducible assumption | with_reducible exact Below.refl _ _ | (with_reducible refine Below.setCell ?_ ?_ _) | (with_reducible refine Below.alloc ?_ ?_ _) | (with_reducible refine Below.drew ?_) | (with_reducible refine below_dr ?_ _) | (with_reducible refine Below.trans ?_ (Below.mono (by with_reducible assumption) ?_)) | omega | (simp; done) | (simp; omega)))).mono ?_); rintro e wd ⟨⟨bd, rfl⟩, hd⟩; have hzd := hd.size; (try simp only [World.size_alloc] at hzd)) | (go_at_call 14; (with_reducible refine (PY.out _ (by repeat' (first | with_reducible assumption | with_reducible exact Below.refl _ _ | (with_reducible refine Below.setCell ?_ ?_ _) | (with_reducible refine Below.alloc ?_ ?_ _) | (with_reducible refine Below.drew ?_) | (with_reducible refine below_dr ?_ _) | (with_reducible refine Below.trans ?_ (Below.mono (by with_reducible assumption) ?_)) | omega | (simp; done) | (simp; omega)))).mono ?_); rintro e we ⟨rfl, he⟩; have hze := he.size; (try simp only [World.size_alloc] at hze)))
      refine bodyPost_ret (v := .tuple #[.int .i64 (0), .bool false]) (by simp [results, Tryd.results13, go_sem]) rfl ⟨_, _, rfl, HR.out, ?_⟩
      repeat' (first | with_reducible assumption | with_reducible exact Below.refl _ _ | (with_reducible refine Below.setCell ?_ ?_ _) | (with_reducible refine Below.alloc ?_ ?_ _) | (with_reducible refine Below.drew ?_) | (with_reducible refine below_dr ?_ _) | (with_reducible refine Below.trans ?_ (Below.mono (by with_reducible assumption) ?_)) | omega | (simp; done) | (simp; omega))
end Go.Proofs.YtdikenapnncmfaaDoor.Pix
