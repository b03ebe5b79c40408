/- Walks: parts of a pixel read from a text, the reference's side. -/
import Derived.Test.YtonoldjhfhngfaaDoorRxc
import Derived.Test.YtonoldjhfhngfaaDoorSpn
import Derived.BigQuiet
namespace Go.Proofs.YtonoldjhfhngfaaDoor
open Go.RowKit
set_option linter.unusedVariables false
theorem hB_take (p : ByteArray) (k : Nat) (h : k < p.size) : hB (p.data.toList.take (k + 1)) = 10 * hB (p.data.toList.take k) + (p[k].toNat : Int) - 48 := by
  rw [List.take_add_one, ← hB_snoc]
  congr 2
  rw [List.getElem?_eq_getElem (by rw [len_list]; exact h)]; rfl
theorem hB_tin (p : ByteArray) (k : Nat) (h : k ≤ 12) : -100000000000000 ≤ hB (p.data.toList.take k) ∧ hB (p.data.toList.take k) ≤ 100000000000000 :=
  hB_in (Nat.le_trans (List.length_take_le _ _) h)
theorem hB_all (p : ByteArray) : hB (p.data.toList.take p.size) = hB p.data.toList := by rw [List.take_of_length_le (by rw [len_list]; exact Nat.le_refl _)]
theorem ne_listB (s : ByteArray) (h : 0 < s.size) : ¬ s.toList = [] := by
  intro h2
  rw [Lib.toList_data] at h2
  have h3 : s.data.toList.length = 0 := by rw [h2]; rfl
  rw [len_list] at h3
  omega
theorem nil_list : (⟨#[]⟩ : ByteArray).toList = [] := by rw [Lib.toList_data]
theorem size_nil {s : ByteArray} (h : s.size = 0) : s = ⟨#[]⟩ := by
  apply ByteArray.ext
  apply Array.toList_inj.1
  exact List.eq_nil_of_length_eq_zero ((len_list s).trans h)
set_option maxRecDepth 100000 in
set_option maxHeartbeats 6400000 in
theorem specReadPixels_neg (s : ByteArray) (w : World) (hs : s.size ≤ 1048576) (h0 : 0 < s.size) (hh : s[0].toNat = 45) :
    Calls Tryd.prog 5 #[.string s] w fun e w' => ∃ n b, e = .returned (.tuple #[.int .i64 n, .bool b]) ∧ Rp s n b ∧ Below w.heap.size w w' := by
  obtain ⟨hu, hg, _⟩ := un_yes h0 hh
  have hTs : (s.extract 1 s.size).size < s.size := by simp; omega
  have CS := Lib.hid (show ∀ w, Calls Tryd.prog 12 #[.string (s.extract 1 s.size), .int .u8 58] w (NewStrs w (partsc (unB s) 58)) from fun w => by rw [hu]; exact l01Split_any (s.extract 1 s.size) 58 w (by omega))
  have e1' := ne_listB s h0
  have e2' : s.toList.isEmpty = false := by simpa using e1'
  have e3' : ((s[0].toNat : Int) == 45) = true := by rw [hh]; rfl
  clear hu hh
  by_cases hn : (partsc (unB s) 58).length = 2
  case neg =>
    have X := Lib.hid (sp_len hn)
    have hn2 : (((partsc (unB s) 58).length : Int) != 2) = true := by rw [bne_iff_ne]; omega
    unfold NewStrs at CS
    clear hn
    generalize partsc (unB s) 58 = P at CS hn2
    generalize P.length = n at CS hn2
    go_enter Tryd.func5, Tryd.ntmps5
    go_wp2_with fail
    refine (CS.out _).mono ?_
    rintro e w1 ⟨A, cp, rfl, hown, hbw⟩
    generalize s.extract 1 s.size = T at hTs ⊢
    go_wp2_with fail
    refine bodyPost_ret (v := .tuple #[.int .i64 (0), .bool false]) (by simp [results, Tryd.results5, go_sem]) rfl ⟨_, _, rfl, ?_, ?_⟩
    · exact X.out
    · repeat' (first | with_reducible assumption | with_reducible exact Below.refl _ _ | (with_reducible refine Below.setCell ?_ ?_ _) | (with_reducible refine Below.alloc ?_ ?_ _) | (with_reducible refine Below.drew ?_) | (with_reducible refine below_dr ?_ _) | (with_reducible refine Below.trans ?_ (Below.mono (by with_reducible assumption) ?_)) | omega | (simp; done) | (simp; omega))
  case pos =>
    obtain ⟨p, q, hP⟩ := two_ofB hn
    clear hn
    rw [hP] at CS
    by_cases hq : q.size = 2
    case neg =>
      have X := Lib.hid (sp_q hP hq)
      have hq2 : ((q.size : Int) != 2) = true := by rw [bne_iff_ne]; omega
      clear hP hq
      go_enter Tryd.func5, Tryd.ntmps5
      go_wp2_with fail
      refine (CS.out _).mono ?_
      rintro e w1 ⟨A, cp, rfl, hown, hbw⟩
      generalize s.extract 1 s.size = T at hTs ⊢
      obtain ⟨g, cap, hv, _, hlt⟩ := hown.form (by simp)
      obtain rfl : A = some ⟨g, 0, none⟩ := by injection hv
      have hcell := hown.cells (g := g) rfl
      have e0 : w1.cell? ⟨g, 0, none⟩ = some (.string p) := hcell 0 _ rfl
      have e1 : w1.cell? ⟨g, 1, none⟩ = some (.string q) := hcell 1 _ rfl
      clear hcell hown hv
      go_wp2_with fail
      refine bodyPost_ret (v := .tuple #[.int .i64 (0), .bool false]) (by simp [results, Tryd.results5, go_sem]) rfl ⟨_, _, rfl, ?_, ?_⟩
      · exact X.out
      · repeat' (first | with_reducible assumption | with_reducible exact Below.refl _ _ | (with_reducible refine Below.setCell ?_ ?_ _) | (with_reducible refine Below.alloc ?_ ?_ _) | (with_reducible refine Below.drew ?_) | (with_reducible refine below_dr ?_ _) | (with_reducible refine Below.trans ?_ (Below.mono (by with_reducible assumption) ?_)) | omega | (simp; done) | (simp; omega))
    case pos =>
      by_cases hp : p.size ≤ 12
      case neg =>
        have X := Lib.hid (sp_p hP hp)
        have hq2 : ((q.size : Int) != 2) = false := by rw [hq]; rfl
        have hp2 : 12 < p.size := by omega
        clear hP hp
        go_enter Tryd.func5, Tryd.ntmps5
        go_wp2_with fail
        refine (CS.out _).mono ?_
        rintro e w1 ⟨A, cp, rfl, hown, hbw⟩
        generalize s.extract 1 s.size = T at hTs ⊢
        obtain ⟨g, cap, hv, _, hlt⟩ := hown.form (by simp)
        obtain rfl : A = some ⟨g, 0, none⟩ := by injection hv
        have hcell := hown.cells (g := g) rfl
        have e0 : w1.cell? ⟨g, 0, none⟩ = some (.string p) := hcell 0 _ rfl
        have e1 : w1.cell? ⟨g, 1, none⟩ = some (.string q) := hcell 1 _ rfl
        clear hcell hown hv
        go_wp2_with fail
        refine bodyPost_ret (v := .tuple #[.int .i64 (0), .bool false]) (by simp [results, Tryd.results5, go_sem]) rfl ⟨_, _, rfl, ?_, ?_⟩
        · exact X.out
        · repeat' (first | with_reducible assumption | with_reducible exact Below.refl _ _ | (with_reducible refine Below.setCell ?_ ?_ _) | (with_reducible refine Below.alloc ?_ ?_ _) | (with_reducible refine Below.drew ?_) | (with_reducible refine below_dr ?_ _) | (with_reducible refine Below.trans ?_ (Below.mono (by with_reducible assumption) ?_)) | omega | (simp; done) | (simp; omega))
      case pos =>
        have b0 : (q[0].toNat : Int) ≤ 255 := by have := q[0].toNat_lt; omega
        have b1 : (q[1].toNat : Int) ≤ 255 := by have := q[1].toNat_lt; omega
        have hq2 : ((q.size : Int) != 2) = false := by rw [hq]; rfl
        obtain ⟨N, hN⟩ : ∃ N, nS s p q q[0].toNat q[1].toNat = N := ⟨_, rfl⟩
        have hN2 : N = -(64 * hB p.data.toList + 10 * ((q[0].toNat : Int) - 48) + (q[1].toNat : Int) - 48) := by rw [← hN]; unfold nS; rw [hg]; simp
        have HN := Lib.hid hN2
        clear hN2
        have CX := Lib.hid (show ∀ v, v = N → ∀ w, Calls Tryd.prog 13 #[.int .i64 v] w fun e w' => e = .returned (.string (pxT N)) ∧ Below w.heap.size w w' from fun v h w => by rw [h]; exact specPixelsText_any N w)
        have HX := Lib.hid (show ¬ pxT N = s → Rp s 0 false from fun h => Rp_spec hP hq (by rw [hN]; exact h))
        clear hP hN
        go_enter Tryd.func5, Tryd.ntmps5
        go_wp2_with fail
        refine (CS.out _).mono ?_
        rintro e w1 ⟨A, cp, rfl, hown, hbw⟩
        generalize s.extract 1 s.size = T at hTs ⊢
        obtain ⟨g, cap, hv, _, hlt⟩ := hown.form (by simp)
        obtain rfl : A = some ⟨g, 0, none⟩ := by injection hv
        have hcell := hown.cells (g := g) rfl
        have e0 : w1.cell? ⟨g, 0, none⟩ = some (.string p) := hcell 0 _ rfl
        have e1 : w1.cell? ⟨g, 1, none⟩ = some (.string q) := hcell 1 _ rfl
        clear hcell hown hv
        go_wp2_with fail
        go_loop [6, 7] (fun n i => ∃ k : Nat, k ≤ p.size ∧ i = .int .i64 k ∧ n = .int .i64 (hB (p.data.toList.take k))) (fun _ i => p.size - (intOf i).toNat)
        case atStart => exact ⟨0, by omega, rfl, by simp [hB]⟩
        case round =>
          obtain ⟨k, hk, rfl, rfl⟩ := hrel
          by_cases hlt2 : k < p.size
          case pos =>
            have hb : (p[k].toNat : Int) ≤ 255 := by have := p[k].toNat_lt; omega
            have hS := Lib.hid (hB_take p k hlt2)
            have hI := hB_tin p k (by omega)
            generalize hB (p.data.toList.take k) = n at hS hI ⊢
            go_wp2_with fail
            go_round
            case rel => exact ⟨k + 1, by omega, by go_num, by rw [hS.out]⟩
            case measure => simp [intOf]; omega
          case neg =>
            obtain rfl : k = p.size := by omega
            have hI := hB_tin p p.size hp
            rw [hB_all] at hI ⊢
            generalize hB p.data.toList = n at HN hI ⊢
            clear hlt2 hk
            by_cases hs0 : pxT N = s
            case pos =>
              have e5 := bne_no hs0
              have e6 : ((pxT N).toList == s.toList) = true := by simpa [bne] using e5
              have hne : ¬ s = ⟨#[]⟩ := by intro e; rw [e] at h0; exact absurd h0 (by decide)
              have HR := Lib.hid (show ∀ v, v = N → Rp s v true from fun v h => by rw [h]; exact Rp_spec_yes hs0 hne)
              have hl := ne_listB s h0
              clear hs0 hne HX
              generalize pxT N = R at *
              go_wp2_with fail
              go_quiet (fail)
              go_wp2_with (first | (go_at_call 13; (with_reducible refine (CX.out _ (by have := HN.out; omega) _).mono ?_); rintro e wx ⟨rfl, hx⟩; have hzx := hx.size; (try simp only [World.size_alloc] at hzx)))
              refine bodyPost_ret (v := .tuple #[.int .i64 (-(64 * n + 10 * ((q[0].toNat : Int) - 48) + (q[1].toNat : Int) - 48)), .bool true]) (by simp [results, Tryd.results5, go_sem]) rfl ⟨_, _, rfl, ?_, ?_⟩
              · exact HR.out _ (by have := HN.out; omega)
              · repeat' (first | with_reducible assumption | with_reducible exact Below.refl _ _ | (with_reducible refine Below.setCell ?_ ?_ _) | (with_reducible refine Below.alloc ?_ ?_ _) | (with_reducible refine Below.drew ?_) | (with_reducible refine below_dr ?_ _) | (with_reducible refine Below.trans ?_ (Below.mono (by with_reducible assumption) ?_)) | omega | (simp; done) | (simp; omega))
            case neg =>
              have e5 := bne_yes hs0
              have e6 : ((pxT N).toList == s.toList) = false := by simpa [bne] using e5
              have X := Lib.hid (HX.out hs0)
              clear hs0 HX
              generalize pxT N = R at *
              go_wp2_with fail
              go_quiet (fail)
              go_wp2_with (first | (go_at_call 13; (with_reducible refine (CX.out _ (by have := HN.out; omega) _).mono ?_); rintro e wx ⟨rfl, hx⟩; have hzx := hx.size; (try simp only [World.size_alloc] at hzx)))
              refine bodyPost_ret (v := .tuple #[.int .i64 (0), .bool false]) (by simp [results, Tryd.results5, go_sem]) rfl ⟨_, _, rfl, ?_, ?_⟩
              · exact X.out
              · repeat' (first | with_reducible assumption | with_reducible exact Below.refl _ _ | (with_reducible refine Below.setCell ?_ ?_ _) | (with_reducible refine Below.alloc ?_ ?_ _) | (with_reducible refine Below.drew ?_) | (with_reducible refine below_dr ?_ _) | (with_reducible refine Below.trans ?_ (Below.mono (by with_reducible assumption) ?_)) | omega | (simp; done) | (simp; omega))
set_option maxRecDepth 100000 in
set_option maxHeartbeats 6400000 in
theorem specReadPixels_pos (s : ByteArray) (w : World) (hs : s.size ≤ 1048576) (h0 : 0 < s.size) (hh : ¬ s[0].toNat = 45) :
    Calls Tryd.prog 5 #[.string s] w fun e w' => ∃ n b, e = .returned (.tuple #[.int .i64 n, .bool b]) ∧ Rp s n b ∧ Below w.heap.size w w' := by
  obtain ⟨hu, hg⟩ := un_no (s := s) (.inr ⟨h0, hh⟩)
  have CS := Lib.hid (show ∀ w, Calls Tryd.prog 12 #[.string s, .int .u8 58] w (NewStrs w (partsc (unB s) 58)) from fun w => by rw [hu]; exact l01Split_any s 58 w (by omega))
  have e1' := ne_listB s h0
  have e2' : s.toList.isEmpty = false := by simpa using e1'
  have e3' : ((s[0].toNat : Int) == 45) = false := beq_eq_false_iff_ne.2 (by omega)
  clear hu hh
  by_cases hn : (partsc (unB s) 58).length = 2
  case neg =>
    have X := Lib.hid (sp_len hn)
    have hn2 : (((partsc (unB s) 58).length : Int) != 2) = true := by rw [bne_iff_ne]; omega
    unfold NewStrs at CS
    clear hn
    generalize partsc (unB s) 58 = P at CS hn2
    generalize P.length = n at CS hn2
    go_enter Tryd.func5, Tryd.ntmps5
    go_wp2_with fail
    refine (CS.out _).mono ?_
    rintro e w1 ⟨A, cp, rfl, hown, hbw⟩
    go_wp2_with fail
    refine bodyPost_ret (v := .tuple #[.int .i64 (0), .bool false]) (by simp [results, Tryd.results5, go_sem]) rfl ⟨_, _, rfl, ?_, ?_⟩
    · exact X.out
    · repeat' (first | with_reducible assumption | with_reducible exact Below.refl _ _ | (with_reducible refine Below.setCell ?_ ?_ _) | (with_reducible refine Below.alloc ?_ ?_ _) | (with_reducible refine Below.drew ?_) | (with_reducible refine below_dr ?_ _) | (with_reducible refine Below.trans ?_ (Below.mono (by with_reducible assumption) ?_)) | omega | (simp; done) | (simp; omega))
  case pos =>
    obtain ⟨p, q, hP⟩ := two_ofB hn
    clear hn
    rw [hP] at CS
    by_cases hq : q.size = 2
    case neg =>
      have X := Lib.hid (sp_q hP hq)
      have hq2 : ((q.size : Int) != 2) = true := by rw [bne_iff_ne]; omega
      clear hP hq
      go_enter Tryd.func5, Tryd.ntmps5
      go_wp2_with fail
      refine (CS.out _).mono ?_
      rintro e w1 ⟨A, cp, rfl, hown, hbw⟩
      obtain ⟨g, cap, hv, _, hlt⟩ := hown.form (by simp)
      obtain rfl : A = some ⟨g, 0, none⟩ := by injection hv
      have hcell := hown.cells (g := g) rfl
      have e0 : w1.cell? ⟨g, 0, none⟩ = some (.string p) := hcell 0 _ rfl
      have e1 : w1.cell? ⟨g, 1, none⟩ = some (.string q) := hcell 1 _ rfl
      clear hcell hown hv
      go_wp2_with fail
      refine bodyPost_ret (v := .tuple #[.int .i64 (0), .bool false]) (by simp [results, Tryd.results5, go_sem]) rfl ⟨_, _, rfl, ?_, ?_⟩
      · exact X.out
      · repeat' (first | with_reducible assumption | with_reducible exact Below.refl _ _ | (with_reducible refine Below.setCell ?_ ?_ _) | (with_reducible refine Below.alloc ?_ ?_ _) | (with_reducible refine Below.drew ?_) | (with_reducible refine below_dr ?_ _) | (with_reducible refine Below.trans ?_ (Below.mono (by with_reducible assumption) ?_)) | omega | (simp; done) | (simp; omega))
    case pos =>
      by_cases hp : p.size ≤ 12
      case neg =>
        have X := Lib.hid (sp_p hP hp)
        have hq2 : ((q.size : Int) != 2) = false := by rw [hq]; rfl
        have hp2 : 12 < p.size := by omega
        clear hP hp
        go_enter Tryd.func5, Tryd.ntmps5
        go_wp2_with fail
        refine (CS.out _).mono ?_
        rintro e w1 ⟨A, cp, rfl, hown, hbw⟩
        obtain ⟨g, cap, hv, _, hlt⟩ := hown.form (by simp)
        obtain rfl : A = some ⟨g, 0, none⟩ := by injection hv
        have hcell := hown.cells (g := g) rfl
        have e0 : w1.cell? ⟨g, 0, none⟩ = some (.string p) := hcell 0 _ rfl
        have e1 : w1.cell? ⟨g, 1, none⟩ = some (.string q) := hcell 1 _ rfl
        clear hcell hown hv
        go_wp2_with fail
        refine bodyPost_ret (v := .tuple #[.int .i64 (0), .bool false]) (by simp [results, Tryd.results5, go_sem]) rfl ⟨_, _, rfl, ?_, ?_⟩
        · exact X.out
        · repeat' (first | with_reducible assumption | with_reducible exact Below.refl _ _ | (with_reducible refine Below.setCell ?_ ?_ _) | (with_reducible refine Below.alloc ?_ ?_ _) | (with_reducible refine Below.drew ?_) | (with_reducible refine below_dr ?_ _) | (with_reducible refine Below.trans ?_ (Below.mono (by with_reducible assumption) ?_)) | omega | (simp; done) | (simp; omega))
      case pos =>
        have b0 : (q[0].toNat : Int) ≤ 255 := by have := q[0].toNat_lt; omega
        have b1 : (q[1].toNat : Int) ≤ 255 := by have := q[1].toNat_lt; omega
        have hq2 : ((q.size : Int) != 2) = false := by rw [hq]; rfl
        obtain ⟨N, hN⟩ : ∃ N, nS s p q q[0].toNat q[1].toNat = N := ⟨_, rfl⟩
        have hN2 : N = 64 * hB p.data.toList + 10 * ((q[0].toNat : Int) - 48) + (q[1].toNat : Int) - 48 := by rw [← hN]; unfold nS; rw [hg]; simp
        have HN := Lib.hid hN2
        clear hN2
        have CX := Lib.hid (show ∀ v, v = N → ∀ w, Calls Tryd.prog 13 #[.int .i64 v] w fun e w' => e = .returned (.string (pxT N)) ∧ Below w.heap.size w w' from fun v h w => by rw [h]; exact specPixelsText_any N w)
        have HX := Lib.hid (show ¬ pxT N = s → Rp s 0 false from fun h => Rp_spec hP hq (by rw [hN]; exact h))
        clear hP hN
        go_enter Tryd.func5, Tryd.ntmps5
        go_wp2_with fail
        refine (CS.out _).mono ?_
        rintro e w1 ⟨A, cp, rfl, hown, hbw⟩
        obtain ⟨g, cap, hv, _, hlt⟩ := hown.form (by simp)
        obtain rfl : A = some ⟨g, 0, none⟩ := by injection hv
        have hcell := hown.cells (g := g) rfl
        have e0 : w1.cell? ⟨g, 0, none⟩ = some (.string p) := hcell 0 _ rfl
        have e1 : w1.cell? ⟨g, 1, none⟩ = some (.string q) := hcell 1 _ rfl
        clear hcell hown hv
        go_wp2_with fail
        go_loop [6, 7] (fun n i => ∃ k : Nat, k ≤ p.size ∧ i = .int .i64 k ∧ n = .int .i64 (hB (p.data.toList.take k))) (fun _ i => p.size - (intOf i).toNat)
        case atStart => exact ⟨0, by omega, rfl, by simp [hB]⟩
        case round =>
          obtain ⟨k, hk, rfl, rfl⟩ := hrel
          by_cases hlt2 : k < p.size
          case pos =>
            have hb : (p[k].toNat : Int) ≤ 255 := by have := p[k].toNat_lt; omega
            have hS := Lib.hid (hB_take p k hlt2)
            have hI := hB_tin p k (by omega)
            generalize hB (p.data.toList.take k) = n at hS hI ⊢
            go_wp2_with fail
            go_round
            case rel => exact ⟨k + 1, by omega, by go_num, by rw [hS.out]⟩
            case measure => simp [intOf]; omega
          case neg =>
            obtain rfl : k = p.size := by omega
            have hI := hB_tin p p.size hp
            rw [hB_all] at hI ⊢
            generalize hB p.data.toList = n at HN hI ⊢
            clear hlt2 hk
            by_cases hs0 : pxT N = s
            case pos =>
              have e5 := bne_no hs0
              have e6 : ((pxT N).toList == s.toList) = true := by simpa [bne] using e5
              have hne : ¬ s = ⟨#[]⟩ := by intro e; rw [e] at h0; exact absurd h0 (by decide)
              have HR := Lib.hid (show ∀ v, v = N → Rp s v true from fun v h => by rw [h]; exact Rp_spec_yes hs0 hne)
              have hl := ne_listB s h0
              clear hs0 hne HX
              generalize pxT N = R at *
              go_wp2_with fail
              go_quiet (fail)
              go_wp2_with (first | (go_at_call 13; (with_reducible refine (CX.out _ (by have := HN.out; omega) _).mono ?_); rintro e wx ⟨rfl, hx⟩; have hzx := hx.size; (try simp only [World.size_alloc] at hzx)))
              refine bodyPost_ret (v := .tuple #[.int .i64 (64 * n + 10 * ((q[0].toNat : Int) - 48) + (q[1].toNat : Int) - 48), .bool true]) (by simp [results, Tryd.results5, go_sem]) rfl ⟨_, _, rfl, ?_, ?_⟩
              · exact HR.out _ (by have := HN.out; omega)
              · repeat' (first | with_reducible assumption | with_reducible exact Below.refl _ _ | (with_reducible refine Below.setCell ?_ ?_ _) | (with_reducible refine Below.alloc ?_ ?_ _) | (with_reducible refine Below.drew ?_) | (with_reducible refine below_dr ?_ _) | (with_reducible refine Below.trans ?_ (Below.mono (by with_reducible assumption) ?_)) | omega | (simp; done) | (simp; omega))
            case neg =>
              have e5 := bne_yes hs0
              have e6 : ((pxT N).toList == s.toList) = false := by simpa [bne] using e5
              have X := Lib.hid (HX.out hs0)
              clear hs0 HX
              generalize pxT N = R at *
              go_wp2_with fail
              go_quiet (fail)
              go_wp2_with (first | (go_at_call 13; (with_reducible refine (CX.out _ (by have := HN.out; omega) _).mono ?_); rintro e wx ⟨rfl, hx⟩; have hzx := hx.size; (try simp only [World.size_alloc] at hzx)))
              refine bodyPost_ret (v := .tuple #[.int .i64 (0), .bool false]) (by simp [results, Tryd.results5, go_sem]) rfl ⟨_, _, rfl, ?_, ?_⟩
              · exact X.out
              · repeat' (first | with_reducible assumption | with_reducible exact Below.refl _ _ | (with_reducible refine Below.setCell ?_ ?_ _) | (with_reducible refine Below.alloc ?_ ?_ _) | (with_reducible refine Below.drew ?_) | (with_reducible refine below_dr ?_ _) | (with_reducible refine Below.trans ?_ (Below.mono (by with_reducible assumption) ?_)) | omega | (simp; done) | (simp; omega))
set_option maxRecDepth 100000 in
set_option maxHeartbeats 6400000 in
theorem specReadPixels_nil (w : World) :
    Calls Tryd.prog 5 #[.string ⟨#[]⟩] w fun e w' => ∃ n b, e = .returned (.tuple #[.int .i64 n, .bool b]) ∧ Rp ⟨#[]⟩ n b ∧ Below w.heap.size w w' := by
  have X := Lib.hid (Rp_nil (s := ⟨#[]⟩) rfl)
  have CS := Lib.hid (show ∀ w, Calls Tryd.prog 12 #[.string ⟨#[]⟩, .int .u8 58] w (NewStrs w (partsc ⟨#[]⟩ 58)) from fun w => l01Split_any ⟨#[]⟩ 58 w (by decide))
  have hn : (partsc ⟨#[]⟩ 58).length = 1 := by rfl
  unfold NewStrs at CS
  rw [hn] at CS
  clear hn
  generalize partsc ⟨#[]⟩ 58 = P at CS
  have e1' := nil_list
  go_enter Tryd.func5, Tryd.ntmps5
  go_wp2_with fail
  refine (CS.out _).mono ?_
  rintro e w1 ⟨A, cp, rfl, hown, hbw⟩
  go_wp2_with fail
  refine bodyPost_ret (v := .tuple #[.int .i64 (0), .bool false]) (by simp [results, Tryd.results5, go_sem]) rfl ⟨_, _, rfl, ?_, ?_⟩
  · exact X.out
  · repeat' (first | with_reducible assumption | with_reducible exact Below.refl _ _ | (with_reducible refine Below.setCell ?_ ?_ _) | (with_reducible refine Below.alloc ?_ ?_ _) | (with_reducible refine Below.drew ?_) | (with_reducible refine below_dr ?_ _) | (with_reducible refine Below.trans ?_ (Below.mono (by with_reducible assumption) ?_)) | omega | (simp; done) | (simp; omega))
theorem specReadPixels_any (s : ByteArray) (w : World) (hs : s.size ≤ 1048576) :
    Calls Tryd.prog 5 #[.string s] w fun e w' => ∃ n b, e = .returned (.tuple #[.int .i64 n, .bool b]) ∧ Rp s n b ∧ Below w.heap.size w w' := by
  by_cases h0 : 0 < s.size
  · by_cases hh : s[0].toNat = 45
    · exact specReadPixels_neg s w hs h0 hh
    · exact specReadPixels_pos s w hs h0 hh
  · obtain rfl := size_nil (s := s) (by omega)
    exact specReadPixels_nil w
end Go.Proofs.YtonoldjhfhngfaaDoor
