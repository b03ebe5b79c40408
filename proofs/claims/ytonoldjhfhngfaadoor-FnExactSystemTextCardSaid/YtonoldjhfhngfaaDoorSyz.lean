/- Walks: the text of a system, both sides; the law on SystemText. -/
import Derived.Test.YtonoldjhfhngfaaDoorSys
import Derived.Test.YtonoldjhfhngfaaDoorSyy
import Derived.Test.YtonoldjhfhngfaaDoorSyt
namespace Go.Proofs.YtonoldjhfhngfaaDoor
open Go.RowKit Go.Maps
set_option linter.unusedVariables false
def lnT (d : DSRow) : ByteArray := joinB ⟨#[32, 43, 32]⟩ (linW d.2.1 d.2.2.1 d.2.2.2)
def rwT (d : DSRow) : ByteArray := d.1 ++ ⟨#[32, 61, 32]⟩ ++ lnT d ++ ⟨#[10]⟩
def rowsT (l : List DSRow) (k : Nat) : ByteArray := (l.take k).foldl (fun a d => a ++ rwT d) ⟨#[]⟩
def syT (l : List DSRow) : ByteArray := if vSys l = true then rowsT l l.length else ⟨#[]⟩
theorem rowsT_zero {l : List DSRow} : rowsT l 0 = ⟨#[]⟩ := rfl
theorem rowsT_succ {l : List DSRow} {k : Nat} {d : DSRow} (h : l[k]? = some d) : rowsT l (k + 1) = rowsT l k ++ rwT d := by
  unfold rowsT; rw [List.take_add_one, h, List.foldl_append]; rfl
theorem vSys_len2 {l : List DSRow} (h : vSys l = true) : l.length ≤ 24 := by
  unfold vSys at h; simp only [Bool.and_eq_true, decide_eq_true_eq] at h; exact h.1
theorem vSys_row {l : List DSRow} {k : Nat} {d : DSRow} (h : vSys l = true) (hd : l[k]? = some d) : nameB d.1.data.toList = true ∧ vLin d.2.1 d.2.2.1 d.2.2.2 = true := by
  unfold vSys at h
  simp only [Bool.and_eq_true, List.all_eq_true, List.mem_range] at h
  have h2 := (h.2 k (List.getElem?_eq_some_iff.1 hd).1).1
  unfold rwB at h2
  rw [hd] at h2
  simp only [Bool.and_eq_true] at h2
  exact ⟨h2.1, h2.2.1⟩
theorem lnT_size {d : DSRow} (h : vLin d.2.1 d.2.2.1 d.2.2.2 = true) : (lnT d).size ≤ 767 := by
  have h2 := joinB_size ⟨#[32, 43, 32]⟩ (linW d.2.1 d.2.2.1 d.2.2.2) 56 (fun y hy => linW_small h y hy)
  have h3 := linW_len h
  have h4 : (⟨#[32, 43, 32]⟩ : ByteArray).size = 3 := rfl
  rw [h4] at h2
  unfold lnT
  have := Nat.mul_le_mul_right (3 + 56) h3
  omega
theorem name_size {s : ByteArray} (h : nameB s.data.toList = true) : s.size ≤ 12 := by
  unfold nameB at h
  simp only [Bool.and_eq_true, decide_eq_true_eq] at h
  have := h.1.1.2
  rw [len_eq] at this; exact this
theorem rwT_size {d : DSRow} (h : nameB d.1.data.toList = true) (h2 : vLin d.2.1 d.2.2.1 d.2.2.2 = true) : (rwT d).size ≤ 800 := by
  have a := name_size h
  have b := lnT_size h2
  have h3 : (⟨#[32, 61, 32]⟩ : ByteArray).size = 3 := rfl
  have h4 : (⟨#[10]⟩ : ByteArray).size = 1 := rfl
  unfold rwT
  simp only [ByteArray.size_append, h3, h4]
  omega
theorem rowsT_size {l : List DSRow} (h : vSys l = true) : ∀ k, k ≤ l.length → (rowsT l k).size ≤ k * 800
  | 0, _ => by rw [rowsT_zero]; exact Nat.zero_le _
  | k + 1, hk => by
    have hd : l[k]? = some l[k] := List.getElem?_eq_getElem hk
    obtain ⟨h1, h2⟩ := vSys_row h hd
    have a := rowsT_size h k (by omega)
    have b := rwT_size h1 h2
    rw [rowsT_succ hd, ByteArray.size_append]
    omega
theorem ret_t {a b : ByteArray} (h : a = b) : Ending.returned (.string a) = .returned (.string b) := by rw [h]
set_option maxRecDepth 100000 in
set_option maxHeartbeats 12800000 in
theorem specSystemText_any (A : Option Addr) (c : Nat) (l : List DSRow) (w : World) (h : totSystem l ≤ 1048576) (hok : okS l) (r : Row RvSRow 4 w w.heap.size A l) :
    Calls Tryd.prog 8 #[.agg #[.slice A l.length c]] w fun e w' => e = .returned (.string (syT l)) ∧ Below w.heap.size w w' := by
  have CV := Lib.hid (fun w1 (z1 : w.heap.size < w1.heap.size) s0 r => l05System_any l A c w.heap.size w1 h hok z1 s0 r)
  have HT := Lib.hid (show totRow totSRow l ≤ 1048576 from h)
  have HOK := Lib.hid hok
  clear h hok
  have HR := Lib.hid r
  clear r
  obtain ⟨n, hn⟩ : ∃ n, n = l.length := ⟨_, rfl⟩
  have HN := Lib.hid hn
  rcases hv : vSys l with _ | _
  case false =>
    rw [hv] at CV
    rw [show syT l = ⟨#[]⟩ by unfold syT; rw [hv]; rfl]
    rw [← hn] at CV ⊢
    clear hv hn
    go_enter Tryd.func8, Tryd.ntmps8
    go_wp2_with fail
    refine (CV.out _ (by simp) (by simp [go_sem]) ?_).mono ?_
    · exact (Row.alloc HR.out (Nat.le_refl _) _).more (by simp)
    rintro e w1 ⟨rfl, hb1⟩
    go_wp2_with fail
    go_ret
    exact ⟨rfl, by repeat' (first | with_reducible assumption | with_reducible exact Below.refl _ _ | (with_reducible refine Below.setCell ?_ ?_ _) | (with_reducible refine Below.alloc ?_ ?_ _) | (with_reducible refine Below.drew ?_) | (with_reducible refine below_dr ?_ _) | (with_reducible refine Below.trans ?_ (Below.mono (by with_reducible assumption) ?_)) | omega | (simp; done) | (simp; omega))⟩
  case true =>
    rw [hv] at CV
    have HV := Lib.hid hv
    have HE := Lib.hid (show rowsT l n = syT l by unfold syT; rw [hv, hn]; rfl)
    have hn24 : n ≤ 24 := by rw [hn]; exact vSys_len2 hv
    rw [← hn] at CV ⊢
    clear hv hn
    go_enter Tryd.func8, Tryd.ntmps8
    go_wp2_with fail
    refine (CV.out _ (by simp) (by simp [go_sem]) ?_).mono ?_
    · exact (Row.alloc HR.out (Nat.le_refl _) _).more (by simp)
    rintro e w1 ⟨rfl, hb1⟩
    have gw : Below w.heap.size w w1 := by repeat' (first | with_reducible assumption | with_reducible exact Below.refl _ _ | (with_reducible refine Below.setCell ?_ ?_ _) | (with_reducible refine Below.alloc ?_ ?_ _) | (with_reducible refine Below.drew ?_) | (with_reducible refine below_dr ?_ _) | (with_reducible refine Below.trans ?_ (Below.mono (by with_reducible assumption) ?_)) | omega | (simp; done) | (simp; omega))
    have z1 := hb1.size
    simp only [World.size_alloc] at z1
    have S0 : w1.cell? ⟨w.heap.size, 0, none⟩ = some (.slice A n c) := (hb1.cell (p := ⟨w.heap.size, 0, none⟩) (by simp)).trans (by simp [go_sem])
    clear hb1
    go_wp2_with fail
    go_loopw [3, 4] (fun s i wr => ∃ k : Nat, k ≤ n ∧ i = .int .i64 (k : Int) ∧ s = .string (rowsT l k) ∧ Below w1.heap.size w1 wr) (fun _ i _ => n - (intOf i).toNat)
    case atStart => exact ⟨0, Nat.zero_le _, rfl, rfl, Below.refl _ _⟩
    case round =>
      obtain ⟨k, hk, rfl, rfl, hbl⟩ := hrel
      have zr := hbl.size
      have s0r : wr.cell? ⟨w.heap.size, 0, none⟩ = some (.slice A n c) := (hbl.cell (p := ⟨w.heap.size, 0, none⟩) (by show w.heap.size < _; omega)).trans S0
      have hbw : Below w.heap.size w wr := gw.trans (hbl.mono (by omega))
      have hS := rowsT_size HV.out k (by rw [← HN.out]; exact hk)
      by_cases hlt : k < n
      case neg =>
        obtain rfl : k = n := by omega
        go_wp2_with fail
        go_ret
        exact ⟨ret_t HE.out, by repeat' (first | with_reducible assumption | with_reducible exact Below.refl _ _ | (with_reducible refine Below.setCell ?_ ?_ _) | (with_reducible refine Below.alloc ?_ ?_ _) | (with_reducible refine Below.drew ?_) | (with_reducible refine below_dr ?_ _) | (with_reducible refine Below.trans ?_ (Below.mono (by with_reducible assumption) ?_)) | omega | (simp; done) | (simp; omega))⟩
      case pos =>
        obtain ⟨⟨x0, x1, x2, x3l⟩, ha⟩ : ∃ a, l[k]? = some a := ⟨l[k]'(by have := HN.out; omega), List.getElem?_eq_getElem (by have := HN.out; omega)⟩
        obtain ⟨g, o, rowc, rfl, hg, hRc, hcc⟩ := (Row.carry (w' := wr) HR.out hbw (Nat.le_refl _)).elem ha
        obtain ⟨x3A, x3c, rfl, u_x3⟩ := hRc
        have c0 : wr.cell? ⟨g, o + k * 4, none⟩ = some (.string x0) := hcc 0 _ rfl
        have c1 : wr.cell? ⟨g, o + k * 4 + 1, none⟩ = some (.int .i64 x1) := hcc 1 _ rfl
        have c2 : wr.cell? ⟨g, o + k * 4 + 2, none⟩ = some (.int .i64 x2) := hcc 2 _ rfl
        have c3 : wr.cell? ⟨g, o + k * 4 + 3, none⟩ = some (.slice x3A x3l.length x3c) := hcc 3 _ rfl
        clear hcc
        have hki : (k : Int) < (n : Int) := by omega
        obtain ⟨hnm, hvl⟩ := vSys_row HV.out ha
        simp only at hnm hvl
        have hsn := name_size hnm
        have hsl := lnT_size (d := (x0, x1, x2, x3l)) hvl
        have HS := Lib.hid (rowsT_succ ha)
        have CT := Lib.hid (fun w at0 r => l05TextAt_any x1 x2 x3A x3c g (o + k * 4 + 1) x3l w hvl at0 r)
        have hgw : g < wr.heap.size := by omega
        have AO : AtO g (o + k * 4 + 1) (.int .i64 x1) (.int .i64 x2) (.slice x3A x3l.length x3c) wr := ⟨⟨c1, c2, c3⟩, hgw⟩
        have RT := Lib.hid (Rd.keep (Row.toRd u_x3) (fun p hp => rfl))
        clear u_x3 ha hnm hvl c1 c2 c3
        have HSE := Lib.hid (show rowsT l k ++ (x0 ++ ⟨#[32, 61, 32]⟩ ++ lnT (x0, x1, x2, x3l) ++ ⟨#[10]⟩) = rowsT l (k + 1) from HS.out.symm)
        have e9 : lnT (x0, x1, x2, x3l) = joinB ⟨#[32, 43, 32]⟩ (linW x1 x2 x3l) := rfl
        rw [← e9] at CT
        clear e9 HS
        generalize lnT (x0, x1, x2, x3l) = T at *
        generalize rowsT l k = S at *
        have f1 : (9223372036854775807 < x0.size + 3) = False := by simp only [eq_iff_iff, iff_false]; omega
        have f2 : (9223372036854775807 < x0.size + 3 + T.size) = False := by simp only [eq_iff_iff, iff_false]; omega
        have f3 : (9223372036854775807 < x0.size + 3 + T.size + 1) = False := by simp only [eq_iff_iff, iff_false]; omega
        have f4 : (9223372036854775807 < S.size + (x0.size + 3 + T.size + 1)) = False := by simp only [eq_iff_iff, iff_false]; omega
        have hbr : w.heap.size < wr.heap.size := by omega
        go_wp2_with fail
        go_region_held3 (fun w' => (∀ b o, b < wr.heap.size → w'.cell? ⟨b, o, none⟩ = wr.cell? ⟨b, o, none⟩) ∧ wr.heap.size ≤ w'.heap.size)
          (first | ((try dsimp only); exact ⟨fun b o h => (by (repeat (first | with_reducible exact rfl | (with_reducible refine (cell_drew_at _ _).trans ?_) | (with_reducible refine (cell_set_at _ _ (by first | omega | (simp; done) | (simp; omega))).trans ?_) | (with_reducible refine (cell_alloc_at _ _ (by first | omega | (simp; done) | (simp; omega))).trans ?_) | (with_reducible refine (hcwT b o (by first | omega | (simp; done) | (simp; omega))).trans ?_)))), (by first | omega | (simp; done) | (simp; omega))⟩) | fail)
          (first
            | (go_at_call 20; (with_reducible refine (CT.out _ ?_ ?_).mono ?_); (focus (repeat' (first | with_reducible assumption | (with_reducible refine AtO.drew ?_) | (with_reducible refine AtO.drewN ?_ _) | (with_reducible refine AtO.alloc ?_ _) | (with_reducible refine AtO.below ?_ (by with_reducible assumption))))); (focus (exact RT.out.more (by first | omega | (simp; done) | (simp; omega)))); rintro e wT ⟨rfl, hbwT⟩; obtain ⟨hcwT, hfwT⟩ := bcell hbwT; have hzwT := hbwT.size; (try simp only [World.size_drew] at hcwT hfwT hzwT)))
        all_goals
          go_wp2_with fail
          go_roundw
          case rel => exact ⟨k + 1, by omega, by go_num, by rw [← HSE.out], by repeat' (first | with_reducible assumption | with_reducible exact Below.refl _ _ | (with_reducible refine Below.setCell ?_ ?_ _) | (with_reducible refine Below.alloc ?_ ?_ _) | (with_reducible refine Below.drew ?_) | (with_reducible refine below_dr ?_ _) | (with_reducible refine Below.trans ?_ (Below.mono (by with_reducible assumption) ?_)) | omega | (simp; done) | (simp; omega))⟩
          case measure => simp [intOf]; omega
end Go.Proofs.YtonoldjhfhngfaaDoor
