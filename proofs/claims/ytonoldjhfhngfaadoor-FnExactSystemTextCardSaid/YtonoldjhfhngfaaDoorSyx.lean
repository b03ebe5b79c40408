/- Walks: the text of an expression, the reference's side, at a field of an element. -/
import Derived.Test.YtonoldjhfhngfaaDoorSyo
import Derived.Test.YtonoldjhfhngfaaDoorWTz
import Derived.Test.YtonoldjhfhngfaaDoorSyj
namespace Go.Proofs.YtonoldjhfhngfaaDoor
open Go.RowKit
set_option linter.unusedVariables false
section
variable {l : List ATerm} {n d : Int}
theorem vLin_tok (h : vLin n d l = true) {k : Nat} {a : ATerm} (ha : l[k]? = some a) : tOk a = true := by
  unfold vLin upTo at h
  simp only [Bool.and_eq_true, List.all_eq_true, List.mem_range] at h
  have hk : k < l.length := (List.getElem?_eq_some_iff.1 ha).1
  have hs := h.2.2 k hk
  unfold stepOk at hs
  rw [ha] at hs
  simp only [Bool.and_eq_true] at hs
  exact hs.1
theorem vLin_len (h : vLin n d l = true) : l.length ≤ 12 := by
  unfold vLin at h; simp only [Bool.and_eq_true, decide_eq_true_eq] at h; exact h.2.1
theorem vLin_const (h : vLin n d l = true) : validB n d = true := by
  unfold vLin at h; simp only [Bool.and_eq_true] at h; exact h.1
end
theorem tok_parts {a : ATerm} (h : tOk a = true) : validB a.2.1 a.2.2 = true ∧ a.1.size ≤ 12 := by
  unfold tOk nameB at h
  simp only [Bool.and_eq_true, decide_eq_true_eq] at h
  refine ⟨h.2.1, ?_⟩
  have := h.1.1.1.2
  rw [Lib.size_eq]; exact this
theorem vb_in {n d : Int} (h : validB n d = true) : (-9223372036854775808 ≤ n ∧ n ≤ 9223372036854775807) ∧ (-9223372036854775808 ≤ d ∧ d ≤ 9223372036854775807) := by
  have := validB_bounds h
  exact ⟨⟨by omega, by omega⟩, ⟨by omega, by omega⟩⟩
theorem fracB_sz {n d : Int} (h : validB n d = true) : (fracB n d).size ≤ 43 := by
  have := decB_size (vb_in h).1
  have := decB_size (vb_in h).2
  unfold fracB
  split
  · omega
  · simp only [size_app]
    have : (⟨#[47]⟩ : ByteArray).size = 1 := rfl
    omega
theorem app3 (a b c : ByteArray) : a ++ (b ++ c) = a ++ b ++ c := byt_ext (by simp)
def tmT (a : ATerm) : ByteArray := fracB a.2.1 a.2.2 ++ ⟨#[42]⟩ ++ a.1
theorem tmT_size {a : ATerm} (h : tOk a = true) : (tmT a).size ≤ 56 := by
  obtain ⟨h1, h2⟩ := tok_parts h
  have := fracB_sz h1
  unfold tmT
  simp only [size_app]
  have : (⟨#[42]⟩ : ByteArray).size = 1 := rfl
  omega
def jl (l : List ATerm) (k : Nat) : ByteArray := joinB ⟨#[32, 43, 32]⟩ ((l.take k).map tmT)
theorem jl_next {l : List ATerm} {k : Nat} {a : ATerm} (hk : 0 < k) (h : l[k]? = some a) : jl l (k + 1) = jl l k ++ ⟨#[32, 43, 32]⟩ ++ tmT a := by
  unfold jl
  rw [List.take_add_one, h, List.map_append]
  refine joinB_snoc _ ?_ _
  have := (List.getElem?_eq_some_iff.1 h).1
  rw [List.length_map, List.length_take]; omega
theorem jl_first {l : List ATerm} {a : ATerm} (h : l[0]? = some a) : jl l (0 + 1) = tmT a := by
  unfold jl; rw [List.take_add_one, h]; rfl
theorem jl_size {l : List ATerm} {n d : Int} {k : Nat} (h : vLin n d l = true) : (jl l k).size ≤ 708 := by
  have h2 := joinB_size ⟨#[32, 43, 32]⟩ ((l.take k).map tmT) 56 (fun y hy => by
    obtain ⟨a, ha, rfl⟩ := List.mem_map.1 hy
    obtain ⟨i, hi⟩ := List.mem_iff_getElem?.1 (List.mem_of_mem_take ha)
    exact tmT_size (vLin_tok h hi))
  have h3 : ((l.take k).map tmT).length ≤ 12 := by have := vLin_len h; rw [List.length_map, List.length_take]; omega
  have h4 : (⟨#[32, 43, 32]⟩ : ByteArray).size = 3 := rfl
  rw [h4] at h2
  unfold jl
  have := Nat.mul_le_mul_right (3 + 56) h3
  omega
def linW (n d : Int) (l : List ATerm) : List ByteArray := l.map tmT ++ (if n = 0 ∧ ¬ l = [] then [] else [fracB n d])
def linT (n d : Int) (l : List ATerm) : ByteArray := if vLin n d l = true then joinB ⟨#[32, 43, 32]⟩ (linW n d l) else ⟨#[]⟩
theorem linT_t {n d : Int} {l : List ATerm} (h : vLin n d l = true) : linT n d l = joinB ⟨#[32, 43, 32]⟩ (linW n d l) := by unfold linT; rw [if_pos h]
theorem linT_f {n d : Int} {l : List ATerm} (h : vLin n d l = false) : linT n d l = ⟨#[]⟩ := by unfold linT; rw [h]; rfl
theorem lin_none (n d : Int) : joinB ⟨#[32, 43, 32]⟩ (linW n d []) = fracB n d := by unfold linW; rw [if_neg (by simp)]; rfl
theorem lin_zero {d : Int} {l : List ATerm} (h : ¬ l = []) : joinB ⟨#[32, 43, 32]⟩ (linW 0 d l) = jl l l.length := by
  unfold linW jl; rw [if_pos ⟨rfl, h⟩, List.append_nil, List.take_length]
theorem lin_more {n d : Int} {l : List ATerm} (h : ¬ l = []) (hn : ¬ n = 0) : joinB ⟨#[32, 43, 32]⟩ (linW n d l) = jl l l.length ++ (⟨#[32, 43, 32]⟩ ++ fracB n d) := by
  unfold linW jl
  rw [if_neg (fun e => hn e.1), joinB_snoc _ (by rw [List.length_map]; exact List.length_pos_iff.2 h), List.take_length, app3]
set_option maxRecDepth 100000 in
set_option maxHeartbeats 6400000 in
theorem l05TextAt_any (n d : Int) (A : Option Addr) (c b p : Nat) (l : List ATerm) (w : World) (hv : vLin n d l = true) (at0 : AtO b p (.int .i64 n) (.int .i64 d) (.slice A l.length c) w) (r : Rd cTerm 3 w w.heap.size A l) :
    Calls Tryd.prog 20 #[.pointer (some ⟨b, p, none⟩)] w fun e w' => e = .returned (.string (joinB ⟨#[32, 43, 32]⟩ (linW n d l))) ∧ Below w.heap.size w w' := by
  have HV := Lib.hid hv
  have hc := vLin_const hv
  have hlen := vLin_len hv
  have CK := Lib.hid (fun w => l02Text_any n d w (vb_in hc).1 (vb_in hc).2)
  have hF := fracB_sz hc
  clear hv hc
  obtain ⟨T, hT⟩ : ∃ T, T = joinB ⟨#[32, 43, 32]⟩ (linW n d l) := ⟨_, rfl⟩
  rw [← hT]
  have HT := Lib.hid hT
  clear hT
  obtain ⟨m, hm⟩ : ∃ m, m = l.length := ⟨_, rfl⟩
  rw [← hm] at at0 hlen
  have HM := Lib.hid hm
  clear hm
  have lb := at0.lt
  go_enter Tryd.func20, Tryd.ntmps20
  go_wp2_with fail
  go_loopw [3, 4] (fun s i wr => ∃ k : Nat, k ≤ m ∧ i = .int .i64 (k : Int) ∧ s = .string (jl l k) ∧ AtO b p (.int .i64 n) (.int .i64 d) (.slice A m c) wr ∧ Below w.heap.size w wr) (fun _ i _ => m - (intOf i).toNat)
  case atStart => exact ⟨0, Nat.zero_le _, rfl, rfl, at0, by repeat' (first | with_reducible assumption | with_reducible exact Below.refl _ _ | (with_reducible refine Below.setCell ?_ ?_ _) | (with_reducible refine Below.alloc ?_ ?_ _) | (with_reducible refine Below.drew ?_) | (with_reducible refine below_dr ?_ _) | (with_reducible refine Below.trans ?_ (Below.mono (by with_reducible assumption) ?_)) | omega | (simp; done) | (simp; omega))⟩
  case round =>
    clear at0 lb
    obtain ⟨k, hk, rfl, rfl, at1, hbl⟩ := hrel
    have zr := hbl.size
    have lb := at1.lt
    have k2 := at1.c2
    have hS := jl_size (k := k) HV.out
    by_cases hlt : k < m
    case pos =>
      obtain ⟨⟨x0, x1, x2⟩, ha⟩ : ∃ a, l[k]? = some a := ⟨l[k]'(by have := HM.out; omega), List.getElem?_eq_getElem (by have := HM.out; omega)⟩
      have htk := vLin_tok HV.out ha
      obtain ⟨hvb, hnm⟩ := tok_parts htk
      have CT := Lib.hid (fun w => l02Text_any x1 x2 w (vb_in hvb).1 (vb_in hvb).2)
      have ht := fracB_sz hvb
      obtain ⟨g, o, rfl, hg, hc⟩ := (r.below hbl).elem ha
      have c0 : wr.cell? ⟨g, o + k * 3, none⟩ = some (.string x0) := hc 0 _ rfl
      have c1 : wr.cell? ⟨g, o + k * 3 + 1, none⟩ = some (.int .i64 x1) := hc 1 _ rfl
      have c2 : wr.cell? ⟨g, o + k * 3 + 2, none⟩ = some (.int .i64 x2) := hc 2 _ rfl
      have hgw : g < wr.heap.size := by omega
      have hki : (k : Int) < (m : Int) := by omega
      clear hc htk hvb CK hF
      dsimp only at hnm ht
      by_cases hk0 : k = 0
      · subst hk0
        have HS := Lib.hid (show fracB x1 x2 ++ ⟨#[42]⟩ ++ x0 = jl l (0 + 1) from (jl_first ha).symm)
        clear ha hS
        simp only [Nat.zero_mul, Nat.add_zero] at c0 c1 c2
        rw [show jl l 0 = ⟨#[]⟩ from rfl]
        generalize fracB x1 x2 = u at CT ht HS
        have f1 : (9223372036854775807 < u.size + 1) = False := by simp only [eq_iff_iff, iff_false]; omega
        have f2 : (9223372036854775807 < u.size + 1 + x0.size) = False := by simp only [eq_iff_iff, iff_false]; omega
        go_wp2_with fail
        go_region_held3 (fun w' => (∀ b o, b < wr.heap.size → w'.cell? ⟨b, o, none⟩ = wr.cell? ⟨b, o, none⟩) ∧ wr.heap.size ≤ w'.heap.size)
          (first | ((try dsimp only); exact ⟨fun b o h => (by (repeat (first | with_reducible exact rfl | (with_reducible refine (cell_drew_at _ _).trans ?_) | (with_reducible refine (cell_set_at _ _ (by first | omega | (simp; done) | (simp; omega))).trans ?_) | (with_reducible refine (cell_alloc_at _ _ (by first | omega | (simp; done) | (simp; omega))).trans ?_) | (with_reducible refine (hcwT b o (by first | omega | (simp; done) | (simp; omega))).trans ?_)))), (by first | omega | (simp; done) | (simp; omega))⟩) | fail)
          (first
            | (go_at_call 38; (with_reducible refine (CT.out _).mono ?_); rintro e wT ⟨rfl, hbwT⟩; obtain ⟨hcwT, hfwT⟩ := bcell hbwT; have hzwT := hbwT.size; (try simp only [World.size_drew] at hcwT hfwT hzwT); (try simp only [World.size_alloc] at hcwT hfwT hzwT)))
        all_goals
          have at3 : AtO b p (.int .i64 n) (.int .i64 d) (.slice (some ⟨g, o, none⟩) m c) wT := by repeat' (first | with_reducible assumption | (with_reducible refine AtO.below ?_ (by with_reducible assumption)) | (with_reducible refine AtO.drew ?_) | (with_reducible refine AtO.alloc ?_ _))
          go_wp2_with fail
          go_roundw
          case rel => exact ⟨0 + 1, by omega, by go_num, by (rw [← HS.out] <;> first | rfl | (congr 1; first | rfl | (apply byt_ext; simp))), by first | exact at3 | exact at3.drew, by repeat' (first | with_reducible assumption | with_reducible exact Below.refl _ _ | (with_reducible refine Below.setCell ?_ ?_ _) | (with_reducible refine Below.alloc ?_ ?_ _) | (with_reducible refine Below.drew ?_) | (with_reducible refine below_dr ?_ _) | (with_reducible refine Below.trans ?_ (Below.mono (by with_reducible assumption) ?_)) | omega | (simp; done) | (simp; omega))⟩
          case measure => first | (simp [intOf]; done) | (simp [intOf]; omega)
      · have hk1 : 0 < k := by omega
        have hkp : (0 : Int) < (k : Int) := by omega
        have HS := Lib.hid (show jl l k ++ ⟨#[32, 43, 32]⟩ ++ (fracB x1 x2 ++ ⟨#[42]⟩ ++ x0) = jl l (k + 1) from (jl_next hk1 ha).symm)
        clear ha
        generalize fracB x1 x2 = u at CT ht HS
        generalize jl l k = S at HS hS ⊢
        have f1 : (9223372036854775807 < u.size + 1) = False := by simp only [eq_iff_iff, iff_false]; omega
        have f2 : (9223372036854775807 < u.size + 1 + x0.size) = False := by simp only [eq_iff_iff, iff_false]; omega
        have f3 : (9223372036854775807 < S.size + 3) = False := by simp only [eq_iff_iff, iff_false]; omega
        have f4 : (9223372036854775807 < S.size + 3 + (u.size + 1 + x0.size)) = False := by simp only [eq_iff_iff, iff_false]; omega
        go_wp2_with fail
        go_region_held3 (fun w' => (∀ b o, b < wr.heap.size → w'.cell? ⟨b, o, none⟩ = wr.cell? ⟨b, o, none⟩) ∧ wr.heap.size ≤ w'.heap.size)
          (first | ((try dsimp only); exact ⟨fun b o h => (by (repeat (first | with_reducible exact rfl | (with_reducible refine (cell_drew_at _ _).trans ?_) | (with_reducible refine (cell_set_at _ _ (by first | omega | (simp; done) | (simp; omega))).trans ?_) | (with_reducible refine (cell_alloc_at _ _ (by first | omega | (simp; done) | (simp; omega))).trans ?_) | (with_reducible refine (hcwT b o (by first | omega | (simp; done) | (simp; omega))).trans ?_)))), (by first | omega | (simp; done) | (simp; omega))⟩) | fail)
          (first
            | (go_at_call 38; (with_reducible refine (CT.out _).mono ?_); rintro e wT ⟨rfl, hbwT⟩; obtain ⟨hcwT, hfwT⟩ := bcell hbwT; have hzwT := hbwT.size; (try simp only [World.size_drew] at hcwT hfwT hzwT); (try simp only [World.size_alloc] at hcwT hfwT hzwT)))
        all_goals
          have at3 : AtO b p (.int .i64 n) (.int .i64 d) (.slice (some ⟨g, o, none⟩) m c) wT := by repeat' (first | with_reducible assumption | (with_reducible refine AtO.below ?_ (by with_reducible assumption)) | (with_reducible refine AtO.drew ?_) | (with_reducible refine AtO.alloc ?_ _))
          go_wp2_with fail
          go_roundw
          case rel => exact ⟨k + 1, by omega, by go_num, by (rw [← HS.out] <;> first | rfl | (congr 1; first | rfl | (apply byt_ext; simp))), by first | exact at3 | exact at3.drew, by repeat' (first | with_reducible assumption | with_reducible exact Below.refl _ _ | (with_reducible refine Below.setCell ?_ ?_ _) | (with_reducible refine Below.alloc ?_ ?_ _) | (with_reducible refine Below.drew ?_) | (with_reducible refine below_dr ?_ _) | (with_reducible refine Below.trans ?_ (Below.mono (by with_reducible assumption) ?_)) | omega | (simp; done) | (simp; omega))⟩
          case measure => first | (simp [intOf]; done) | (simp [intOf]; omega)
    case neg =>
      obtain rfl : m = k := by omega
      have hki : ¬ ((m : Int) < (m : Int)) := by omega
      have k0 := at1.c0
      have k1 := at1.c1
      clear r
      by_cases hm0 : m = 0
      · have HE := Lib.hid (show fracB n d = T from by have hl : l = [] := List.eq_nil_of_length_eq_zero (by rw [← HM.out]; exact hm0); rw [HT.out, hl, lin_none])
        clear hS
        subst hm0
        generalize fracB n d = F at CK HE hF
        go_wp2_with fail
        refine (CK.out _).mono ?_
        rintro e w2 ⟨rfl, hb2⟩
        go_wp2_with fail
        go_ret
        exact ⟨by rw [← HE.out]; rfl, by repeat' (first | with_reducible assumption | with_reducible exact Below.refl _ _ | (with_reducible refine Below.setCell ?_ ?_ _) | (with_reducible refine Below.alloc ?_ ?_ _) | (with_reducible refine Below.drew ?_) | (with_reducible refine below_dr ?_ _) | (with_reducible refine Below.trans ?_ (Below.mono (by with_reducible assumption) ?_)) | omega | (simp; done) | (simp; omega))⟩
      · have hne : ¬ l = [] := by intro e; have := HM.out; rw [e] at this; exact hm0 this
        have hmi : ((m : Int) == 0) = false := by simp; omega
        have hmi2 : ¬ (m : Int) = 0 := by omega
        by_cases hn0 : n = 0
        · subst hn0
          have HE := Lib.hid (show jl l m = T from by rw [HT.out, lin_zero hne, HM.out])
          generalize jl l m = S at HE ⊢
          clear hS hne
          go_wp2_with fail
          go_ret
          exact ⟨by rw [← HE.out]; rfl, hbl⟩
        · have HE := Lib.hid (show jl l m ++ (⟨#[32, 43, 32]⟩ ++ fracB n d) = T from by rw [HT.out, lin_more hne hn0, HM.out])
          have e_n : (n != 0) = true := by simpa using hn0
          generalize jl l m = S at HE hS ⊢
          generalize fracB n d = F at CK HE hF
          have f1 : (9223372036854775807 < 3 + F.size) = False := by simp only [eq_iff_iff, iff_false]; omega
          have f2 : (9223372036854775807 < S.size + (3 + F.size)) = False := by simp only [eq_iff_iff, iff_false]; omega
          clear hne
          go_wp2_with fail
          refine (CK.out _).mono ?_
          rintro e w2 ⟨rfl, hb2⟩
          go_wp2_with fail
          go_ret
          exact ⟨by rw [← HE.out]; rfl, by repeat' (first | with_reducible assumption | with_reducible exact Below.refl _ _ | (with_reducible refine Below.setCell ?_ ?_ _) | (with_reducible refine Below.alloc ?_ ?_ _) | (with_reducible refine Below.drew ?_) | (with_reducible refine below_dr ?_ _) | (with_reducible refine Below.trans ?_ (Below.mono (by with_reducible assumption) ?_)) | omega | (simp; done) | (simp; omega))⟩
end Go.Proofs.YtonoldjhfhngfaaDoor
