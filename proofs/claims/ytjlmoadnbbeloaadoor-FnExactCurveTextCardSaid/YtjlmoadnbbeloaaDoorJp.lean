/- Walks: the text of a curve, the reference's side. -/
import Derived.Test.YtjlmoadnbbeloaaDoorJb
import Derived.Test.YtjlmoadnbbeloaaDoorJs
import Derived.Test.YtjlmoadnbbeloaaDoorKxa
namespace Go.Proofs.YtjlmoadnbbeloaaDoor
open Go.RowKit
set_option linter.unusedVariables false
def wordC (cl : Bool) : ByteArray := if cl = true then ⟨#[99, 108, 111, 115, 101, 100]⟩ else ⟨#[111, 112, 101, 110]⟩
def firstW : ByteArray := ⟨#[102, 105, 114, 115, 116]⟩
def lastW : ByteArray := ⟨#[108, 97, 115, 116]⟩
def pT (a : APt) : ByteArray := ptT a.1 a.2
/-- The words ahead of knot k. -/
def cwK (l : List APt) (cl : Bool) (t : Int) (k : Nat) : List ByteArray := [wordC cl, decB t] ++ (l.take k).map pT
def endW (f : Bool) (wd : ByteArray) (x y : Int) : List ByteArray := if f = true then [wd, ptT x y] else []
def curW (l : List APt) (cl : Bool) (t : Int) (ff fl : Bool) (fx fy lx ly : Int) : List ByteArray := cwK l cl t l.length ++ endW ff firstW fx fy ++ endW fl lastW lx ly
def curT (l : List APt) (cl : Bool) (t : Int) (ff fl : Bool) (fx fy lx ly : Int) : ByteArray := if vCur l cl t ff fl fx fy lx ly = true then joinB ⟨#[32]⟩ (curW l cl t ff fl fx fy lx ly) else ⟨#[]⟩
theorem curT_t {l : List APt} {cl : Bool} {t : Int} {ff fl : Bool} {fx fy lx ly : Int} (h : vCur l cl t ff fl fx fy lx ly = true) : curT l cl t ff fl fx fy lx ly = joinB ⟨#[32]⟩ (curW l cl t ff fl fx fy lx ly) := by unfold curT; rw [if_pos h]
theorem curT_f {l : List APt} {cl : Bool} {t : Int} {ff fl : Bool} {fx fy lx ly : Int} (h : vCur l cl t ff fl fx fy lx ly = false) : curT l cl t ff fl fx fy lx ly = ⟨#[]⟩ := by unfold curT; rw [h]; rfl
theorem app3 (a b c : ByteArray) : a ++ (b ++ c) = a ++ b ++ c := byt_ext (by simp)
theorem cwK_step {l : List APt} {cl : Bool} {t : Int} {k : Nat} {a : APt} (h : l[k]? = some a) : cwK l cl t (k + 1) = cwK l cl t k ++ [pT a] := by
  unfold cwK; rw [List.take_add_one, h, List.map_append, List.append_assoc]; rfl
theorem cwK_join {l : List APt} {cl : Bool} {t : Int} {k : Nat} {a : APt} (h : l[k]? = some a) : joinB ⟨#[32]⟩ (cwK l cl t k) ++ (⟨#[32]⟩ ++ pT a) = joinB ⟨#[32]⟩ (cwK l cl t (k + 1)) := by
  rw [cwK_step h, joinB_snoc _ (by simp [cwK]), app3]
theorem cur_end {S F wd t : ByteArray} {ws : List ByteArray} (h0 : 0 < ws.length) (hS : S = joinB ⟨#[32]⟩ ws) (hF : F = ⟨#[32]⟩ ++ wd ++ ⟨#[32]⟩) : S ++ (F ++ t) = joinB ⟨#[32]⟩ (ws ++ [wd, t]) := by
  rw [show ws ++ [wd, t] = (ws ++ [wd]) ++ [t] by simp, joinB_snoc _ (by simp), joinB_snoc _ h0, hS, hF]
  exact byt_ext (by simp)
theorem ptT_size {x y : Int} (hx : (-9223372036854775808 ≤ x ∧ x ≤ 9223372036854775807)) (hy : (-9223372036854775808 ≤ y ∧ y ≤ 9223372036854775807)) : (ptT x y).size ≤ 43 := by
  unfold ptT
  split
  · exact ptB_size hx hy
  · exact Nat.zero_le _
theorem okB_in {x y : Int} (h : okB x y = true) : (-9223372036854775808 ≤ x ∧ x ≤ 9223372036854775807) ∧ (-9223372036854775808 ≤ y ∧ y ≤ 9223372036854775807) := by
  have := okB_bounds h
  exact ⟨⟨by omega, by omega⟩, ⟨by omega, by omega⟩⟩
theorem cwK_small {l : List APt} {cl : Bool} {t : Int} {k : Nat} (ht : (-9223372036854775808 ≤ t ∧ t ≤ 9223372036854775807)) (hp : ptsUp l l.length = true) : ∀ y, y ∈ cwK l cl t k → y.size ≤ 43 := by
  intro y hy
  unfold cwK at hy
  rcases List.mem_append.1 hy with hy | hy
  · simp only [List.mem_cons, List.not_mem_nil, or_false] at hy
    rcases hy with rfl | rfl
    · cases cl <;> exact (by decide)
    · have := decB_size ht; omega
  · obtain ⟨⟨x, y⟩, ha, rfl⟩ := List.mem_map.1 hy
    obtain ⟨i, hi⟩ := List.mem_iff_getElem?.1 (List.mem_of_mem_take ha)
    have h2 := okB_in (pts_all hp hi)
    exact ptT_size h2.1 h2.2
theorem cwK_len {l : List APt} {cl : Bool} {t : Int} {k : Nat} (hk : k ≤ l.length) : (cwK l cl t k).length = 2 + k := by
  unfold cwK; simp; omega
theorem curW_small {l : List APt} {cl : Bool} {t : Int} {ff fl : Bool} {fx fy lx ly : Int} (ht : (-9223372036854775808 ≤ t ∧ t ≤ 9223372036854775807)) (hp : ptsUp l l.length = true) (h1 : okB fx fy = true) (h2 : okB lx ly = true) : ∀ y, y ∈ curW l cl t ff fl fx fy lx ly → y.size ≤ 43 := by
  have key : ∀ (f : Bool) (wd : ByteArray) (x y : Int), wd.size ≤ 43 → okB x y = true → ∀ u, u ∈ endW f wd x y → u.size ≤ 43 := by
    intro f wd x y hw h u hu
    unfold endW at hu
    split at hu
    · simp only [List.mem_cons, List.not_mem_nil, or_false] at hu
      rcases hu with rfl | rfl
      · exact hw
      · exact ptT_size (okB_in h).1 (okB_in h).2
    · cases hu
  intro y hy
  unfold curW at hy
  rcases List.mem_append.1 hy with hy | hy
  · rcases List.mem_append.1 hy with hy | hy
    · exact cwK_small ht hp y hy
    · exact key ff _ _ _ (by decide) h1 y hy
  · exact key fl _ _ _ (by decide) h2 y hy
theorem curW_len {l : List APt} {cl : Bool} {t : Int} {ff fl : Bool} {fx fy lx ly : Int} : (curW l cl t ff fl fx fy lx ly).length ≤ 6 + l.length := by
  unfold curW
  rw [List.length_append, List.length_append, cwK_len (Nat.le_refl _)]
  unfold endW
  cases ff <;> cases fl <;> simp <;> omega
set_option maxRecDepth 100000 in
set_option maxHeartbeats 6400000 in
theorem l06Text_false (l : List APt) (A : Option Addr) (c : Nat) (t : Int) (ff fl : Bool) (fx fy lx ly : Int) (b : Nat) (w : World) (hv : vCur l false t ff fl fx fy lx ly = true) (at0 : AtL b [.slice A l.length c, .bool false, .int .i64 t, .bool ff, .bool fl, .int .i64 fx, .int .i64 fy, .int .i64 lx, .int .i64 ly] w) (r : Rd cPt 2 w w.heap.size A l) :
    Calls Tryd.prog 46 #[.pointer (some ⟨b, 0, none⟩)] w fun e w' => e = .returned (.string (joinB ⟨#[32]⟩ (curW l false t ff fl fx fy lx ly))) ∧ Below w.heap.size w w' := by
  obtain ⟨hq1, hq2, hq3, hq4, hq5, hq6, _⟩ := vC_parts hv
  have hlen := len_yes hq1
  have hten : 3 ≤ t ∧ t ≤ 12 := by simpa [tenB] using hq3
  have hti : -9223372036854775808 ≤ t ∧ t ≤ 9223372036854775807 := ⟨by omega, by omega⟩
  have hef := endB_ok hq5
  have hel := endB_ok hq6
  have HP := Lib.hid hq2
  have HT := Lib.hid hti
  have CD := Lib.hid (show ∀ w, Calls Tryd.prog 80 #[.int .i64 t] w (fun e w' => e = .returned (.string (decB t)) ∧ Below w.heap.size w w') from fun w => l01Dec_any t w hti.1 hti.2)
  have CF := Lib.hid (fun w => specPtText_any fx fy w (okB_in hef).1 (okB_in hef).2)
  have CL := Lib.hid (fun w => specPtText_any lx ly w (okB_in hel).1 (okB_in hel).2)
  have hsf : (ptT fx fy).size ≤ 43 := ptT_size (okB_in hef).1 (okB_in hef).2
  have hsl : (ptT lx ly).size ≤ 43 := ptT_size (okB_in hel).1 (okB_in hel).2
  have hsd := decB_size hti
  clear hv hq1 hq2 hq3 hq4 hq5 hq6 hten hef hel hti
  obtain ⟨W, hW⟩ : ∃ W : Bool → Bool → List ByteArray, W = fun ff fl => curW l false t ff fl fx fy lx ly := ⟨_, rfl⟩
  have HW := Lib.hid hW
  rw [show curW l false t ff fl fx fy lx ly = W ff fl from by rw [hW]]
  clear hW
  have HSTART := Lib.hid (show (⟨#[111, 112, 101, 110, 32]⟩ : ByteArray) ++ decB t = joinB ⟨#[32]⟩ (cwK l false t 0) from byt_ext (by simp [joinB, joinF, cwK, wordC]))
  obtain ⟨n, hn⟩ : ∃ n, n = l.length := ⟨_, rfl⟩
  rw [← hn] at at0 hlen
  have HN := Lib.hid hn
  clear hn
  generalize decB t = d at CD hsd HSTART
  have f0 : (9223372036854775807 < 5 + d.size) = False := by simp only [eq_iff_iff, iff_false]; omega
  have k1 := at0.cell 1 rfl
  have k2 := at0.cell 2 rfl
  have lb := at0.lt
  go_enter Tryd.func46, Tryd.ntmps46
  go_wp2_with fail
  refine (CD.out _).mono ?_
  rintro e w1 ⟨rfl, hb1⟩
  have at1 := at0.below hb1
  have g1 : Below w.heap.size w w1 := by repeat' (first | with_reducible assumption | with_reducible exact Below.refl _ _ | (with_reducible refine Below.setCell ?_ ?_ _) | (with_reducible refine Below.alloc ?_ ?_ _) | (with_reducible refine Below.drew ?_) | (with_reducible refine below_dr ?_ _) | (with_reducible refine Below.trans ?_ (Below.mono (by with_reducible assumption) ?_)) | omega | (simp; done) | (simp; omega))
  clear hb1 k1 k2 lb at0 CD
  go_wp2_with fail
  go_loopw [3, 4] (fun s i wr => ∃ k : Nat, k ≤ n ∧ i = .int .i64 (k : Int) ∧ s = .string (joinB ⟨#[32]⟩ (cwK l false t k)) ∧ AtL b [.slice A n c, .bool false, .int .i64 t, .bool ff, .bool fl, .int .i64 fx, .int .i64 fy, .int .i64 lx, .int .i64 ly] wr ∧ Below w.heap.size w wr) (fun _ i _ => n - (intOf i).toNat)
  case atStart => exact ⟨0, Nat.zero_le _, rfl, by rw [HSTART.out], at1, g1⟩
  case round =>
    clear at1 g1 hsd f0 HSTART
    obtain ⟨k, hk, rfl, rfl, at2, hbl⟩ := hrel
    have k0 := at2.cell 0 rfl
    have lb := at2.lt
    have hz := hbl.size
    have hs := joinB_size ⟨#[32]⟩ (cwK l false t k) 43 (cwK_small HT.out HP.out)
    rw [cwK_len (by have := HN.out; omega), show (⟨#[32]⟩ : ByteArray).size = 1 from rfl] at hs
    by_cases hlt : k < n
    case pos =>
      obtain ⟨⟨x, y⟩, ha⟩ : ∃ a, l[k]? = some a := ⟨l[k]'(by have := HN.out; omega), List.getElem?_eq_getElem (by have := HN.out; omega)⟩
      have hxy := okB_in (pts_all HP.out ha)
      have CT := Lib.hid (fun w => specPtText_any x y w hxy.1 hxy.2)
      have ht : (ptT x y).size ≤ 43 := ptT_size hxy.1 hxy.2
      obtain ⟨g, o, rfl, hg, hc⟩ := (r.below hbl).elem ha
      have c0 : wr.cell? ⟨g, o + k * 2, none⟩ = some (.int .i64 x) := hc 0 _ rfl
      have c1 : wr.cell? ⟨g, o + k * 2 + 1, none⟩ = some (.int .i64 y) := hc 1 _ rfl
      have hgw : g < wr.heap.size := by omega
      have hki : (k : Int) < (n : Int) := by omega
      have HS := Lib.hid (show joinB ⟨#[32]⟩ (cwK l false t k) ++ (⟨#[32]⟩ ++ ptT x y) = joinB ⟨#[32]⟩ (cwK l false t (k + 1)) from cwK_join ha)
      clear hc ha hxy r CF CL hsf hsl
      generalize ptT x y = u at CT ht HS
      generalize joinB ⟨#[32]⟩ (cwK l false t k) = S at hs HS ⊢
      have f1 : (9223372036854775807 < 1 + u.size) = False := by simp only [eq_iff_iff, iff_false]; omega
      have f2 : (9223372036854775807 < S.size + (1 + u.size)) = False := by simp only [eq_iff_iff, iff_false]; omega
      go_wp2_with fail
      refine (CT.out _).mono ?_
      rintro e w2 ⟨rfl, hb2⟩
      have at3 : AtL b [.slice (some ⟨g, o, none⟩) n c, .bool false, .int .i64 t, .bool ff, .bool fl, .int .i64 fx, .int .i64 fy, .int .i64 lx, .int .i64 ly] w2 := by repeat' (first | with_reducible assumption | (with_reducible refine AtL.below ?_ (by with_reducible assumption)) | (with_reducible refine AtL.drew ?_) | (with_reducible refine AtL.alloc ?_ _))
      go_wp2_with fail
      go_roundw
      case rel => exact ⟨k + 1, by omega, by go_num, by rw [HS.out], at3, by repeat' (first | with_reducible assumption | with_reducible exact Below.refl _ _ | (with_reducible refine Below.setCell ?_ ?_ _) | (with_reducible refine Below.alloc ?_ ?_ _) | (with_reducible refine Below.drew ?_) | (with_reducible refine below_dr ?_ _) | (with_reducible refine Below.trans ?_ (Below.mono (by with_reducible assumption) ?_)) | omega | (simp; done) | (simp; omega))⟩
      case measure => first | (simp [intOf]; done) | (simp [intOf]; omega)
    case neg =>
      obtain rfl : n = k := by omega
      have hws : 0 < (cwK l false t n).length := by rw [cwK_len (by have := HN.out; omega)]; omega
      obtain ⟨S, hS⟩ : ∃ S, S = joinB ⟨#[32]⟩ (cwK l false t n) := ⟨_, rfl⟩
      rw [← hS] at hs ⊢
      have HEff := Lib.hid (show S = joinB ⟨#[32]⟩ (W false false) from by rw [HW.out]; show _ = joinB _ (curW _ _ _ _ _ _ _ _ _); unfold curW; rw [← HN.out]; rw [hS]; simp [endW])
      have HEtf := Lib.hid (show S ++ (⟨#[32, 102, 105, 114, 115, 116, 32]⟩ ++ ptT fx fy) = joinB ⟨#[32]⟩ (W true false) from by rw [HW.out]; show _ = joinB _ (curW _ _ _ _ _ _ _ _ _); unfold curW; rw [← HN.out]; rw [cur_end (wd := firstW) hws hS (by decide)]; simp [endW])
      have HEft := Lib.hid (show S ++ (⟨#[32, 108, 97, 115, 116, 32]⟩ ++ ptT lx ly) = joinB ⟨#[32]⟩ (W false true) from by rw [HW.out]; show _ = joinB _ (curW _ _ _ _ _ _ _ _ _); unfold curW; rw [← HN.out]; rw [cur_end (wd := lastW) hws hS (by decide)]; simp [endW])
      have HEtt := Lib.hid (show S ++ (⟨#[32, 102, 105, 114, 115, 116, 32]⟩ ++ ptT fx fy) ++ (⟨#[32, 108, 97, 115, 116, 32]⟩ ++ ptT lx ly) = joinB ⟨#[32]⟩ (W true true) from by rw [HW.out]; show _ = joinB _ (curW _ _ _ _ _ _ _ _ _); unfold curW; rw [← HN.out]; rw [cur_end (wd := lastW) (by simp) (cur_end (wd := firstW) hws hS (by decide)) (by decide)]; simp [endW])
      clear hS hws HW r
      generalize ptT fx fy = u at *
      generalize ptT lx ly = v at *
      have f1 : (9223372036854775807 < 7 + u.size) = False := by simp only [eq_iff_iff, iff_false]; omega
      have f2 : (9223372036854775807 < S.size + (7 + u.size)) = False := by simp only [eq_iff_iff, iff_false]; omega
      have f3 : (9223372036854775807 < 6 + v.size) = False := by simp only [eq_iff_iff, iff_false]; omega
      have f4 : (9223372036854775807 < S.size + (6 + v.size)) = False := by simp only [eq_iff_iff, iff_false]; omega
      have f5 : (9223372036854775807 < S.size + (7 + u.size) + (6 + v.size)) = False := by simp only [eq_iff_iff, iff_false]; omega
      have hki : ¬ ((n : Int) < (n : Int)) := by omega
      have k3 := at2.cell 3 rfl
      have k4 := at2.cell 4 rfl
      have k5 := at2.cell 5 rfl
      have k6 := at2.cell 6 rfl
      have k7 := at2.cell 7 rfl
      have k8 := at2.cell 8 rfl
      rcases ff with _ | _
      case false =>
        rcases fl with _ | _
        case false =>
          go_wp2_with fail
          go_ret
          exact ⟨by rw [HEff.out]; rfl, hbl⟩
        case true =>
          go_wp2_with fail
          refine (CL.out _).mono ?_
          rintro e w2 ⟨rfl, hb2⟩
          go_wp2_with fail
          go_ret
          exact ⟨by rw [HEft.out]; rfl, by repeat' (first | with_reducible assumption | with_reducible exact Below.refl _ _ | (with_reducible refine Below.setCell ?_ ?_ _) | (with_reducible refine Below.alloc ?_ ?_ _) | (with_reducible refine Below.drew ?_) | (with_reducible refine below_dr ?_ _) | (with_reducible refine Below.trans ?_ (Below.mono (by with_reducible assumption) ?_)) | omega | (simp; done) | (simp; omega))⟩
      case true =>
        rcases fl with _ | _
        case false =>
          go_wp2_with fail
          refine (CF.out _).mono ?_
          rintro e w2 ⟨rfl, hb2⟩
          have hz2 := hb2.size
          have atw2 : AtL b [.slice A n c, .bool false, .int .i64 t, .bool true, .bool false, .int .i64 fx, .int .i64 fy, .int .i64 lx, .int .i64 ly] w2 := by repeat' (first | with_reducible assumption | (with_reducible refine AtL.below ?_ (by with_reducible assumption)) | (with_reducible refine AtL.drew ?_) | (with_reducible refine AtL.alloc ?_ _))
          have qw2 : w.heap.size ≤ w2.heap.size := by omega
          have k4w2 := atw2.cell 4 rfl
          have k7w2 := atw2.cell 7 rfl
          have k8w2 := atw2.cell 8 rfl
          have lbw2 := atw2.lt
          have g2 : Below w.heap.size w w2 := by repeat' (first | with_reducible assumption | with_reducible exact Below.refl _ _ | (with_reducible refine Below.setCell ?_ ?_ _) | (with_reducible refine Below.alloc ?_ ?_ _) | (with_reducible refine Below.drew ?_) | (with_reducible refine below_dr ?_ _) | (with_reducible refine Below.trans ?_ (Below.mono (by with_reducible assumption) ?_)) | omega | (simp; done) | (simp; omega))
          clear k3 k4 k5 k6 k7 k8 k0 lb
          go_wp2_with fail
          go_ret
          exact ⟨by rw [HEtf.out]; rfl, by repeat' (first | with_reducible assumption | with_reducible exact Below.refl _ _ | (with_reducible refine Below.setCell ?_ ?_ _) | (with_reducible refine Below.alloc ?_ ?_ _) | (with_reducible refine Below.drew ?_) | (with_reducible refine below_dr ?_ _) | (with_reducible refine Below.trans ?_ (Below.mono (by with_reducible assumption) ?_)) | omega | (simp; done) | (simp; omega))⟩
        case true =>
          go_wp2_with fail
          refine (CF.out _).mono ?_
          rintro e w2 ⟨rfl, hb2⟩
          have hz2 := hb2.size
          have atw2 : AtL b [.slice A n c, .bool false, .int .i64 t, .bool true, .bool true, .int .i64 fx, .int .i64 fy, .int .i64 lx, .int .i64 ly] w2 := by repeat' (first | with_reducible assumption | (with_reducible refine AtL.below ?_ (by with_reducible assumption)) | (with_reducible refine AtL.drew ?_) | (with_reducible refine AtL.alloc ?_ _))
          have qw2 : w.heap.size ≤ w2.heap.size := by omega
          have k4w2 := atw2.cell 4 rfl
          have k7w2 := atw2.cell 7 rfl
          have k8w2 := atw2.cell 8 rfl
          have lbw2 := atw2.lt
          have g2 : Below w.heap.size w w2 := by repeat' (first | with_reducible assumption | with_reducible exact Below.refl _ _ | (with_reducible refine Below.setCell ?_ ?_ _) | (with_reducible refine Below.alloc ?_ ?_ _) | (with_reducible refine Below.drew ?_) | (with_reducible refine below_dr ?_ _) | (with_reducible refine Below.trans ?_ (Below.mono (by with_reducible assumption) ?_)) | omega | (simp; done) | (simp; omega))
          clear k3 k4 k5 k6 k7 k8 k0 lb
          go_wp2_with fail
          refine (CL.out _).mono ?_
          rintro e w3 ⟨rfl, hb3⟩
          go_wp2_with fail
          go_ret
          exact ⟨by rw [HEtt.out]; rfl, by repeat' (first | with_reducible assumption | with_reducible exact Below.refl _ _ | (with_reducible refine Below.setCell ?_ ?_ _) | (with_reducible refine Below.alloc ?_ ?_ _) | (with_reducible refine Below.drew ?_) | (with_reducible refine below_dr ?_ _) | (with_reducible refine Below.trans ?_ (Below.mono (by with_reducible assumption) ?_)) | omega | (simp; done) | (simp; omega))⟩
set_option maxRecDepth 100000 in
set_option maxHeartbeats 6400000 in
theorem l06Text_true (l : List APt) (A : Option Addr) (c : Nat) (t : Int) (ff fl : Bool) (fx fy lx ly : Int) (b : Nat) (w : World) (hv : vCur l true t ff fl fx fy lx ly = true) (at0 : AtL b [.slice A l.length c, .bool true, .int .i64 t, .bool ff, .bool fl, .int .i64 fx, .int .i64 fy, .int .i64 lx, .int .i64 ly] w) (r : Rd cPt 2 w w.heap.size A l) :
    Calls Tryd.prog 46 #[.pointer (some ⟨b, 0, none⟩)] w fun e w' => e = .returned (.string (joinB ⟨#[32]⟩ (curW l true t ff fl fx fy lx ly))) ∧ Below w.heap.size w w' := by
  obtain ⟨hq1, hq2, hq3, hq4, hq5, hq6, _⟩ := vC_parts hv
  have hlen := len_yes hq1
  have hten : 3 ≤ t ∧ t ≤ 12 := by simpa [tenB] using hq3
  have hti : -9223372036854775808 ≤ t ∧ t ≤ 9223372036854775807 := ⟨by omega, by omega⟩
  have hef := endB_ok hq5
  have hel := endB_ok hq6
  have HP := Lib.hid hq2
  have HT := Lib.hid hti
  have CD := Lib.hid (show ∀ w, Calls Tryd.prog 80 #[.int .i64 t] w (fun e w' => e = .returned (.string (decB t)) ∧ Below w.heap.size w w') from fun w => l01Dec_any t w hti.1 hti.2)
  have CF := Lib.hid (fun w => specPtText_any fx fy w (okB_in hef).1 (okB_in hef).2)
  have CL := Lib.hid (fun w => specPtText_any lx ly w (okB_in hel).1 (okB_in hel).2)
  have hsf : (ptT fx fy).size ≤ 43 := ptT_size (okB_in hef).1 (okB_in hef).2
  have hsl : (ptT lx ly).size ≤ 43 := ptT_size (okB_in hel).1 (okB_in hel).2
  have hsd := decB_size hti
  clear hv hq1 hq2 hq3 hq4 hq5 hq6 hten hef hel hti
  obtain ⟨W, hW⟩ : ∃ W : Bool → Bool → List ByteArray, W = fun ff fl => curW l true t ff fl fx fy lx ly := ⟨_, rfl⟩
  have HW := Lib.hid hW
  rw [show curW l true t ff fl fx fy lx ly = W ff fl from by rw [hW]]
  clear hW
  have HSTART := Lib.hid (show (⟨#[99, 108, 111, 115, 101, 100, 32]⟩ : ByteArray) ++ decB t = joinB ⟨#[32]⟩ (cwK l true t 0) from byt_ext (by simp [joinB, joinF, cwK, wordC]))
  obtain ⟨n, hn⟩ : ∃ n, n = l.length := ⟨_, rfl⟩
  rw [← hn] at at0 hlen
  have HN := Lib.hid hn
  clear hn
  generalize decB t = d at CD hsd HSTART
  have f0 : (9223372036854775807 < 7 + d.size) = False := by simp only [eq_iff_iff, iff_false]; omega
  have k1 := at0.cell 1 rfl
  have k2 := at0.cell 2 rfl
  have lb := at0.lt
  go_enter Tryd.func46, Tryd.ntmps46
  go_wp2_with fail
  refine (CD.out _).mono ?_
  rintro e w1 ⟨rfl, hb1⟩
  have at1 := at0.below hb1
  have g1 : Below w.heap.size w w1 := by repeat' (first | with_reducible assumption | with_reducible exact Below.refl _ _ | (with_reducible refine Below.setCell ?_ ?_ _) | (with_reducible refine Below.alloc ?_ ?_ _) | (with_reducible refine Below.drew ?_) | (with_reducible refine below_dr ?_ _) | (with_reducible refine Below.trans ?_ (Below.mono (by with_reducible assumption) ?_)) | omega | (simp; done) | (simp; omega))
  clear hb1 k1 k2 lb at0 CD
  go_wp2_with fail
  go_loopw [3, 4] (fun s i wr => ∃ k : Nat, k ≤ n ∧ i = .int .i64 (k : Int) ∧ s = .string (joinB ⟨#[32]⟩ (cwK l true t k)) ∧ AtL b [.slice A n c, .bool true, .int .i64 t, .bool ff, .bool fl, .int .i64 fx, .int .i64 fy, .int .i64 lx, .int .i64 ly] wr ∧ Below w.heap.size w wr) (fun _ i _ => n - (intOf i).toNat)
  case atStart => exact ⟨0, Nat.zero_le _, rfl, by rw [HSTART.out], at1, g1⟩
  case round =>
    clear at1 g1 hsd f0 HSTART
    obtain ⟨k, hk, rfl, rfl, at2, hbl⟩ := hrel
    have k0 := at2.cell 0 rfl
    have lb := at2.lt
    have hz := hbl.size
    have hs := joinB_size ⟨#[32]⟩ (cwK l true t k) 43 (cwK_small HT.out HP.out)
    rw [cwK_len (by have := HN.out; omega), show (⟨#[32]⟩ : ByteArray).size = 1 from rfl] at hs
    by_cases hlt : k < n
    case pos =>
      obtain ⟨⟨x, y⟩, ha⟩ : ∃ a, l[k]? = some a := ⟨l[k]'(by have := HN.out; omega), List.getElem?_eq_getElem (by have := HN.out; omega)⟩
      have hxy := okB_in (pts_all HP.out ha)
      have CT := Lib.hid (fun w => specPtText_any x y w hxy.1 hxy.2)
      have ht : (ptT x y).size ≤ 43 := ptT_size hxy.1 hxy.2
      obtain ⟨g, o, rfl, hg, hc⟩ := (r.below hbl).elem ha
      have c0 : wr.cell? ⟨g, o + k * 2, none⟩ = some (.int .i64 x) := hc 0 _ rfl
      have c1 : wr.cell? ⟨g, o + k * 2 + 1, none⟩ = some (.int .i64 y) := hc 1 _ rfl
      have hgw : g < wr.heap.size := by omega
      have hki : (k : Int) < (n : Int) := by omega
      have HS := Lib.hid (show joinB ⟨#[32]⟩ (cwK l true t k) ++ (⟨#[32]⟩ ++ ptT x y) = joinB ⟨#[32]⟩ (cwK l true t (k + 1)) from cwK_join ha)
      clear hc ha hxy r CF CL hsf hsl
      generalize ptT x y = u at CT ht HS
      generalize joinB ⟨#[32]⟩ (cwK l true t k) = S at hs HS ⊢
      have f1 : (9223372036854775807 < 1 + u.size) = False := by simp only [eq_iff_iff, iff_false]; omega
      have f2 : (9223372036854775807 < S.size + (1 + u.size)) = False := by simp only [eq_iff_iff, iff_false]; omega
      go_wp2_with fail
      refine (CT.out _).mono ?_
      rintro e w2 ⟨rfl, hb2⟩
      have at3 : AtL b [.slice (some ⟨g, o, none⟩) n c, .bool true, .int .i64 t, .bool ff, .bool fl, .int .i64 fx, .int .i64 fy, .int .i64 lx, .int .i64 ly] w2 := by repeat' (first | with_reducible assumption | (with_reducible refine AtL.below ?_ (by with_reducible assumption)) | (with_reducible refine AtL.drew ?_) | (with_reducible refine AtL.alloc ?_ _))
      go_wp2_with fail
      go_roundw
      case rel => exact ⟨k + 1, by omega, by go_num, by rw [HS.out], at3, by repeat' (first | with_reducible assumption | with_reducible exact Below.refl _ _ | (with_reducible refine Below.setCell ?_ ?_ _) | (with_reducible refine Below.alloc ?_ ?_ _) | (with_reducible refine Below.drew ?_) | (with_reducible refine below_dr ?_ _) | (with_reducible refine Below.trans ?_ (Below.mono (by with_reducible assumption) ?_)) | omega | (simp; done) | (simp; omega))⟩
      case measure => first | (simp [intOf]; done) | (simp [intOf]; omega)
    case neg =>
      obtain rfl : n = k := by omega
      have hws : 0 < (cwK l true t n).length := by rw [cwK_len (by have := HN.out; omega)]; omega
      obtain ⟨S, hS⟩ : ∃ S, S = joinB ⟨#[32]⟩ (cwK l true t n) := ⟨_, rfl⟩
      rw [← hS] at hs ⊢
      have HEff := Lib.hid (show S = joinB ⟨#[32]⟩ (W false false) from by rw [HW.out]; show _ = joinB _ (curW _ _ _ _ _ _ _ _ _); unfold curW; rw [← HN.out]; rw [hS]; simp [endW])
      have HEtf := Lib.hid (show S ++ (⟨#[32, 102, 105, 114, 115, 116, 32]⟩ ++ ptT fx fy) = joinB ⟨#[32]⟩ (W true false) from by rw [HW.out]; show _ = joinB _ (curW _ _ _ _ _ _ _ _ _); unfold curW; rw [← HN.out]; rw [cur_end (wd := firstW) hws hS (by decide)]; simp [endW])
      have HEft := Lib.hid (show S ++ (⟨#[32, 108, 97, 115, 116, 32]⟩ ++ ptT lx ly) = joinB ⟨#[32]⟩ (W false true) from by rw [HW.out]; show _ = joinB _ (curW _ _ _ _ _ _ _ _ _); unfold curW; rw [← HN.out]; rw [cur_end (wd := lastW) hws hS (by decide)]; simp [endW])
      have HEtt := Lib.hid (show S ++ (⟨#[32, 102, 105, 114, 115, 116, 32]⟩ ++ ptT fx fy) ++ (⟨#[32, 108, 97, 115, 116, 32]⟩ ++ ptT lx ly) = joinB ⟨#[32]⟩ (W true true) from by rw [HW.out]; show _ = joinB _ (curW _ _ _ _ _ _ _ _ _); unfold curW; rw [← HN.out]; rw [cur_end (wd := lastW) (by simp) (cur_end (wd := firstW) hws hS (by decide)) (by decide)]; simp [endW])
      clear hS hws HW r
      generalize ptT fx fy = u at *
      generalize ptT lx ly = v at *
      have f1 : (9223372036854775807 < 7 + u.size) = False := by simp only [eq_iff_iff, iff_false]; omega
      have f2 : (9223372036854775807 < S.size + (7 + u.size)) = False := by simp only [eq_iff_iff, iff_false]; omega
      have f3 : (9223372036854775807 < 6 + v.size) = False := by simp only [eq_iff_iff, iff_false]; omega
      have f4 : (9223372036854775807 < S.size + (6 + v.size)) = False := by simp only [eq_iff_iff, iff_false]; omega
      have f5 : (9223372036854775807 < S.size + (7 + u.size) + (6 + v.size)) = False := by simp only [eq_iff_iff, iff_false]; omega
      have hki : ¬ ((n : Int) < (n : Int)) := by omega
      have k3 := at2.cell 3 rfl
      have k4 := at2.cell 4 rfl
      have k5 := at2.cell 5 rfl
      have k6 := at2.cell 6 rfl
      have k7 := at2.cell 7 rfl
      have k8 := at2.cell 8 rfl
      rcases ff with _ | _
      case false =>
        rcases fl with _ | _
        case false =>
          go_wp2_with fail
          go_ret
          exact ⟨by rw [HEff.out]; rfl, hbl⟩
        case true =>
          go_wp2_with fail
          refine (CL.out _).mono ?_
          rintro e w2 ⟨rfl, hb2⟩
          go_wp2_with fail
          go_ret
          exact ⟨by rw [HEft.out]; rfl, by repeat' (first | with_reducible assumption | with_reducible exact Below.refl _ _ | (with_reducible refine Below.setCell ?_ ?_ _) | (with_reducible refine Below.alloc ?_ ?_ _) | (with_reducible refine Below.drew ?_) | (with_reducible refine below_dr ?_ _) | (with_reducible refine Below.trans ?_ (Below.mono (by with_reducible assumption) ?_)) | omega | (simp; done) | (simp; omega))⟩
      case true =>
        rcases fl with _ | _
        case false =>
          go_wp2_with fail
          refine (CF.out _).mono ?_
          rintro e w2 ⟨rfl, hb2⟩
          have hz2 := hb2.size
          have atw2 : AtL b [.slice A n c, .bool true, .int .i64 t, .bool true, .bool false, .int .i64 fx, .int .i64 fy, .int .i64 lx, .int .i64 ly] w2 := by repeat' (first | with_reducible assumption | (with_reducible refine AtL.below ?_ (by with_reducible assumption)) | (with_reducible refine AtL.drew ?_) | (with_reducible refine AtL.alloc ?_ _))
          have qw2 : w.heap.size ≤ w2.heap.size := by omega
          have k4w2 := atw2.cell 4 rfl
          have k7w2 := atw2.cell 7 rfl
          have k8w2 := atw2.cell 8 rfl
          have lbw2 := atw2.lt
          have g2 : Below w.heap.size w w2 := by repeat' (first | with_reducible assumption | with_reducible exact Below.refl _ _ | (with_reducible refine Below.setCell ?_ ?_ _) | (with_reducible refine Below.alloc ?_ ?_ _) | (with_reducible refine Below.drew ?_) | (with_reducible refine below_dr ?_ _) | (with_reducible refine Below.trans ?_ (Below.mono (by with_reducible assumption) ?_)) | omega | (simp; done) | (simp; omega))
          clear k3 k4 k5 k6 k7 k8 k0 lb
          go_wp2_with fail
          go_ret
          exact ⟨by rw [HEtf.out]; rfl, by repeat' (first | with_reducible assumption | with_reducible exact Below.refl _ _ | (with_reducible refine Below.setCell ?_ ?_ _) | (with_reducible refine Below.alloc ?_ ?_ _) | (with_reducible refine Below.drew ?_) | (with_reducible refine below_dr ?_ _) | (with_reducible refine Below.trans ?_ (Below.mono (by with_reducible assumption) ?_)) | omega | (simp; done) | (simp; omega))⟩
        case true =>
          go_wp2_with fail
          refine (CF.out _).mono ?_
          rintro e w2 ⟨rfl, hb2⟩
          have hz2 := hb2.size
          have atw2 : AtL b [.slice A n c, .bool true, .int .i64 t, .bool true, .bool true, .int .i64 fx, .int .i64 fy, .int .i64 lx, .int .i64 ly] w2 := by repeat' (first | with_reducible assumption | (with_reducible refine AtL.below ?_ (by with_reducible assumption)) | (with_reducible refine AtL.drew ?_) | (with_reducible refine AtL.alloc ?_ _))
          have qw2 : w.heap.size ≤ w2.heap.size := by omega
          have k4w2 := atw2.cell 4 rfl
          have k7w2 := atw2.cell 7 rfl
          have k8w2 := atw2.cell 8 rfl
          have lbw2 := atw2.lt
          have g2 : Below w.heap.size w w2 := by repeat' (first | with_reducible assumption | with_reducible exact Below.refl _ _ | (with_reducible refine Below.setCell ?_ ?_ _) | (with_reducible refine Below.alloc ?_ ?_ _) | (with_reducible refine Below.drew ?_) | (with_reducible refine below_dr ?_ _) | (with_reducible refine Below.trans ?_ (Below.mono (by with_reducible assumption) ?_)) | omega | (simp; done) | (simp; omega))
          clear k3 k4 k5 k6 k7 k8 k0 lb
          go_wp2_with fail
          refine (CL.out _).mono ?_
          rintro e w3 ⟨rfl, hb3⟩
          go_wp2_with fail
          go_ret
          exact ⟨by rw [HEtt.out]; rfl, by repeat' (first | with_reducible assumption | with_reducible exact Below.refl _ _ | (with_reducible refine Below.setCell ?_ ?_ _) | (with_reducible refine Below.alloc ?_ ?_ _) | (with_reducible refine Below.drew ?_) | (with_reducible refine below_dr ?_ _) | (with_reducible refine Below.trans ?_ (Below.mono (by with_reducible assumption) ?_)) | omega | (simp; done) | (simp; omega))⟩
end Go.Proofs.YtjlmoadnbbeloaaDoor
