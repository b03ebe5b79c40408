/- Walks: points joined to a text, the reference's side. -/
import Derived.Test.YtnlhofepobkljaaDoorTx
import Derived.Test.YtnlhofepobkljaaDoorJa
import Derived.Test.YtnlhofepobkljaaDoorVb
namespace Go.Proofs.YtnlhofepobkljaaDoor
open Go.RowKit
set_option linter.unusedVariables false
/-- The texts of points, a blank between them. -/
def ptsB (l : List APt) : ByteArray := joinB ⟨#[32]⟩ (l.map fun a => ptB a.1 a.2)
theorem ptsB_snoc {l : List APt} (h : 0 < l.length) (a : APt) : ptsB (l ++ [a]) = ptsB l ++ ⟨#[32]⟩ ++ ptB a.1 a.2 := by
  unfold ptsB; rw [List.map_append]; exact joinB_snoc _ (by simpa using h) _
theorem ptB_size {x y : Int} (hx : (-9223372036854775808 ≤ x ∧ x ≤ 9223372036854775807)) (hy : (-9223372036854775808 ≤ y ∧ y ≤ 9223372036854775807)) : (ptB x y).size ≤ 43 := by
  have := decB_size hx
  have := decB_size hy
  unfold ptB
  simp only [size_app]
  have : (⟨#[44]⟩ : ByteArray).size = 1 := rfl
  omega
def inI (a : APt) : Prop := (-9223372036854775808 ≤ a.1 ∧ a.1 ≤ 9223372036854775807) ∧ (-9223372036854775808 ≤ a.2 ∧ a.2 ≤ 9223372036854775807)
theorem ptsB_size {l : List APt} (h : ∀ (i : Nat) (a : APt), l[i]? = some a → inI a) : (ptsB l).size ≤ l.length * 44 := by
  have h2 := joinB_size ⟨#[32]⟩ (l.map fun a => ptB a.1 a.2) 43 (fun y hy => by
    obtain ⟨a, ha, rfl⟩ := List.mem_map.1 hy
    obtain ⟨i, hi⟩ := List.mem_iff_getElem?.1 ha
    exact ptB_size (h i a hi).1 (h i a hi).2)
  rw [List.length_map] at h2
  exact h2
theorem ptsB_step {l : List APt} {k : Nat} {a : APt} (hk : 0 < k) (h : l[k]? = some a) : ptsB (l.take (k + 1)) = ptsB (l.take k) ++ ⟨#[32]⟩ ++ ptB a.1 a.2 := by
  rw [List.take_add_one, h]
  refine ptsB_snoc ?_ a
  have := (List.getElem?_eq_some_iff.1 h).1
  rw [List.length_take]; omega
theorem ptsB_first {l : List APt} {a : APt} (h : l[0]? = some a) : ptsB (l.take (0 + 1)) = ptB a.1 a.2 := by
  rw [List.take_add_one, h]; rfl
theorem take_in {l : List APt} (h : ∀ (i : Nat) (a : APt), l[i]? = some a → inI a) (k : Nat) : ∀ (i : Nat) (a : APt), (l.take k)[i]? = some a → inI a := by
  intro i a hi
  rw [List.getElem?_take] at hi
  split at hi
  · exact h i a hi
  · cases hi
set_option maxHeartbeats 1600000 in
theorem l09Points_any (l : List APt) (A : Option Addr) (c : Nat) (w : World) (hl : l.length ≤ 1048576) (hb : ∀ (i : Nat) (a : APt), l[i]? = some a → inI a) (r : Rd cPt 2 w w.heap.size A l) :
    Calls Tryd.prog 22 #[.slice A l.length c] w fun e w' => e = .returned (.string (ptsB l)) ∧ Below w.heap.size w w' := by
  have HB := Lib.hid hb
  obtain ⟨n, hn⟩ : ∃ n, n = l.length := ⟨_, rfl⟩
  rw [← hn] at hl ⊢
  have HN := Lib.hid hn
  clear hn hb
  go_enter Tryd.func22, Tryd.ntmps22
  go_wp2_with fail
  go_loopw [3, 4] (fun s i wr => ∃ k : Nat, k ≤ n ∧ i = .int .i64 (k : Int) ∧ s = .string (ptsB (l.take k)) ∧ Below w.heap.size w wr) (fun _ i _ => n - (intOf i).toNat)
  case atStart => exact ⟨0, Nat.zero_le _, rfl, rfl, by repeat' (first | with_reducible assumption | with_reducible exact Below.refl _ _ | (with_reducible refine Below.setCell ?_ ?_ _) | (with_reducible refine Below.alloc ?_ ?_ _) | (with_reducible refine Below.drew ?_) | (with_reducible refine below_dr ?_ _) | (with_reducible refine Below.trans ?_ (Below.mono (by with_reducible assumption) ?_)) | omega | (simp; done) | (simp; omega))⟩
  case round =>
    obtain ⟨k, hk, rfl, rfl, hbl⟩ := hrel
    by_cases hlt : k < n
    · obtain ⟨⟨x, y⟩, ha⟩ : ∃ a, l[k]? = some a := ⟨l[k]'(by have := HN.out; omega), List.getElem?_eq_getElem (by have := HN.out; omega)⟩
      have hxy := HB.out k _ ha
      have CT := Lib.hid (fun w => l03Text_any x y w hxy.1 hxy.2)
      have ht : (ptB x y).size ≤ 43 := ptB_size hxy.1 hxy.2
      have hs := ptsB_size (take_in HB.out k)
      rw [List.length_take, Nat.min_eq_left (by have := HN.out; omega)] at hs
      obtain ⟨g, o, rfl, hg, hc⟩ := (r.below hbl).elem ha
      have c0 : wr.cell? ⟨g, o + k * 2, none⟩ = some (.int .i64 x) := hc 0 _ rfl
      have c1 : wr.cell? ⟨g, o + k * 2 + 1, none⟩ = some (.int .i64 y) := hc 1 _ rfl
      have zr := hbl.size
      have hgw : g < wr.heap.size := by omega
      have hki : (k : Int) < (n : Int) := by omega
      have HS := Lib.hid (show ∀ u, (k = 0 → u = ptB x y) → (0 < k → u = ptsB (l.take k) ++ ⟨#[32]⟩ ++ ptB x y) → u = ptsB (l.take (k + 1)) from by
        intro u h0 h1
        rcases Nat.eq_zero_or_pos k with hk0 | hk0
        · rw [h0 hk0]; subst hk0; exact (ptsB_first ha).symm
        · rw [h1 hk0, ptsB_step hk0 ha])
      clear hc ha hxy r
      generalize ptB x y = t at CT ht HS
      by_cases hk0 : k = 0
      · subst hk0
        have f1 : (9223372036854775807 < t.size) = False := by simp only [eq_iff_iff, iff_false]; omega
        clear hs
        simp only [Nat.zero_mul, Nat.add_zero] at c0 c1
        rw [show ptsB (l.take 0) = ⟨#[]⟩ from rfl]
        go_wp2_with fail
        refine (CT.out _).mono ?_
        rintro e w1 ⟨rfl, hb1⟩
        go_wp2_with fail
        go_roundw
        case rel => exact ⟨0 + 1, by omega, by go_num, by congr 1; exact HS.out _ (fun _ => by first | rfl | (simp; done) | (apply byt_ext; simp [ptsB, joinB])) (fun h => by omega), by repeat' (first | with_reducible assumption | with_reducible exact Below.refl _ _ | (with_reducible refine Below.setCell ?_ ?_ _) | (with_reducible refine Below.alloc ?_ ?_ _) | (with_reducible refine Below.drew ?_) | (with_reducible refine below_dr ?_ _) | (with_reducible refine Below.trans ?_ (Below.mono (by with_reducible assumption) ?_)) | omega | (simp; done) | (simp; omega))⟩
        case measure => simp [intOf]; omega
      · have hkp : (0 : Int) < (k : Int) := by omega
        have hkn : 0 < k := by omega
        generalize ptsB (l.take k) = S at hs HS ⊢
        have f1 : (9223372036854775807 < S.size + 1) = False := by simp only [eq_iff_iff, iff_false]; omega
        have f2 : (9223372036854775807 < S.size + 1 + t.size) = False := by simp only [eq_iff_iff, iff_false]; omega
        go_wp2_with fail
        refine (CT.out _).mono ?_
        rintro e w1 ⟨rfl, hb1⟩
        go_wp2_with fail
        go_roundw
        case rel => exact ⟨k + 1, by omega, by go_num, by congr 1; exact HS.out _ (fun h => absurd h hk0) (fun _ => rfl), by repeat' (first | with_reducible assumption | with_reducible exact Below.refl _ _ | (with_reducible refine Below.setCell ?_ ?_ _) | (with_reducible refine Below.alloc ?_ ?_ _) | (with_reducible refine Below.drew ?_) | (with_reducible refine below_dr ?_ _) | (with_reducible refine Below.trans ?_ (Below.mono (by with_reducible assumption) ?_)) | omega | (simp; done) | (simp; omega))⟩
        case measure => simp [intOf]; omega
    · obtain rfl : k = n := by omega
      go_wp2_with fail
      go_ret
      exact ⟨by rw [HN.out, List.take_length]; rfl, hbl⟩
end Go.Proofs.YtnlhofepobkljaaDoor
