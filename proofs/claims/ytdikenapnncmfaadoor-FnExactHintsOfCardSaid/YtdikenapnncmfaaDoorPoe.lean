/- Walks: partnersOf, which fault it tells. -/
import Derived.Test.YtdikenapnncmfaaDoorPhi
namespace Go.Proofs.YtdikenapnncmfaaDoor
open Go.RowKit Go.ChangeShapes Go.WideShapes Go.Deep Go.Joins
set_option linter.unusedVariables false
set_option maxRecDepth 100000 in
set_option maxHeartbeats 12800000 in
theorem partnersOfE_any (l : List AHint) (A : Option Addr) (c : Nat) (w : World) (hl : l.length ≤ 1048576) (r : Rd cHint 2 w w.heap.size A l) :
    Calls Tryd.prog 74 #[.slice A l.length c] w fun e w' => Below w.heap.size w w' ∧ ((alB l = true ∧ ntB l = true ∧ ∃ P, e = .returned (.tuple #[.slice (some ⟨P, 0, none⟩) l.length l.length, .nilIface]) ∧ Blk w' P 2 (iArr (pr l l.length)) ∧ w.heap.size ≤ P) ∨ (∃ C : Int, (alB l = false ∧ C = 1 ∨ alB l = true ∧ ntB l = false ∧ C = 6) ∧ e = .returned (.tuple #[.slice none 0 0, .iface 105 (.agg #[.int .i64 C])]))) := by
  have CA := Lib.hid (fun w r => allHints_any l A c w hl r)
  have HR := Lib.hid r
  clear r
  obtain ⟨n, hn⟩ : ∃ n, n = l.length := ⟨_, rfl⟩
  have HN := Lib.hid hn
  rw [← hn] at hl CA ⊢
  clear hn
  rcases h1 : alB l with _ | _
  case false =>
    rw [h1] at CA
    clear h1
    go_enter Tryd.func74, Tryd.ntmps74
    go_wp2_with fail
    refine (CA.out _ HR.out).mono ?_
    rintro e w1 ⟨rfl, b1⟩
    go_wp2_with fail
    go_ret2
    exact ⟨by repeat' (first | with_reducible assumption | with_reducible exact Below.refl _ _ | (with_reducible refine Below.setCell ?_ ?_ _) | (with_reducible refine Below.alloc ?_ ?_ _) | (with_reducible refine Below.drew ?_) | (with_reducible refine below_dr ?_ _) | (with_reducible refine Below.trans ?_ (Below.mono (by with_reducible assumption) ?_)) | omega | (simp; done) | (simp; omega)), .inr ⟨1, .inl ⟨by first | rfl | trivial, rfl⟩, rfl⟩⟩
  case true =>
    rw [h1] at CA
    clear h1
    obtain ⟨j0, hj0, hy0', hy1', hy2'⟩ := oinfo_parts infoI64
    have hmk1 := fun W => run_make_rowN (P := Tryd.prog) 46 2 j0 _ Tryd.underlying46 hj0 hy0' .i64 .i64 n n (Nat.le_refl _) (by rw [hy2']; omega) (by first | omega | (unfold maxLen; omega)) W
    simp only [hy1', iArr_made] at hmk1
    clear hj0 hy0' hy1' hy2'
    go_enter Tryd.func74, Tryd.ntmps74
    go_wp2_with fail
    refine (CA.out _ HR.out).mono ?_
    rintro e w1 ⟨rfl, b1⟩
    have z1 := b1.size
    go_wp2_with fail
    clear hmk1 CA
    obtain ⟨P, hP⟩ : ∃ P, P = w1.heap.size := ⟨_, rfl⟩
    obtain ⟨B, hB⟩ : ∃ B, B = w1.heap.size + 1 := ⟨_, rfl⟩
    generalize hW : (w1.alloc (.cells (iArr (List.replicate n 0)) 2)).alloc (.cells #[.slice A n c, .slice (some ⟨w1.heap.size, 0, none⟩) n n, .slice none 0 0] 126) = W0
    have kP : Blk W0 P 2 (iArr (List.replicate n 0)) := by rw [← hW, hP]; exact (Blk.new _ _ _).alloc _
    have kB : Blk W0 B 126 #[.slice A n c, .slice (some ⟨P, 0, none⟩) n n, .slice none 0 0] := by rw [← hW, hP, hB]; exact Blk.newAt _ _ _ (by simp)
    have hb0 : Below w.heap.size w W0 := by rw [← hW]; repeat' (first | with_reducible assumption | with_reducible exact Below.refl _ _ | (with_reducible refine Below.setCell ?_ ?_ _) | (with_reducible refine Below.alloc ?_ ?_ _) | (with_reducible refine Below.drew ?_) | (with_reducible refine below_dr ?_ _) | (with_reducible refine Below.trans ?_ (Below.mono (by with_reducible assumption) ?_)) | omega | (simp; done) | (simp; omega))
    have zW : W0.heap.size = B + 1 := by rw [← hW, hB]; simp
    have hPB : P < B := by omega
    have hwP : w.heap.size ≤ P := by omega
    have rl0 : Rd cHint 2 W0 P A l := (Rd.carry HR.out hb0 (Nat.le_refl _)).more hwP
    have ns0 : NS W0 l A c P B (B + 1) 0 [] := ⟨none, 0, by rw [← HN.out]; exact kB, by rw [show pr l 0 = List.replicate n 0 by rw [HN.out]; rfl]; exact kP, OwI.nil W0 _⟩
    have HRL := Lib.hid rl0
    have HNS := Lib.hid ns0
    rw [← hB, ← hP]
    clear hW hP hB kP kB rl0 ns0 b1
    clear z1
    go_wp2_with fail
    go_loopw [18] (fun i wr => ∃ (k : Nat) (st : St), k ≤ n ∧ i = .int .i64 (k : Int) ∧ rn l k = some st ∧ NS wr l A c P B (B + 1) k st ∧ Below P W0 wr) (fun i _ => n - (intOf i).toNat)
    case atStart => exact ⟨0, [], Nat.zero_le _, rfl, rfl, HNS.out, Below.refl _ _⟩
    case round =>
      clear HNS
      obtain ⟨k, st, hk, rfl, hrn, ns, hbl⟩ := hrel
      have zr := hbl.size
      have hbw : Below w.heap.size w wr := hb0.trans (hbl.mono (by omega))
      have HRN := Lib.hid hrn
      by_cases hlt : k < n
      case neg =>
        obtain rfl : k = n := by omega
        have HE := Lib.hid (nt_is (HN.out ▸ HRN.out))
        obtain ⟨A', c', bk, pk, ow⟩ := ns
        have y1 : wr.cell? ⟨B, 1, none⟩ = some (.slice (some ⟨P, 0, none⟩) k k) := by have h := bk.cell 1 rfl; rw [← HN.out] at h; exact h
        have y2 : wr.cell? ⟨B, 2, none⟩ = some (.slice A' st.length c') := bk.cell 2 rfl
        have HPK := Lib.hid pk
        clear bk pk ow hrn
        by_cases hz : st.length = 0
        case pos =>
          rw [hz] at y2
          have HNT := Lib.hid (HE.out.trans (decide_eq_true hz))
          clear hz
          go_wp2_with fail
          go_ret2
          exact ⟨hbw, .inl ⟨by first | rfl | trivial, HNT.out, P, rfl, HPK.out, hwP⟩⟩
        case neg =>
          have hzi : (0 : Int) < (st.length : Int) := by omega
          have hzn : 0 < st.length := by omega
          have HNT := Lib.hid (HE.out.trans (decide_eq_false hz))
          clear hz
          go_wp2_with fail
          go_ret2
          exact ⟨hbw, .inr ⟨6, .inr ⟨by first | rfl | trivial, HNT.out, rfl⟩, rfl⟩⟩
      case pos =>
        have CT := Lib.hid (take_any l A c P B (B + 1) k st wr ns hrn (Rd.keep HRL.out (fun p hp => hbl.cell hp)) hPB (by omega) (by omega) (by have := HN.out; omega) (by have := HN.out; omega))
        have hki : (k : Int) < (n : Int) := by omega
        clear ns hrn
        go_wp2_with fail
        refine (CT.out).mono ?_
        intro e w9 hq
        obtain ⟨b9, hq⟩ := hq
        have z9 := b9.size
        have hbl9 : Below P W0 w9 := hbl.trans b9
        have hbw9 : Below w.heap.size w w9 := hbw.trans (b9.mono hwP)
        rcases hq with ⟨hno, rfl⟩ | ⟨s, hs, rfl, ns1⟩
        · have HNT := Lib.hid (nt_none hno (by have := HN.out; omega))
          clear hno
          go_wp2_with fail
          go_ret2
          exact ⟨hbw9, .inr ⟨6, .inr ⟨by first | rfl | trivial, HNT.out.symm, rfl⟩, rfl⟩⟩
        · have HS := Lib.hid hs
          have HNS := Lib.hid ns1
          clear hs ns1
          go_wp2_with fail
          go_roundw
          case rel => exact ⟨k + 1, s, by omega, by go_num, HS.out, HNS.out, hbl9⟩
          case measure => simp [intOf]; omega
end Go.Proofs.YtdikenapnncmfaaDoor
