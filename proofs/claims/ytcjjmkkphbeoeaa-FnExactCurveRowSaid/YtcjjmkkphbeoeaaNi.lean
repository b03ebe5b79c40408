/- Walks: the law on CurveRow: it returns true. -/
import Derived.Test.YtcjjmkkphbeoeaaNh
import Derived.Test.YtcjjmkkphbeoeaaNf
namespace Go.Proofs.Ytcjjmkkphbeoeaa
open Go.RowKit
set_option linter.unusedVariables false
theorem l06Row_any (l : List APt) (A : Option Addr) (c : Nat) (cl : Bool) (t : Int) (ff fl : Bool) (fx fy lx ly : Int) (k b : Nat) (w : World) (h2 : 2 ≤ l.length) (h10 : l.length ≤ 10) (hk : k < l.length) (h3 : cl = true → 3 ≤ l.length) (at0 : AtL b [.slice A l.length c, .bool cl, .int .i64 t, .bool ff, .bool fl, .int .i64 fx, .int .i64 fy, .int .i64 lx, .int .i64 ly] w) :
    Calls Try.prog 46 #[.pointer (some ⟨b, 0, none⟩), .int .i64 k] w fun e w' => ∃ (A' : Option Addr) (c' : Nat), e = .returned (.slice A' l.length c') ∧ w'.ownsRow w.heap.size 2 1 (.slice A' l.length c') l.length (cellsF cI (rowL (eqnF l cl ff fl fx fy lx ly k) l.length)) ∧ Below w.heap.size w w' := by
  rcases cl with _ | _
  · by_cases hk0 : k = 0
    · subst hk0
      rcases ff with _ | _
      · exact l06Row_first_f l A c t fl fx fy lx ly b w h2 h10 at0
      · exact l06Row_first_t l A c t fl fx fy lx ly b w h2 h10 at0
    · by_cases hkn : k + 1 = l.length
      · rcases fl with _ | _
        · exact l06Row_last_f l A c t ff fx fy lx ly k b w h2 h10 hk (by omega) hkn at0
        · exact l06Row_last_t l A c t ff fx fy lx ly k b w h2 h10 hk (by omega) hkn at0
      · exact l06Row_in_f l A c t ff fl fx fy lx ly k b w h2 h10 hk (by omega) (by omega) at0
  · exact l06Row_in_t l A c t ff fl fx fy lx ly k b w h2 h10 hk (h3 rfl) at0
set_option maxRecDepth 100000 in
set_option maxHeartbeats 6400000 in
theorem specRow_no (l : List APt) (A : Option Addr) (c : Nat) (cl : Bool) (t : Int) (ff fl : Bool) (fx fy lx ly : Int) (k : Int) (w : World) (code : Int) (hc : ¬ code = 0) (CA : ∀ (b : Nat) (w : World), AtL b [.slice A l.length c, .bool cl, .int .i64 t, .bool ff, .bool fl, .int .i64 fx, .int .i64 fy, .int .i64 lx, .int .i64 ly] w → Rd cPt 2 w w.heap.size A l → Calls Try.prog 41 #[.pointer (some ⟨b, 0, none⟩), .int .i64 k] w (fun e w' => e = .returned (.int .i64 code) ∧ Below w.heap.size w w')) (r : Rd cPt 2 w w.heap.size A l) :
    Calls Try.prog 18 #[.agg #[.slice A l.length c, .bool cl, .int .i64 t, .bool ff, .bool fl, .int .i64 fx, .int .i64 fy, .int .i64 lx, .int .i64 ly], .int .i64 k] w (Ret_Ints code [] w) := by
  have HA := Lib.hid CA
  clear CA
  have e_c : (code != 0) = true := by simpa using hc
  generalize l.length = n at *
  go_enter Try.func18, Try.ntmps18
  go_wp2_with fail
  generalize hW : w.alloc (.cells #[.slice A n c, .bool cl, .int .i64 t, .bool ff, .bool fl, .int .i64 fx, .int .i64 fy, .int .i64 lx, .int .i64 ly] 37) = W0
  have at0 : AtL w.heap.size [.slice A n c, .bool cl, .int .i64 t, .bool ff, .bool fl, .int .i64 fx, .int .i64 fy, .int .i64 lx, .int .i64 ly] W0 := by rw [← hW]; exact AtL.new w _ _
  have r0 : Rd cPt 2 W0 w.heap.size A l := by rw [← hW]; exact r.alloc (Nat.le_refl _) _
  have b0 : Below w.heap.size w W0 := by rw [← hW]; repeat' (first | with_reducible assumption | with_reducible exact Below.refl _ _ | (with_reducible refine Below.setCell ?_ ?_ _) | (with_reducible refine Below.alloc ?_ ?_ _) | (with_reducible refine Below.drew ?_) | (with_reducible refine below_dr ?_ _) | (with_reducible refine Below.trans ?_ (Below.mono (by with_reducible assumption) ?_)) | omega | (simp; done) | (simp; omega))
  clear hW r
  have zb := b0.size
  refine (HA.out _ _ at0 ?_).mono ?_
  · (refine Rd.more (B := w.heap.size) ?_ (by first | omega | ((try simp only [World.size_setCell]); (try simp only [World.size_drew]); (try simp only [World.size_alloc]); omega) | (simp; done) | (simp; omega))); (repeat' (first | with_reducible assumption | (with_reducible refine Rd.drew ?_) | (with_reducible refine Rd.carry ?_ (by with_reducible assumption) ?_) | (with_reducible refine Rd.alloc ?_ ?_ _) | (with_reducible refine Rd.setCell ?_ ?_ _) | omega | (simp; done) | (simp; omega)))
  rintro e w1 ⟨rfl, hb1⟩
  replace at0 := at0.below hb1
  replace b0 : Below w.heap.size w w1 := by repeat' (first | with_reducible assumption | with_reducible exact Below.refl _ _ | (with_reducible refine Below.setCell ?_ ?_ _) | (with_reducible refine Below.alloc ?_ ?_ _) | (with_reducible refine Below.drew ?_) | (with_reducible refine below_dr ?_ _) | (with_reducible refine Below.trans ?_ (Below.mono (by with_reducible assumption) ?_)) | omega | (simp; done) | (simp; omega))
  have z1 := hb1.size
  clear hb1 r0
  go_wp2_with fail
  refine bodyPost_ret (v := .tuple #[.slice none 0 0, .int .i64 code]) (by simp [results, Try.results18, go_sem, *]) rfl ⟨none, 0, rfl, ⟨rfl, .inl ⟨rfl, rfl⟩⟩, ?_⟩
  repeat' (first | with_reducible assumption | with_reducible exact Below.refl _ _ | (with_reducible refine Below.setCell ?_ ?_ _) | (with_reducible refine Below.alloc ?_ ?_ _) | (with_reducible refine Below.drew ?_) | (with_reducible refine below_dr ?_ _) | (with_reducible refine Below.trans ?_ (Below.mono (by with_reducible assumption) ?_)) | omega | (simp; done) | (simp; omega))
set_option maxRecDepth 100000 in
set_option maxHeartbeats 6400000 in
theorem specRow_ok (l : List APt) (A : Option Addr) (c : Nat) (cl : Bool) (t : Int) (ff fl : Bool) (fx fy lx ly : Int) (k : Int) (w : World) (r2 : List Int) (hr2 : r2.length = l.length) (CA : ∀ (b : Nat) (w : World), AtL b [.slice A l.length c, .bool cl, .int .i64 t, .bool ff, .bool fl, .int .i64 fx, .int .i64 fy, .int .i64 lx, .int .i64 ly] w → Rd cPt 2 w w.heap.size A l → Calls Try.prog 41 #[.pointer (some ⟨b, 0, none⟩), .int .i64 k] w (fun e w' => e = .returned (.int .i64 0) ∧ Below w.heap.size w w')) (CS : ∀ (b : Nat) (w : World), AtL b [.slice A l.length c, .bool cl, .int .i64 t, .bool ff, .bool fl, .int .i64 fx, .int .i64 fy, .int .i64 lx, .int .i64 ly] w → Calls Try.prog 46 #[.pointer (some ⟨b, 0, none⟩), .int .i64 k] w (fun e w' => ∃ (A' : Option Addr) (c' : Nat), e = .returned (.slice A' l.length c') ∧ w'.ownsRow w.heap.size 2 1 (.slice A' l.length c') l.length (cellsF cI r2) ∧ Below w.heap.size w w')) (r : Rd cPt 2 w w.heap.size A l) :
    Calls Try.prog 18 #[.agg #[.slice A l.length c, .bool cl, .int .i64 t, .bool ff, .bool fl, .int .i64 fx, .int .i64 fy, .int .i64 lx, .int .i64 ly], .int .i64 k] w (Ret_Ints 0 r2 w) := by
  have HA := Lib.hid CA
  clear CA
  have HS := Lib.hid CS
  clear CS
  unfold Ret_Ints
  rw [hr2]
  clear hr2
  generalize l.length = n at *
  go_enter Try.func18, Try.ntmps18
  go_wp2_with fail
  generalize hW : w.alloc (.cells #[.slice A n c, .bool cl, .int .i64 t, .bool ff, .bool fl, .int .i64 fx, .int .i64 fy, .int .i64 lx, .int .i64 ly] 37) = W0
  have at0 : AtL w.heap.size [.slice A n c, .bool cl, .int .i64 t, .bool ff, .bool fl, .int .i64 fx, .int .i64 fy, .int .i64 lx, .int .i64 ly] W0 := by rw [← hW]; exact AtL.new w _ _
  have r0 : Rd cPt 2 W0 w.heap.size A l := by rw [← hW]; exact r.alloc (Nat.le_refl _) _
  have b0 : Below w.heap.size w W0 := by rw [← hW]; repeat' (first | with_reducible assumption | with_reducible exact Below.refl _ _ | (with_reducible refine Below.setCell ?_ ?_ _) | (with_reducible refine Below.alloc ?_ ?_ _) | (with_reducible refine Below.drew ?_) | (with_reducible refine below_dr ?_ _) | (with_reducible refine Below.trans ?_ (Below.mono (by with_reducible assumption) ?_)) | omega | (simp; done) | (simp; omega))
  clear hW r
  have zb := b0.size
  refine (HA.out _ _ at0 ?_).mono ?_
  · (refine Rd.more (B := w.heap.size) ?_ (by first | omega | ((try simp only [World.size_setCell]); (try simp only [World.size_drew]); (try simp only [World.size_alloc]); omega) | (simp; done) | (simp; omega))); (repeat' (first | with_reducible assumption | (with_reducible refine Rd.drew ?_) | (with_reducible refine Rd.carry ?_ (by with_reducible assumption) ?_) | (with_reducible refine Rd.alloc ?_ ?_ _) | (with_reducible refine Rd.setCell ?_ ?_ _) | omega | (simp; done) | (simp; omega)))
  rintro e w1 ⟨rfl, hb1⟩
  replace at0 := at0.below hb1
  replace b0 : Below w.heap.size w w1 := by repeat' (first | with_reducible assumption | with_reducible exact Below.refl _ _ | (with_reducible refine Below.setCell ?_ ?_ _) | (with_reducible refine Below.alloc ?_ ?_ _) | (with_reducible refine Below.drew ?_) | (with_reducible refine below_dr ?_ _) | (with_reducible refine Below.trans ?_ (Below.mono (by with_reducible assumption) ?_)) | omega | (simp; done) | (simp; omega))
  have z1 := hb1.size
  clear hb1 r0
  go_wp2_with fail
  refine (HS.out _ _ at0).mono ?_
  intro e w2 hq
  obtain ⟨A', c', rfl, ow, hb2⟩ := hq
  go_wp2_with fail
  refine bodyPost_ret (v := .tuple #[.slice A' n c', .int .i64 0]) (by simp [results, Try.results18, go_sem, *]) rfl ⟨A', c', rfl, own_base ow (by omega), ?_⟩
  repeat' (first | with_reducible assumption | with_reducible exact Below.refl _ _ | (with_reducible refine Below.setCell ?_ ?_ _) | (with_reducible refine Below.alloc ?_ ?_ _) | (with_reducible refine Below.drew ?_) | (with_reducible refine below_dr ?_ _) | (with_reducible refine Below.trans ?_ (Below.mono (by with_reducible assumption) ?_)) | omega | (simp; done) | (simp; omega))
theorem row_both (l : List APt) (cl : Bool) (t : Int) (ff fl : Bool) (fx fy lx ly k : Int) : ∃ (code : Int) (r2 : List Int), r2.length ≤ 1048576 ∧ (∀ (A : Option Addr) (c : Nat) (w : World), l.length ≤ 1048576 → Rd cPt 2 w w.heap.size A l → Calls Try.prog 18 #[.agg #[.slice A l.length c, .bool cl, .int .i64 t, .bool ff, .bool fl, .int .i64 fx, .int .i64 fy, .int .i64 lx, .int .i64 ly], .int .i64 k] w (Ret_Ints code r2 w)) ∧ (∀ (A : Option Addr) (c : Nat) (w : World), l.length ≤ 1048576 → Rd cPt 2 w w.heap.size A l → Calls Try.prog 19 #[.agg #[.slice A l.length c, .bool cl, .int .i64 t, .bool ff, .bool fl, .int .i64 fx, .int .i64 fy, .int .i64 lx, .int .i64 ly], .int .i64 k] w (Ret_Ints code r2 w)) := by
  rcases hv : vCur l cl t ff fl fx fy lx ly with _ | _
  · exact ⟨1, [], by simp, fun A c w hl r => specRow_no l A c cl t ff fl fx fy lx ly k w 1 (by omega) (fun b w at0 r => ask_f l A c cl t ff fl fx fy lx ly k b w hv hl at0 r) r, fun A c w hl r => implRow_no l A c cl t ff fl fx fy lx ly k w (fun _ => 0) 1 (by omega) (fun w r => checked_f l A c cl t ff fl fx fy lx ly k w hv hl r) r⟩
  · by_cases hk : 0 ≤ k ∧ k < (l.length : Int)
    · obtain ⟨hq1, hq2, _⟩ := vC_parts hv
      have hlen := len_yes hq1
      obtain ⟨m, rfl⟩ : ∃ m : Nat, k = (m : Int) := ⟨k.toNat, by omega⟩
      have hm : m < l.length := by omega
      exact ⟨0, rowL (eqnF l cl ff fl fx fy lx ly m) l.length, by rw [rowL_len]; omega, fun A c w hl r => specRow_ok l A c cl t ff fl fx fy lx ly m w _ (rowL_len _ _) (fun b w at0 r => ask_t l A c cl t ff fl fx fy lx ly m b w hv hk hl at0 r) (fun b w at0 => l06Row_any l A c cl t ff fl fx fy lx ly m b w (by omega) (by omega) hm (fun e => len_cl (by rw [e] at hq1; exact hq1)) at0) r, fun A c w hl r => implRow_ok l A c cl t ff fl fx fy lx ly m w _ (by omega) (by omega) (fun w r => checked_t l A c cl t ff fl fx fy lx ly m w hv hm hl r) r⟩
    · exact ⟨2, [], by simp, fun A c w hl r => specRow_no l A c cl t ff fl fx fy lx ly k w 2 (by omega) (fun b w at0 r => ask_r l A c cl t ff fl fx fy lx ly k b w hv hk hl at0 r) r, fun A c w hl r => implRow_no l A c cl t ff fl fx fy lx ly k w (fun _ => 0) 2 (by omega) (fun w r => checked_r l A c cl t ff fl fx fy lx ly k w hv hk hl r) r⟩
set_option maxRecDepth 100000 in
set_option maxHeartbeats 12800000 in
theorem walk_CurveRow (a : ACurve) (k : Int) (wk : (Lit.int .i64 k).wf = true) (w : World) (k_a : okCurve w w.heap.size a) :
    Calls Try.prog 5 #[.agg #[.slice a.1.1 a.1.2.2.length a.1.2.1, .bool a.2.1, .int .i64 a.2.2.1, .bool a.2.2.2.1, .bool a.2.2.2.2.1, .int .i64 a.2.2.2.2.2.1, .int .i64 a.2.2.2.2.2.2.1, .int .i64 a.2.2.2.2.2.2.2.1, .int .i64 a.2.2.2.2.2.2.2.2], .int .i64 k] w fun e w' => e = .returned (.bool true) ∧ Below w.heap.size w w' := by
  obtain ⟨⟨a0A, a0c, a0l⟩, a1, a2, a3, a4, a5, a6, a7, a8⟩ := a
  obtain ⟨nc_a0, cm_a0, rd_a0, ok_a0, w_a2, w_a5, w_a6, w_a7, w_a8⟩ := k_a
  simp only at nc_a0 cm_a0 rd_a0 ok_a0 w_a2 w_a5 w_a6 w_a7 w_a8 ⊢
  have hm_a0 : a0l.length ≤ 9223372036854775807 := by unfold maxLen at cm_a0; omega
  have HOK_a0 := Lib.hid (show ∀ (w2 : World) (B : Nat) (i : Nat) (b : APt), a0l[i]? = some b → okPt w2 B b from fun _ _ i b h => ok_a0 i b h)
  clear ok_a0 nc_a0 cm_a0
  obtain ⟨code, r2, hll, C1', C2'⟩ := row_both a0l a1 a2 a3 a4 a5 a6 a7 a8 k
  have C1 := Lib.hid C1'
  have C2 := Lib.hid C2'
  clear C1' C2'
  have e_c : (code != code) = false := by simp
  clear w_a2 w_a5 w_a6 w_a7 w_a8 wk
  obtain ⟨M, hM⟩ : ∃ M : Int, M = ((1 + r2.length : Nat) : Int) := ⟨_, rfl⟩
  have hM0 : 0 ≤ M := by omega
  have HM := Lib.hid hM
  have e_M : (M != M) = false := by simp
  clear hM
  obtain ⟨M1, hM1⟩ : ∃ M1 : Int, M1 = ((1 + 2 * a0l.length : Nat) : Int) := ⟨_, rfl⟩
  have hM10 : 0 ≤ M1 := by omega
  have HM1 := Lib.hid hM1
  clear hM1
  go_enter Try.func5, Try.ntmps5
  go_wp2_with fail
  generalize hW : (w.alloc (.cells #[.slice a0A a0l.length a0c, .bool a1, .int .i64 a2, .bool a3, .bool a4, .int .i64 a5, .int .i64 a6, .int .i64 a7, .int .i64 a8] 32)) = W0
  have rd_a0w : Rd cPt 2 w (w.heap.size) a0A a0l := rd_a0
  have bx_aW0 : AtL (w.heap.size) [.slice a0A a0l.length a0c, .bool a1, .int .i64 a2, .bool a3, .bool a4, .int .i64 a5, .int .i64 a6, .int .i64 a7, .int .i64 a8] W0 := by rw [← hW]; repeat' (first | with_reducible assumption | with_reducible exact AtL.new _ _ _ | ((with_reducible refine AtL.newAt ?_); (first | rfl | (simp; done))) | (with_reducible refine AtL.drew ?_) | (with_reducible refine AtL.below ?_ (by with_reducible assumption)) | (with_reducible refine AtL.alloc ?_ _) | (with_reducible refine AtL.far ?_ ?_ _ _) | omega | (simp; done) | (simp; omega))
  have rd_a0W0 : Rd cPt 2 W0 (w.heap.size) a0A a0l := by rw [← hW]; repeat' (first | with_reducible assumption | (with_reducible refine Rd.drew ?_) | (with_reducible refine Rd.carry ?_ (by with_reducible assumption) ?_) | (with_reducible refine Rd.alloc ?_ ?_ _) | (with_reducible refine Rd.setCell ?_ ?_ _) | omega | (simp; done) | (simp; omega))
  have qW0 : w.heap.size ≤ W0.heap.size := by rw [← hW]; simp
  have bn : Below w.heap.size w W0 := by rw [← hW]; repeat' (first | with_reducible assumption | with_reducible exact Below.refl _ _ | (with_reducible refine Below.setCell ?_ ?_ _) | (with_reducible refine Below.alloc ?_ ?_ _) | (with_reducible refine Below.drew ?_) | (with_reducible refine below_dr ?_ _) | (with_reducible refine Below.trans ?_ (Below.mono (by with_reducible assumption) ?_)) | omega | (simp; done) | (simp; omega))
  have bW0 := Lib.hid bn
  clear hW bn
  clear rd_a0w rd_a0
  have hV0 : 0 ≤ (1048576 : Int) ∧ (1048576 : Int) ≤ 1048576 := by omega
  by_cases hfit : ((a0l.length : Nat) : Int) ≤ 1048576
  case neg =>
    replace hfit : 1048576 < ((a0l.length : Nat) : Int) := by omega
    refine (szCurve_no a0A a0c a0l a1 a2 a3 a4 a5 a6 a7 a8 1048576 _ (by omega) (by omega) hm_a0 hfit ?_ (HOK_a0.out _ _)).mono ?_
    · (refine Rd.more (B := w.heap.size) ?_ (by first | omega | ((try simp only [World.size_setCell]); (try simp only [World.size_drew]); (try simp only [World.size_alloc]); omega) | (simp; done) | (simp; omega))); (repeat' (first | with_reducible assumption | (with_reducible refine Rd.drew ?_) | (with_reducible refine Rd.carry ?_ (by with_reducible assumption) ?_) | (with_reducible refine Rd.alloc ?_ ?_ _) | (with_reducible refine Rd.setCell ?_ ?_ _) | omega | (simp; done) | (simp; omega)))
    rintro e wN ⟨rfl, hb⟩
    go_wp2_with fail
    go_ret
    have bp := bW0.out
    exact ⟨rfl, by repeat' (first | with_reducible assumption | with_reducible exact Below.refl _ _ | (with_reducible refine Below.setCell ?_ ?_ _) | (with_reducible refine Below.alloc ?_ ?_ _) | (with_reducible refine Below.drew ?_) | (with_reducible refine below_dr ?_ _) | (with_reducible refine Below.trans ?_ (Below.mono (by with_reducible assumption) ?_)) | omega | (simp; done) | (simp; omega))⟩
  case pos =>
    have hl_a0 : a0l.length ≤ 1048576 := by omega
    refine (szCurve_yes a0A a0c a0l a1 a2 a3 a4 a5 a6 a7 a8 1048576 _ (by omega) (by omega) (by omega) hfit ?_ (HOK_a0.out _ _)).mono ?_
    · (refine Rd.more (B := w.heap.size) ?_ (by first | omega | ((try simp only [World.size_setCell]); (try simp only [World.size_drew]); (try simp only [World.size_alloc]); omega) | (simp; done) | (simp; omega))); (repeat' (first | with_reducible assumption | (with_reducible refine Rd.drew ?_) | (with_reducible refine Rd.carry ?_ (by with_reducible assumption) ?_) | (with_reducible refine Rd.alloc ?_ ?_ _) | (with_reducible refine Rd.setCell ?_ ?_ _) | omega | (simp; done) | (simp; omega)))
    obtain ⟨V0, hV⟩ : ∃ V : Int, V = 1048576 - (a0l.length : Nat) := ⟨_, rfl⟩
    have hVV : 0 ≤ V0 ∧ V0 ≤ 1048576 := by omega
    rw [← hV]
    rintro e wS0 ⟨rfl, hbwS0⟩
    clear hV hfit
    obtain ⟨hV0_0, hV1_0⟩ := hVV
    have zwS0 := hbwS0.size
    (try simp only [World.size_setCell] at zwS0)
    (try simp only [World.size_drew] at zwS0)
    (try simp only [World.size_alloc] at zwS0)
    have qwS0 : w.heap.size ≤ wS0.heap.size := by omega
    have bx_awS0 : AtL (w.heap.size) [.slice a0A a0l.length a0c, .bool a1, .int .i64 a2, .bool a3, .bool a4, .int .i64 a5, .int .i64 a6, .int .i64 a7, .int .i64 a8] wS0 := by repeat' (first | with_reducible assumption | with_reducible exact AtL.new _ _ _ | ((with_reducible refine AtL.newAt ?_); (first | rfl | (simp; done))) | (with_reducible refine AtL.drew ?_) | (with_reducible refine AtL.below ?_ (by with_reducible assumption)) | (with_reducible refine AtL.alloc ?_ _) | (with_reducible refine AtL.far ?_ ?_ _ _) | omega | (simp; done) | (simp; omega))
    have rd_a0wS0 : Rd cPt 2 wS0 (w.heap.size) a0A a0l := by repeat' (first | with_reducible assumption | (with_reducible refine Rd.drew ?_) | (with_reducible refine Rd.carry ?_ (by with_reducible assumption) ?_) | (with_reducible refine Rd.alloc ?_ ?_ _) | (with_reducible refine Rd.setCell ?_ ?_ _) | omega | (simp; done) | (simp; omega))
    have bp := bW0.out
    have bn : Below w.heap.size w wS0 := by repeat' (first | with_reducible assumption | with_reducible exact Below.refl _ _ | (with_reducible refine Below.setCell ?_ ?_ _) | (with_reducible refine Below.alloc ?_ ?_ _) | (with_reducible refine Below.drew ?_) | (with_reducible refine below_dr ?_ _) | (with_reducible refine Below.trans ?_ (Below.mono (by with_reducible assumption) ?_)) | omega | (simp; done) | (simp; omega))
    have bwS0 := Lib.hid bn
    clear bn
    clear bp bW0
    clear hbwS0
    clear bx_aW0
    clear rd_a0W0
    have kbx_a0 := bx_awS0.cell 0 rfl
    have kbx_a1 := bx_awS0.cell 1 rfl
    have kbx_a2 := bx_awS0.cell 2 rfl
    have kbx_a3 := bx_awS0.cell 3 rfl
    have kbx_a4 := bx_awS0.cell 4 rfl
    have kbx_a5 := bx_awS0.cell 5 rfl
    have kbx_a6 := bx_awS0.cell 6 rfl
    have kbx_a7 := bx_awS0.cell 7 rfl
    have kbx_a8 := bx_awS0.cell 8 rfl
    have lbx_a := bx_awS0.lt
    go_wp2_with fail
    clear kbx_a0 kbx_a1 kbx_a2 kbx_a3 kbx_a4 kbx_a5 kbx_a6 kbx_a7 kbx_a8 lbx_a
    have lt_a := bx_awS0.lt
    refine (toCurve_any a0A a0c a0l a1 a2 a3 a4 a5 a6 a7 a8 _ hl_a0 ?_).mono ?_
    · (refine Rd.more (B := w.heap.size) ?_ (by first | omega | ((try simp only [World.size_setCell]); (try simp only [World.size_drew]); (try simp only [World.size_alloc]); omega) | (simp; done) | (simp; omega))); (repeat' (first | with_reducible assumption | (with_reducible refine Rd.drew ?_) | (with_reducible refine Rd.carry ?_ (by with_reducible assumption) ?_) | (with_reducible refine Rd.alloc ?_ ?_ _) | (with_reducible refine Rd.setCell ?_ ?_ _) | omega | (simp; done) | (simp; omega)))
    intro e wA hq
    obtain ⟨gA, rfl, owA, hbwA⟩ := hq
    have zwA := hbwA.size
    (try simp only [World.size_setCell] at zwA)
    (try simp only [World.size_drew] at zwA)
    (try simp only [World.size_alloc] at zwA)
    have qwA : w.heap.size ≤ wA.heap.size := by omega
    have bx_awA : AtL (w.heap.size) [.slice a0A a0l.length a0c, .bool a1, .int .i64 a2, .bool a3, .bool a4, .int .i64 a5, .int .i64 a6, .int .i64 a7, .int .i64 a8] wA := by repeat' (first | with_reducible assumption | with_reducible exact AtL.new _ _ _ | ((with_reducible refine AtL.newAt ?_); (first | rfl | (simp; done))) | (with_reducible refine AtL.drew ?_) | (with_reducible refine AtL.below ?_ (by with_reducible assumption)) | (with_reducible refine AtL.alloc ?_ _) | (with_reducible refine AtL.far ?_ ?_ _ _) | omega | (simp; done) | (simp; omega))
    have rd_a0wA : Rd cPt 2 wA (w.heap.size) a0A a0l := by repeat' (first | with_reducible assumption | (with_reducible refine Rd.drew ?_) | (with_reducible refine Rd.carry ?_ (by with_reducible assumption) ?_) | (with_reducible refine Rd.alloc ?_ ?_ _) | (with_reducible refine Rd.setCell ?_ ?_ _) | omega | (simp; done) | (simp; omega))
    have bp := bwS0.out
    have bn : Below w.heap.size w wA := by repeat' (first | with_reducible assumption | with_reducible exact Below.refl _ _ | (with_reducible refine Below.setCell ?_ ?_ _) | (with_reducible refine Below.alloc ?_ ?_ _) | (with_reducible refine Below.drew ?_) | (with_reducible refine below_dr ?_ _) | (with_reducible refine Below.trans ?_ (Below.mono (by with_reducible assumption) ?_)) | omega | (simp; done) | (simp; omega))
    have bwA := Lib.hid bn
    clear bn
    clear bp bwS0
    clear hbwA
    clear bx_awS0
    clear rd_a0wS0
    go_wp2_with fail
    refine (C1.out (some ⟨gA, 0, none⟩) a0l.length _ hl_a0 ?_).mono ?_
    · (first | exact Rd.of_own (fun a => cPt_len a) (by omega) owA (by first | exact Nat.le_refl _ | (simp; done)) | exact Rd.drew (Rd.of_own (fun a => cPt_len a) (by omega) owA (by first | exact Nat.le_refl _ | (simp; done))))
    intro e wC hq
    obtain ⟨Aw, cw, rfl, oww, hbwC⟩ := hq
    have zwC := hbwC.size
    (try simp only [World.size_setCell] at zwC)
    (try simp only [World.size_drew] at zwC)
    (try simp only [World.size_alloc] at zwC)
    have qwC : w.heap.size ≤ wC.heap.size := by omega
    have bx_awC : AtL (w.heap.size) [.slice a0A a0l.length a0c, .bool a1, .int .i64 a2, .bool a3, .bool a4, .int .i64 a5, .int .i64 a6, .int .i64 a7, .int .i64 a8] wC := by repeat' (first | with_reducible assumption | with_reducible exact AtL.new _ _ _ | ((with_reducible refine AtL.newAt ?_); (first | rfl | (simp; done))) | (with_reducible refine AtL.drew ?_) | (with_reducible refine AtL.below ?_ (by with_reducible assumption)) | (with_reducible refine AtL.alloc ?_ _) | (with_reducible refine AtL.far ?_ ?_ _ _) | omega | (simp; done) | (simp; omega))
    have rd_a0wC : Rd cPt 2 wC (w.heap.size) a0A a0l := by repeat' (first | with_reducible assumption | (with_reducible refine Rd.drew ?_) | (with_reducible refine Rd.carry ?_ (by with_reducible assumption) ?_) | (with_reducible refine Rd.alloc ?_ ?_ _) | (with_reducible refine Rd.setCell ?_ ?_ _) | omega | (simp; done) | (simp; omega))
    have bp := bwA.out
    have bn : Below w.heap.size w wC := by repeat' (first | with_reducible assumption | with_reducible exact Below.refl _ _ | (with_reducible refine Below.setCell ?_ ?_ _) | (with_reducible refine Below.alloc ?_ ?_ _) | (with_reducible refine Below.drew ?_) | (with_reducible refine below_dr ?_ _) | (with_reducible refine Below.trans ?_ (Below.mono (by with_reducible assumption) ?_)) | omega | (simp; done) | (simp; omega))
    have bwC := Lib.hid bn
    clear bn
    clear bp bwA
    clear hbwC
    clear bx_awA
    clear rd_a0wA
    clear owA
    have r1wC : Rd cI 1 wC (wC.heap.size) Aw r2 := Rd.of_own (fun a => cI_len a) (by omega) oww (Nat.le_refl _)
    clear oww
    have kbx_a0 := bx_awC.cell 0 rfl
    have kbx_a1 := bx_awC.cell 1 rfl
    have kbx_a2 := bx_awC.cell 2 rfl
    have kbx_a3 := bx_awC.cell 3 rfl
    have kbx_a4 := bx_awC.cell 4 rfl
    have kbx_a5 := bx_awC.cell 5 rfl
    have kbx_a6 := bx_awC.cell 6 rfl
    have kbx_a7 := bx_awC.cell 7 rfl
    have kbx_a8 := bx_awC.cell 8 rfl
    have lbx_a := bx_awC.lt
    go_wp2_with fail
    clear kbx_a0 kbx_a1 kbx_a2 kbx_a3 kbx_a4 kbx_a5 kbx_a6 kbx_a7 kbx_a8 lbx_a
    refine (toCurve_any a0A a0c a0l a1 a2 a3 a4 a5 a6 a7 a8 _ hl_a0 ?_).mono ?_
    · (refine Rd.more (B := w.heap.size) ?_ (by first | omega | ((try simp only [World.size_setCell]); (try simp only [World.size_drew]); (try simp only [World.size_alloc]); omega) | (simp; done) | (simp; omega))); (repeat' (first | with_reducible assumption | (with_reducible refine Rd.drew ?_) | (with_reducible refine Rd.carry ?_ (by with_reducible assumption) ?_) | (with_reducible refine Rd.alloc ?_ ?_ _) | (with_reducible refine Rd.setCell ?_ ?_ _) | omega | (simp; done) | (simp; omega)))
    intro e wX hq
    obtain ⟨gX, rfl, owX, hbwX⟩ := hq
    have zwX := hbwX.size
    (try simp only [World.size_setCell] at zwX)
    (try simp only [World.size_drew] at zwX)
    (try simp only [World.size_alloc] at zwX)
    have qwX : w.heap.size ≤ wX.heap.size := by omega
    have bx_awX : AtL (w.heap.size) [.slice a0A a0l.length a0c, .bool a1, .int .i64 a2, .bool a3, .bool a4, .int .i64 a5, .int .i64 a6, .int .i64 a7, .int .i64 a8] wX := by repeat' (first | with_reducible assumption | with_reducible exact AtL.new _ _ _ | ((with_reducible refine AtL.newAt ?_); (first | rfl | (simp; done))) | (with_reducible refine AtL.drew ?_) | (with_reducible refine AtL.below ?_ (by with_reducible assumption)) | (with_reducible refine AtL.alloc ?_ _) | (with_reducible refine AtL.far ?_ ?_ _ _) | omega | (simp; done) | (simp; omega))
    have rd_a0wX : Rd cPt 2 wX (w.heap.size) a0A a0l := by repeat' (first | with_reducible assumption | (with_reducible refine Rd.drew ?_) | (with_reducible refine Rd.carry ?_ (by with_reducible assumption) ?_) | (with_reducible refine Rd.alloc ?_ ?_ _) | (with_reducible refine Rd.setCell ?_ ?_ _) | omega | (simp; done) | (simp; omega))
    have r1wX : Rd cI 1 wX (wC.heap.size) Aw r2 := by repeat' (first | with_reducible assumption | (with_reducible refine Rd.drew ?_) | (with_reducible refine Rd.carry ?_ (by with_reducible assumption) ?_) | (with_reducible refine Rd.alloc ?_ ?_ _) | (with_reducible refine Rd.setCell ?_ ?_ _) | omega | (simp; done) | (simp; omega))
    have bp := bwC.out
    have bn : Below w.heap.size w wX := by repeat' (first | with_reducible assumption | with_reducible exact Below.refl _ _ | (with_reducible refine Below.setCell ?_ ?_ _) | (with_reducible refine Below.alloc ?_ ?_ _) | (with_reducible refine Below.drew ?_) | (with_reducible refine below_dr ?_ _) | (with_reducible refine Below.trans ?_ (Below.mono (by with_reducible assumption) ?_)) | omega | (simp; done) | (simp; omega))
    have bwX := Lib.hid bn
    clear bn
    clear bp bwC
    clear hbwX
    clear bx_awC
    clear rd_a0wC
    clear r1wC
    have rxwX : Rd cPt 2 wX (wX.heap.size) (some ⟨gX, 0, none⟩) a0l := Rd.of_own (fun a => cPt_len a) (by omega) owX (Nat.le_refl _)
    have ROWX := Lib.hid (fun q (hq : (Value.slice (some ⟨gX, 0, none⟩) a0l.length a0l.length).ownBlock = some q) => own_block owX hq)
    have oxwX := owX
    clear owX
    go_wp2_with fail
    refine (C2.out (some ⟨gX, 0, none⟩) a0l.length _ hl_a0 ?_).mono ?_
    · (refine Rd.more (B := wX.heap.size) ?_ (by first | omega | ((try simp only [World.size_setCell]); (try simp only [World.size_drew]); (try simp only [World.size_alloc]); omega) | (simp; done) | (simp; omega))); (repeat' (first | with_reducible assumption | (with_reducible refine Rd.drew ?_) | (with_reducible refine Rd.carry ?_ (by with_reducible assumption) ?_) | (with_reducible refine Rd.alloc ?_ ?_ _) | (with_reducible refine Rd.setCell ?_ ?_ _) | omega | (simp; done) | (simp; omega)))
    intro e wD hq
    obtain ⟨Ag, cg, rfl, owg, hbwD⟩ := hq
    have zwD := hbwD.size
    (try simp only [World.size_setCell] at zwD)
    (try simp only [World.size_drew] at zwD)
    (try simp only [World.size_alloc] at zwD)
    have qwD : w.heap.size ≤ wD.heap.size := by omega
    have bx_awD : AtL (w.heap.size) [.slice a0A a0l.length a0c, .bool a1, .int .i64 a2, .bool a3, .bool a4, .int .i64 a5, .int .i64 a6, .int .i64 a7, .int .i64 a8] wD := by repeat' (first | with_reducible assumption | with_reducible exact AtL.new _ _ _ | ((with_reducible refine AtL.newAt ?_); (first | rfl | (simp; done))) | (with_reducible refine AtL.drew ?_) | (with_reducible refine AtL.below ?_ (by with_reducible assumption)) | (with_reducible refine AtL.alloc ?_ _) | (with_reducible refine AtL.far ?_ ?_ _ _) | omega | (simp; done) | (simp; omega))
    have rd_a0wD : Rd cPt 2 wD (w.heap.size) a0A a0l := by repeat' (first | with_reducible assumption | (with_reducible refine Rd.drew ?_) | (with_reducible refine Rd.carry ?_ (by with_reducible assumption) ?_) | (with_reducible refine Rd.alloc ?_ ?_ _) | (with_reducible refine Rd.setCell ?_ ?_ _) | omega | (simp; done) | (simp; omega))
    have r1wD : Rd cI 1 wD (wC.heap.size) Aw r2 := by repeat' (first | with_reducible assumption | (with_reducible refine Rd.drew ?_) | (with_reducible refine Rd.carry ?_ (by with_reducible assumption) ?_) | (with_reducible refine Rd.alloc ?_ ?_ _) | (with_reducible refine Rd.setCell ?_ ?_ _) | omega | (simp; done) | (simp; omega))
    have rxwD : Rd cPt 2 wD (wX.heap.size) (some ⟨gX, 0, none⟩) a0l := by repeat' (first | with_reducible assumption | (with_reducible refine Rd.drew ?_) | (with_reducible refine Rd.carry ?_ (by with_reducible assumption) ?_) | (with_reducible refine Rd.alloc ?_ ?_ _) | (with_reducible refine Rd.setCell ?_ ?_ _) | omega | (simp; done) | (simp; omega))
    have oxwD : wD.ownsRow (wC.heap.size) 24 2 (.slice (some ⟨gX, 0, none⟩) a0l.length a0l.length) a0l.length (cellsF cPt a0l) := by repeat' (first | with_reducible assumption | (with_reducible refine own_drew ?_) | (with_reducible refine own_stays ?_ (by with_reducible assumption)) | (with_reducible refine World.ownsRow.alloc ?_ _))
    have at_xwD : AtL (wX.heap.size) [.slice (some ⟨gX, 0, none⟩) a0l.length a0l.length, .bool a1, .int .i64 a2, .bool a3, .bool a4, .int .i64 a5, .int .i64 a6, .int .i64 a7, .int .i64 a8] wD := by repeat' (first | with_reducible assumption | with_reducible exact AtL.new _ _ _ | ((with_reducible refine AtL.newAt ?_); (first | rfl | (simp; done))) | (with_reducible refine AtL.drew ?_) | (with_reducible refine AtL.below ?_ (by with_reducible assumption)) | (with_reducible refine AtL.alloc ?_ _) | (with_reducible refine AtL.far ?_ ?_ _ _) | omega | (simp; done) | (simp; omega))
    have bp := bwX.out
    have bn : Below w.heap.size w wD := by repeat' (first | with_reducible assumption | with_reducible exact Below.refl _ _ | (with_reducible refine Below.setCell ?_ ?_ _) | (with_reducible refine Below.alloc ?_ ?_ _) | (with_reducible refine Below.drew ?_) | (with_reducible refine below_dr ?_ _) | (with_reducible refine Below.trans ?_ (Below.mono (by with_reducible assumption) ?_)) | omega | (simp; done) | (simp; omega))
    have bwD := Lib.hid bn
    clear bn
    clear bp bwX
    clear hbwD
    clear bx_awX
    clear rd_a0wX
    clear r1wX
    clear rxwX
    clear oxwX
    have zxd : wX.heap.size < wD.heap.size := at_xwD.lt
    have ogwD := own_base (base := wX.heap.size + 1) owg (by first | exact Nat.le_refl _ | (simp; done) | (simp; omega))
    clear owg
    have OBg := Lib.hid (fun r hr => own_block ogwD (q := r) hr)
    go_wp2_with fail
    refine (eqInt64S_same r2 Ag Aw cg cw _ (by omega) ?_ ?_).mono ?_
    · refine Rd.of_own (fun a => cI_len a) (by omega) (base := wX.heap.size + 1) (e := 2) (n := r2.length) (c := cg) ?_ (Nat.le_refl _); (repeat' (first | with_reducible assumption | (with_reducible refine own_drew ?_) | (with_reducible refine own_stays ?_ (by with_reducible assumption)) | (with_reducible refine World.ownsRow.alloc ?_ _)))
    · refine Rd.more (B := wC.heap.size) ?_ (by (try simp only [World.size_drew]); (try simp only [World.size_alloc]); omega)
      repeat' (first | with_reducible assumption | (with_reducible refine Rd.drew ?_) | (with_reducible refine Rd.carry ?_ (by with_reducible assumption) ?_) | (with_reducible refine Rd.alloc ?_ ?_ _) | (with_reducible refine Rd.setCell ?_ ?_ _) | omega | (simp; done) | (simp; omega))
    rintro e wE ⟨rfl, hbwE⟩
    have zwE := hbwE.size
    (try simp only [World.size_setCell] at zwE)
    (try simp only [World.size_drew] at zwE)
    (try simp only [World.size_alloc] at zwE)
    have qwE : w.heap.size ≤ wE.heap.size := by omega
    have bx_awE : AtL (w.heap.size) [.slice a0A a0l.length a0c, .bool a1, .int .i64 a2, .bool a3, .bool a4, .int .i64 a5, .int .i64 a6, .int .i64 a7, .int .i64 a8] wE := by repeat' (first | with_reducible assumption | with_reducible exact AtL.new _ _ _ | ((with_reducible refine AtL.newAt ?_); (first | rfl | (simp; done))) | (with_reducible refine AtL.drew ?_) | (with_reducible refine AtL.below ?_ (by with_reducible assumption)) | (with_reducible refine AtL.alloc ?_ _) | (with_reducible refine AtL.far ?_ ?_ _ _) | omega | (simp; done) | (simp; omega))
    have rd_a0wE : Rd cPt 2 wE (w.heap.size) a0A a0l := by repeat' (first | with_reducible assumption | (with_reducible refine Rd.drew ?_) | (with_reducible refine Rd.carry ?_ (by with_reducible assumption) ?_) | (with_reducible refine Rd.alloc ?_ ?_ _) | (with_reducible refine Rd.setCell ?_ ?_ _) | omega | (simp; done) | (simp; omega))
    have r1wE : Rd cI 1 wE (wC.heap.size) Aw r2 := by repeat' (first | with_reducible assumption | (with_reducible refine Rd.drew ?_) | (with_reducible refine Rd.carry ?_ (by with_reducible assumption) ?_) | (with_reducible refine Rd.alloc ?_ ?_ _) | (with_reducible refine Rd.setCell ?_ ?_ _) | omega | (simp; done) | (simp; omega))
    have rxwE : Rd cPt 2 wE (wX.heap.size) (some ⟨gX, 0, none⟩) a0l := by repeat' (first | with_reducible assumption | (with_reducible refine Rd.drew ?_) | (with_reducible refine Rd.carry ?_ (by with_reducible assumption) ?_) | (with_reducible refine Rd.alloc ?_ ?_ _) | (with_reducible refine Rd.setCell ?_ ?_ _) | omega | (simp; done) | (simp; omega))
    have oxwE : wE.ownsRow (wC.heap.size) 24 2 (.slice (some ⟨gX, 0, none⟩) a0l.length a0l.length) a0l.length (cellsF cPt a0l) := by repeat' (first | with_reducible assumption | (with_reducible refine own_drew ?_) | (with_reducible refine own_stays ?_ (by with_reducible assumption)) | (with_reducible refine World.ownsRow.alloc ?_ _))
    have at_xwE : AtL (wX.heap.size) [.slice (some ⟨gX, 0, none⟩) a0l.length a0l.length, .bool a1, .int .i64 a2, .bool a3, .bool a4, .int .i64 a5, .int .i64 a6, .int .i64 a7, .int .i64 a8] wE := by repeat' (first | with_reducible assumption | with_reducible exact AtL.new _ _ _ | ((with_reducible refine AtL.newAt ?_); (first | rfl | (simp; done))) | (with_reducible refine AtL.drew ?_) | (with_reducible refine AtL.below ?_ (by with_reducible assumption)) | (with_reducible refine AtL.alloc ?_ _) | (with_reducible refine AtL.far ?_ ?_ _ _) | omega | (simp; done) | (simp; omega))
    have ogwE : wE.ownsRow (wX.heap.size + 1) 2 1 (.slice Ag r2.length cg) r2.length (cellsF cI r2) := by repeat' (first | with_reducible assumption | (with_reducible refine own_drew ?_) | (with_reducible refine own_stays ?_ (by with_reducible assumption)) | (with_reducible refine World.ownsRow.alloc ?_ _))
    have bp := bwD.out
    have bn : Below w.heap.size w wE := by repeat' (first | with_reducible assumption | with_reducible exact Below.refl _ _ | (with_reducible refine Below.setCell ?_ ?_ _) | (with_reducible refine Below.alloc ?_ ?_ _) | (with_reducible refine Below.drew ?_) | (with_reducible refine below_dr ?_ _) | (with_reducible refine Below.trans ?_ (Below.mono (by with_reducible assumption) ?_)) | omega | (simp; done) | (simp; omega))
    have bwE := Lib.hid bn
    clear bn
    clear bp bwD
    clear hbwE
    clear bx_awD
    clear rd_a0wD
    clear r1wD
    clear rxwD
    clear oxwD
    clear at_xwD
    clear ogwD
    have kat_x0 := at_xwE.cell 0 rfl
    have kat_x1 := at_xwE.cell 1 rfl
    have kat_x2 := at_xwE.cell 2 rfl
    have kat_x3 := at_xwE.cell 3 rfl
    have kat_x4 := at_xwE.cell 4 rfl
    have kat_x5 := at_xwE.cell 5 rfl
    have kat_x6 := at_xwE.cell 6 rfl
    have kat_x7 := at_xwE.cell 7 rfl
    have kat_x8 := at_xwE.cell 8 rfl
    have lat_x := at_xwE.lt
    have kbx_a0 := bx_awE.cell 0 rfl
    have kbx_a1 := bx_awE.cell 1 rfl
    have kbx_a2 := bx_awE.cell 2 rfl
    have kbx_a3 := bx_awE.cell 3 rfl
    have kbx_a4 := bx_awE.cell 4 rfl
    have kbx_a5 := bx_awE.cell 5 rfl
    have kbx_a6 := bx_awE.cell 6 rfl
    have kbx_a7 := bx_awE.cell 7 rfl
    have kbx_a8 := bx_awE.cell 8 rfl
    have lbx_a := bx_awE.lt
    go_wp2_with fail
    go_region_held3 (fun w' => (∀ b o, b < wE.heap.size → w'.cell? ⟨b, o, none⟩ = wE.cell? ⟨b, o, none⟩) ∧ wE.heap.size ≤ w'.heap.size)
      (first | ((try dsimp only); exact ⟨fun b o h => (by (repeat (first | with_reducible exact rfl | (with_reducible refine (cell_drew_at _ _).trans ?_) | (with_reducible refine (cell_set_at _ _ (by first | omega | (simp; done) | (simp; omega))).trans ?_) | (with_reducible refine (cell_alloc_at _ _ (by first | omega | (simp; done) | (simp; omega))).trans ?_) | (with_reducible refine (hcwT b o (by first | omega | (simp; done) | (simp; omega))).trans ?_) | (with_reducible refine (hcwG b o (by first | omega | (simp; done) | (simp; omega))).trans ?_)))), (by first | omega | (simp; done) | (simp; omega))⟩) | fail)
      (first
        | (go_at_call 15; (with_reducible refine (toCurve_any a0A a0c a0l a1 a2 a3 a4 a5 a6 a7 a8 _ hl_a0 ?_).mono ?_); (focus ((refine Rd.more (B := w.heap.size) ?_ (by first | omega | ((try simp only [World.size_setCell]); (try simp only [World.size_drew]); (try simp only [World.size_alloc]); omega) | (simp; done) | (simp; omega))); (repeat' (first | with_reducible assumption | (with_reducible refine Rd.drew ?_) | (with_reducible refine Rd.carry ?_ (by with_reducible assumption) ?_) | (with_reducible refine Rd.alloc ?_ ?_ _) | (with_reducible refine Rd.setCell ?_ ?_ _) | omega | (simp; done) | (simp; omega))))); intro e wT hq; obtain ⟨g_owE_a0, rfl, owE_a0, hbwT⟩ := hq; obtain ⟨hcwT, hfwT⟩ := bcell hbwT; have hzwT := hbwT.size; (try simp only [World.size_drew] at hcwT hfwT hzwT); (try simp only [World.size_alloc] at hcwT hfwT hzwT))
        | (go_at_call 17; (with_reducible refine (eqCurve_same (some ⟨gX, 0, none⟩) a0l.length a0l a1 a2 a3 a4 a5 a6 a7 a8 (some ⟨g_owE_a0, 0, none⟩) a0l.length _ (by omega) ?_ ?_).mono ?_); (focus ((refine Rd.more (B := wX.heap.size) ?_ (by first | omega | ((try simp only [World.size_setCell]); (try simp only [World.size_drew]); (try simp only [World.size_alloc]); omega) | (simp; done) | (simp; omega))); (repeat' (first | with_reducible assumption | (with_reducible refine Rd.drew ?_) | (with_reducible refine Rd.carry ?_ (by with_reducible assumption) ?_) | (with_reducible refine Rd.alloc ?_ ?_ _) | (with_reducible refine Rd.setCell ?_ ?_ _) | omega | (simp; done) | (simp; omega))))); (focus ((first | exact Rd.of_own (fun a => cPt_len a) (by omega) owE_a0 (by first | exact Nat.le_refl _ | (simp; done)) | exact Rd.drew (Rd.of_own (fun a => cPt_len a) (by omega) owE_a0 (by first | exact Nat.le_refl _ | (simp; done)))))); rintro e wG ⟨rfl, hbwG⟩; obtain ⟨hcwG, hfwG⟩ := bcell hbwG; have hzwG := hbwG.size; (try simp only [World.size_drew] at hcwG hfwG hzwG); (try simp only [World.size_alloc] at hcwG hfwG hzwG)))
    clear kat_x0 kat_x1 kat_x2 kat_x3 kat_x4 kat_x5 kat_x6 kat_x7 kat_x8 lat_x
    clear kbx_a0 kbx_a1 kbx_a2 kbx_a3 kbx_a4 kbx_a5 kbx_a6 kbx_a7 kbx_a8 lbx_a
    all_goals
      have zwG := hbwG.size
      (try simp only [World.size_setCell] at zwG)
      (try simp only [World.size_drew] at zwG)
      (try simp only [World.size_alloc] at zwG)
      have qwG : w.heap.size ≤ wG.heap.size := by omega
      have bx_awG : AtL (w.heap.size) [.slice a0A a0l.length a0c, .bool a1, .int .i64 a2, .bool a3, .bool a4, .int .i64 a5, .int .i64 a6, .int .i64 a7, .int .i64 a8] wG := by repeat' (first | with_reducible assumption | with_reducible exact AtL.new _ _ _ | ((with_reducible refine AtL.newAt ?_); (first | rfl | (simp; done))) | (with_reducible refine AtL.drew ?_) | (with_reducible refine AtL.below ?_ (by with_reducible assumption)) | (with_reducible refine AtL.alloc ?_ _) | (with_reducible refine AtL.far ?_ ?_ _ _) | omega | (simp; done) | (simp; omega))
      have rd_a0wG : Rd cPt 2 wG (w.heap.size) a0A a0l := by repeat' (first | with_reducible assumption | (with_reducible refine Rd.drew ?_) | (with_reducible refine Rd.carry ?_ (by with_reducible assumption) ?_) | (with_reducible refine Rd.alloc ?_ ?_ _) | (with_reducible refine Rd.setCell ?_ ?_ _) | omega | (simp; done) | (simp; omega))
      have r1wG : Rd cI 1 wG (wC.heap.size) Aw r2 := by repeat' (first | with_reducible assumption | (with_reducible refine Rd.drew ?_) | (with_reducible refine Rd.carry ?_ (by with_reducible assumption) ?_) | (with_reducible refine Rd.alloc ?_ ?_ _) | (with_reducible refine Rd.setCell ?_ ?_ _) | omega | (simp; done) | (simp; omega))
      have rxwG : Rd cPt 2 wG (wX.heap.size) (some ⟨gX, 0, none⟩) a0l := by repeat' (first | with_reducible assumption | (with_reducible refine Rd.drew ?_) | (with_reducible refine Rd.carry ?_ (by with_reducible assumption) ?_) | (with_reducible refine Rd.alloc ?_ ?_ _) | (with_reducible refine Rd.setCell ?_ ?_ _) | omega | (simp; done) | (simp; omega))
      have oxwG : wG.ownsRow (wC.heap.size) 24 2 (.slice (some ⟨gX, 0, none⟩) a0l.length a0l.length) a0l.length (cellsF cPt a0l) := by repeat' (first | with_reducible assumption | (with_reducible refine own_drew ?_) | (with_reducible refine own_stays ?_ (by with_reducible assumption)) | (with_reducible refine World.ownsRow.alloc ?_ _))
      have at_xwG : AtL (wX.heap.size) [.slice (some ⟨gX, 0, none⟩) a0l.length a0l.length, .bool a1, .int .i64 a2, .bool a3, .bool a4, .int .i64 a5, .int .i64 a6, .int .i64 a7, .int .i64 a8] wG := by repeat' (first | with_reducible assumption | with_reducible exact AtL.new _ _ _ | ((with_reducible refine AtL.newAt ?_); (first | rfl | (simp; done))) | (with_reducible refine AtL.drew ?_) | (with_reducible refine AtL.below ?_ (by with_reducible assumption)) | (with_reducible refine AtL.alloc ?_ _) | (with_reducible refine AtL.far ?_ ?_ _ _) | omega | (simp; done) | (simp; omega))
      have ogwG : wG.ownsRow (wX.heap.size + 1) 2 1 (.slice Ag r2.length cg) r2.length (cellsF cI r2) := by repeat' (first | with_reducible assumption | (with_reducible refine own_drew ?_) | (with_reducible refine own_stays ?_ (by with_reducible assumption)) | (with_reducible refine World.ownsRow.alloc ?_ _))
      have bp := bwE.out
      have bn : Below w.heap.size w wG := by repeat' (first | with_reducible assumption | with_reducible exact Below.refl _ _ | (with_reducible refine Below.setCell ?_ ?_ _) | (with_reducible refine Below.alloc ?_ ?_ _) | (with_reducible refine Below.drew ?_) | (with_reducible refine below_dr ?_ _) | (with_reducible refine Below.trans ?_ (Below.mono (by with_reducible assumption) ?_)) | omega | (simp; done) | (simp; omega))
      have bwG := Lib.hid bn
      clear bn
      clear bp bwE
      clear hbwG
      clear bx_awE
      clear rd_a0wE
      clear r1wE
      clear rxwE
      clear oxwE
      clear at_xwE
      clear ogwE
      clear hbwT hcwT hfwT hcwG hfwG
      have kat_x0 := at_xwG.cell 0 rfl
      have kat_x1 := at_xwG.cell 1 rfl
      have kat_x2 := at_xwG.cell 2 rfl
      have kat_x3 := at_xwG.cell 3 rfl
      have kat_x4 := at_xwG.cell 4 rfl
      have kat_x5 := at_xwG.cell 5 rfl
      have kat_x6 := at_xwG.cell 6 rfl
      have kat_x7 := at_xwG.cell 7 rfl
      have kat_x8 := at_xwG.cell 8 rfl
      have lat_x := at_xwG.lt
      go_wp2_with fail
      clear kat_x0 kat_x1 kat_x2 kat_x3 kat_x4 kat_x5 kat_x6 kat_x7 kat_x8 lat_x
      refine (markCurve_any (some ⟨gX, 0, none⟩) a0l.length a1 a2 a3 a4 a5 a6 a7 a8 1 a0l.length (wC.heap.size) (cellsF cPt a0l) _ (by omega) (by omega) (by repeat' (first | with_reducible assumption | (with_reducible refine own_drew ?_) | (with_reducible refine own_stays ?_ (by with_reducible assumption)) | (with_reducible refine World.ownsRow.alloc ?_ _)))).mono ?_
      rw [← HM1.out]
      rintro e wH ⟨rfl, omwH, hg⟩
      have zwH := hg.size
      have qwH : w.heap.size ≤ wH.heap.size := by omega
      have bp := bwG.out
      have bn : Below w.heap.size w wH := by exact below_of_grown (by repeat' (first | with_reducible assumption | with_reducible exact Below.refl _ _ | (with_reducible refine Below.setCell ?_ ?_ _) | (with_reducible refine Below.alloc ?_ ?_ _) | (with_reducible refine Below.drew ?_) | (with_reducible refine below_dr ?_ _) | (with_reducible refine Below.trans ?_ (Below.mono (by with_reducible assumption) ?_)) | omega | (simp; done) | (simp; omega))) hg (by omega) (fun q hq => by have := ROWX.out q hq; omega)
      have bwH := Lib.hid bn
      clear bn
      clear bp bwG
      have bx_awH : AtL (w.heap.size) [.slice a0A a0l.length a0c, .bool a1, .int .i64 a2, .bool a3, .bool a4, .int .i64 a5, .int .i64 a6, .int .i64 a7, .int .i64 a8] wH := AtL.grown (bx_awG) hg (fun q hq => by have := ROWX.out q hq; omega)
      have rd_a0wH : Rd cPt 2 wH (w.heap.size) a0A a0l := Rd.grown2 rd_a0wG hg (by omega) (fun q hq => by have := ROWX.out q hq; omega)
      have r1wH : Rd cI 1 wH (wC.heap.size) Aw r2 := Rd.grown2 r1wG hg (by omega) (fun q hq => by have := ROWX.out q hq; omega)
      have at_xwH : AtL (wX.heap.size) [.slice (some ⟨gX, 0, none⟩) a0l.length a0l.length, .bool a1, .int .i64 a2, .bool a3, .bool a4, .int .i64 a5, .int .i64 a6, .int .i64 a7, .int .i64 a8] wH := AtL.grown (at_xwG) hg (fun q hq => by have := ROWX.out q hq; omega)
      have ogwH : wH.ownsRow (wX.heap.size + 1) 2 1 (.slice Ag r2.length cg) r2.length (cellsF cI r2) := own_grown ogwG hg (fun q h1 h2 => by have h3 := ROWX.out q h2; have h4 := own_block ogwG h1; omega)
      clear hg bx_awG rd_a0wG r1wG rxwG oxwG at_xwG ogwG
      clear omwH
      clear at_xwH
      have ROWG := Lib.hid (fun q (hq : (Value.slice Ag r2.length cg).ownBlock = some q) => (⟨(own_block ogwH hq).1, (OBg.out q hq).2⟩ : wX.heap.size + 1 ≤ q ∧ q < wD.heap.size))
      go_wp2_with fail
      refine (eqInt64S_same r2 Ag Aw cg cw _ (by omega) ?_ ?_).mono ?_
      · refine Rd.of_own (fun a => cI_len a) (by omega) (base := wX.heap.size + 1) (e := 2) (n := r2.length) (c := cg) ?_ (Nat.le_refl _); (repeat' (first | with_reducible assumption | (with_reducible refine own_drew ?_) | (with_reducible refine own_stays ?_ (by with_reducible assumption)) | (with_reducible refine World.ownsRow.alloc ?_ _)))
      · refine Rd.more (B := wC.heap.size) ?_ (by (try simp only [World.size_drew]); (try simp only [World.size_alloc]); omega)
        repeat' (first | with_reducible assumption | (with_reducible refine Rd.drew ?_) | (with_reducible refine Rd.carry ?_ (by with_reducible assumption) ?_) | (with_reducible refine Rd.alloc ?_ ?_ _) | (with_reducible refine Rd.setCell ?_ ?_ _) | omega | (simp; done) | (simp; omega))
      rintro e wJ ⟨rfl, hbwJ⟩
      have zwJ := hbwJ.size
      (try simp only [World.size_setCell] at zwJ)
      (try simp only [World.size_drew] at zwJ)
      (try simp only [World.size_alloc] at zwJ)
      have qwJ : w.heap.size ≤ wJ.heap.size := by omega
      have bx_awJ : AtL (w.heap.size) [.slice a0A a0l.length a0c, .bool a1, .int .i64 a2, .bool a3, .bool a4, .int .i64 a5, .int .i64 a6, .int .i64 a7, .int .i64 a8] wJ := by repeat' (first | with_reducible assumption | with_reducible exact AtL.new _ _ _ | ((with_reducible refine AtL.newAt ?_); (first | rfl | (simp; done))) | (with_reducible refine AtL.drew ?_) | (with_reducible refine AtL.below ?_ (by with_reducible assumption)) | (with_reducible refine AtL.alloc ?_ _) | (with_reducible refine AtL.far ?_ ?_ _ _) | omega | (simp; done) | (simp; omega))
      have rd_a0wJ : Rd cPt 2 wJ (w.heap.size) a0A a0l := by repeat' (first | with_reducible assumption | (with_reducible refine Rd.drew ?_) | (with_reducible refine Rd.carry ?_ (by with_reducible assumption) ?_) | (with_reducible refine Rd.alloc ?_ ?_ _) | (with_reducible refine Rd.setCell ?_ ?_ _) | omega | (simp; done) | (simp; omega))
      have r1wJ : Rd cI 1 wJ (wC.heap.size) Aw r2 := by repeat' (first | with_reducible assumption | (with_reducible refine Rd.drew ?_) | (with_reducible refine Rd.carry ?_ (by with_reducible assumption) ?_) | (with_reducible refine Rd.alloc ?_ ?_ _) | (with_reducible refine Rd.setCell ?_ ?_ _) | omega | (simp; done) | (simp; omega))
      have ogwJ : wJ.ownsRow (wX.heap.size + 1) 2 1 (.slice Ag r2.length cg) r2.length (cellsF cI r2) := by repeat' (first | with_reducible assumption | (with_reducible refine own_drew ?_) | (with_reducible refine own_stays ?_ (by with_reducible assumption)) | (with_reducible refine World.ownsRow.alloc ?_ _))
      have bp := bwH.out
      have bn : Below w.heap.size w wJ := by repeat' (first | with_reducible assumption | with_reducible exact Below.refl _ _ | (with_reducible refine Below.setCell ?_ ?_ _) | (with_reducible refine Below.alloc ?_ ?_ _) | (with_reducible refine Below.drew ?_) | (with_reducible refine below_dr ?_ _) | (with_reducible refine Below.trans ?_ (Below.mono (by with_reducible assumption) ?_)) | omega | (simp; done) | (simp; omega))
      have bwJ := Lib.hid bn
      clear bn
      clear bp bwH
      clear hbwJ
      clear bx_awH
      clear rd_a0wH
      clear r1wH
      clear ogwH
      go_wp2_with fail
      refine (markInt64S_any 1 r2.length Ag cg (wX.heap.size + 1) (cellsF cI r2) _ (by omega) (by omega) (by repeat' (first | with_reducible assumption | (with_reducible refine own_drew ?_) | (with_reducible refine own_stays ?_ (by with_reducible assumption)) | (with_reducible refine World.ownsRow.alloc ?_ _)))).mono ?_
      rw [← HM.out]
      rintro e wK ⟨rfl, omwK, hg⟩
      have zwK := hg.size
      have qwK : w.heap.size ≤ wK.heap.size := by omega
      have bp := bwJ.out
      have bn : Below w.heap.size w wK := by exact below_of_grown (by repeat' (first | with_reducible assumption | with_reducible exact Below.refl _ _ | (with_reducible refine Below.setCell ?_ ?_ _) | (with_reducible refine Below.alloc ?_ ?_ _) | (with_reducible refine Below.drew ?_) | (with_reducible refine below_dr ?_ _) | (with_reducible refine Below.trans ?_ (Below.mono (by with_reducible assumption) ?_)) | omega | (simp; done) | (simp; omega))) hg (by omega) (fun q hq => by have := ROWG.out q hq; omega)
      have bwK := Lib.hid bn
      clear bn
      clear bp bwJ
      have bx_awK : AtL (w.heap.size) [.slice a0A a0l.length a0c, .bool a1, .int .i64 a2, .bool a3, .bool a4, .int .i64 a5, .int .i64 a6, .int .i64 a7, .int .i64 a8] wK := AtL.grown (bx_awJ) hg (fun q hq => by have := ROWG.out q hq; omega)
      have rd_a0wK : Rd cPt 2 wK (w.heap.size) a0A a0l := Rd.grown2 rd_a0wJ hg (by omega) (fun q hq => by have := ROWG.out q hq; omega)
      have r1wK : Rd cI 1 wK (wC.heap.size) Aw r2 := Rd.grown2 r1wJ hg (by omega) (fun q hq => by have := ROWG.out q hq; omega)
      clear hg bx_awJ rd_a0wJ r1wJ ogwJ
      go_wp2_with fail
      refine (heldInt64S_any 1 r2.length Ag cg _ (by omega) (by omega) ?_).mono ?_
      · refine Rd.of_own (fun a => cI_len a) (by omega) (base := wX.heap.size + 1) (e := 2) (n := r2.length) (c := cg) ?_ (Nat.le_refl _); (repeat' (first | with_reducible assumption | (with_reducible refine own_drew ?_) | (with_reducible refine own_stays ?_ (by with_reducible assumption)) | (with_reducible refine World.ownsRow.alloc ?_ _)))
      rw [← HM.out]
      rintro e wL ⟨rfl, hbwL⟩
      have zwL := hbwL.size
      (try simp only [World.size_setCell] at zwL)
      (try simp only [World.size_drew] at zwL)
      (try simp only [World.size_alloc] at zwL)
      have qwL : w.heap.size ≤ wL.heap.size := by omega
      have bx_awL : AtL (w.heap.size) [.slice a0A a0l.length a0c, .bool a1, .int .i64 a2, .bool a3, .bool a4, .int .i64 a5, .int .i64 a6, .int .i64 a7, .int .i64 a8] wL := by repeat' (first | with_reducible assumption | with_reducible exact AtL.new _ _ _ | ((with_reducible refine AtL.newAt ?_); (first | rfl | (simp; done))) | (with_reducible refine AtL.drew ?_) | (with_reducible refine AtL.below ?_ (by with_reducible assumption)) | (with_reducible refine AtL.alloc ?_ _) | (with_reducible refine AtL.far ?_ ?_ _ _) | omega | (simp; done) | (simp; omega))
      have rd_a0wL : Rd cPt 2 wL (w.heap.size) a0A a0l := by repeat' (first | with_reducible assumption | (with_reducible refine Rd.drew ?_) | (with_reducible refine Rd.carry ?_ (by with_reducible assumption) ?_) | (with_reducible refine Rd.alloc ?_ ?_ _) | (with_reducible refine Rd.setCell ?_ ?_ _) | omega | (simp; done) | (simp; omega))
      have r1wL : Rd cI 1 wL (wC.heap.size) Aw r2 := by repeat' (first | with_reducible assumption | (with_reducible refine Rd.drew ?_) | (with_reducible refine Rd.carry ?_ (by with_reducible assumption) ?_) | (with_reducible refine Rd.alloc ?_ ?_ _) | (with_reducible refine Rd.setCell ?_ ?_ _) | omega | (simp; done) | (simp; omega))
      have omwL : wL.ownsRow (wX.heap.size + 1) 2 1 (.slice Ag r2.length cg) r2.length (cellsF cI (marksI 1 r2.length)) := by repeat' (first | with_reducible assumption | (with_reducible refine own_drew ?_) | (with_reducible refine own_stays ?_ (by with_reducible assumption)) | (with_reducible refine World.ownsRow.alloc ?_ _))
      have bp := bwK.out
      have bn : Below w.heap.size w wL := by repeat' (first | with_reducible assumption | with_reducible exact Below.refl _ _ | (with_reducible refine Below.setCell ?_ ?_ _) | (with_reducible refine Below.alloc ?_ ?_ _) | (with_reducible refine Below.drew ?_) | (with_reducible refine below_dr ?_ _) | (with_reducible refine Below.trans ?_ (Below.mono (by with_reducible assumption) ?_)) | omega | (simp; done) | (simp; omega))
      have bwL := Lib.hid bn
      clear bn
      clear bp bwK
      clear hbwL
      clear bx_awK
      clear rd_a0wK
      clear r1wK
      clear omwK
      have kbx_a0 := bx_awL.cell 0 rfl
      have kbx_a1 := bx_awL.cell 1 rfl
      have kbx_a2 := bx_awL.cell 2 rfl
      have kbx_a3 := bx_awL.cell 3 rfl
      have kbx_a4 := bx_awL.cell 4 rfl
      have kbx_a5 := bx_awL.cell 5 rfl
      have kbx_a6 := bx_awL.cell 6 rfl
      have kbx_a7 := bx_awL.cell 7 rfl
      have kbx_a8 := bx_awL.cell 8 rfl
      have lbx_a := bx_awL.lt
      go_wp2_with fail
      clear kbx_a0 kbx_a1 kbx_a2 kbx_a3 kbx_a4 kbx_a5 kbx_a6 kbx_a7 kbx_a8 lbx_a
      refine (toCurve_any a0A a0c a0l a1 a2 a3 a4 a5 a6 a7 a8 _ hl_a0 ?_).mono ?_
      · (refine Rd.more (B := w.heap.size) ?_ (by first | omega | ((try simp only [World.size_setCell]); (try simp only [World.size_drew]); (try simp only [World.size_alloc]); omega) | (simp; done) | (simp; omega))); (repeat' (first | with_reducible assumption | (with_reducible refine Rd.drew ?_) | (with_reducible refine Rd.carry ?_ (by with_reducible assumption) ?_) | (with_reducible refine Rd.alloc ?_ ?_ _) | (with_reducible refine Rd.setCell ?_ ?_ _) | omega | (simp; done) | (simp; omega)))
      intro e wP hq
      obtain ⟨gP, rfl, owP, hbwP⟩ := hq
      have zwP := hbwP.size
      (try simp only [World.size_setCell] at zwP)
      (try simp only [World.size_drew] at zwP)
      (try simp only [World.size_alloc] at zwP)
      have qwP : w.heap.size ≤ wP.heap.size := by omega
      have bx_awP : AtL (w.heap.size) [.slice a0A a0l.length a0c, .bool a1, .int .i64 a2, .bool a3, .bool a4, .int .i64 a5, .int .i64 a6, .int .i64 a7, .int .i64 a8] wP := by repeat' (first | with_reducible assumption | with_reducible exact AtL.new _ _ _ | ((with_reducible refine AtL.newAt ?_); (first | rfl | (simp; done))) | (with_reducible refine AtL.drew ?_) | (with_reducible refine AtL.below ?_ (by with_reducible assumption)) | (with_reducible refine AtL.alloc ?_ _) | (with_reducible refine AtL.far ?_ ?_ _ _) | omega | (simp; done) | (simp; omega))
      have rd_a0wP : Rd cPt 2 wP (w.heap.size) a0A a0l := by repeat' (first | with_reducible assumption | (with_reducible refine Rd.drew ?_) | (with_reducible refine Rd.carry ?_ (by with_reducible assumption) ?_) | (with_reducible refine Rd.alloc ?_ ?_ _) | (with_reducible refine Rd.setCell ?_ ?_ _) | omega | (simp; done) | (simp; omega))
      have r1wP : Rd cI 1 wP (wC.heap.size) Aw r2 := by repeat' (first | with_reducible assumption | (with_reducible refine Rd.drew ?_) | (with_reducible refine Rd.carry ?_ (by with_reducible assumption) ?_) | (with_reducible refine Rd.alloc ?_ ?_ _) | (with_reducible refine Rd.setCell ?_ ?_ _) | omega | (simp; done) | (simp; omega))
      have omwP : wP.ownsRow (wX.heap.size + 1) 2 1 (.slice Ag r2.length cg) r2.length (cellsF cI (marksI 1 r2.length)) := by repeat' (first | with_reducible assumption | (with_reducible refine own_drew ?_) | (with_reducible refine own_stays ?_ (by with_reducible assumption)) | (with_reducible refine World.ownsRow.alloc ?_ _))
      have bp := bwL.out
      have bn : Below w.heap.size w wP := by repeat' (first | with_reducible assumption | with_reducible exact Below.refl _ _ | (with_reducible refine Below.setCell ?_ ?_ _) | (with_reducible refine Below.alloc ?_ ?_ _) | (with_reducible refine Below.drew ?_) | (with_reducible refine below_dr ?_ _) | (with_reducible refine Below.trans ?_ (Below.mono (by with_reducible assumption) ?_)) | omega | (simp; done) | (simp; omega))
      have bwP := Lib.hid bn
      clear bn
      clear bp bwL
      clear hbwP
      clear bx_awL
      clear rd_a0wL
      clear r1wL
      clear omwL
      go_wp2_with fail
      refine (C2.out (some ⟨gP, 0, none⟩) a0l.length _ hl_a0 ?_).mono ?_
      · (first | exact Rd.of_own (fun a => cPt_len a) (by omega) owP (by first | exact Nat.le_refl _ | (simp; done)) | exact Rd.drew (Rd.of_own (fun a => cPt_len a) (by omega) owP (by first | exact Nat.le_refl _ | (simp; done))))
      intro e wQ hq
      obtain ⟨Ah, ch, rfl, owh, hbwQ⟩ := hq
      have zwQ := hbwQ.size
      (try simp only [World.size_setCell] at zwQ)
      (try simp only [World.size_drew] at zwQ)
      (try simp only [World.size_alloc] at zwQ)
      have qwQ : w.heap.size ≤ wQ.heap.size := by omega
      have bx_awQ : AtL (w.heap.size) [.slice a0A a0l.length a0c, .bool a1, .int .i64 a2, .bool a3, .bool a4, .int .i64 a5, .int .i64 a6, .int .i64 a7, .int .i64 a8] wQ := by repeat' (first | with_reducible assumption | with_reducible exact AtL.new _ _ _ | ((with_reducible refine AtL.newAt ?_); (first | rfl | (simp; done))) | (with_reducible refine AtL.drew ?_) | (with_reducible refine AtL.below ?_ (by with_reducible assumption)) | (with_reducible refine AtL.alloc ?_ _) | (with_reducible refine AtL.far ?_ ?_ _ _) | omega | (simp; done) | (simp; omega))
      have rd_a0wQ : Rd cPt 2 wQ (w.heap.size) a0A a0l := by repeat' (first | with_reducible assumption | (with_reducible refine Rd.drew ?_) | (with_reducible refine Rd.carry ?_ (by with_reducible assumption) ?_) | (with_reducible refine Rd.alloc ?_ ?_ _) | (with_reducible refine Rd.setCell ?_ ?_ _) | omega | (simp; done) | (simp; omega))
      have r1wQ : Rd cI 1 wQ (wC.heap.size) Aw r2 := by repeat' (first | with_reducible assumption | (with_reducible refine Rd.drew ?_) | (with_reducible refine Rd.carry ?_ (by with_reducible assumption) ?_) | (with_reducible refine Rd.alloc ?_ ?_ _) | (with_reducible refine Rd.setCell ?_ ?_ _) | omega | (simp; done) | (simp; omega))
      have omwQ : wQ.ownsRow (wX.heap.size + 1) 2 1 (.slice Ag r2.length cg) r2.length (cellsF cI (marksI 1 r2.length)) := by repeat' (first | with_reducible assumption | (with_reducible refine own_drew ?_) | (with_reducible refine own_stays ?_ (by with_reducible assumption)) | (with_reducible refine World.ownsRow.alloc ?_ _))
      have bp := bwP.out
      have bn : Below w.heap.size w wQ := by repeat' (first | with_reducible assumption | with_reducible exact Below.refl _ _ | (with_reducible refine Below.setCell ?_ ?_ _) | (with_reducible refine Below.alloc ?_ ?_ _) | (with_reducible refine Below.drew ?_) | (with_reducible refine below_dr ?_ _) | (with_reducible refine Below.trans ?_ (Below.mono (by with_reducible assumption) ?_)) | omega | (simp; done) | (simp; omega))
      have bwQ := Lib.hid bn
      clear bn
      clear bp bwP
      clear hbwQ
      clear bx_awP
      clear rd_a0wP
      clear r1wP
      clear omwP
      clear owP
      have ohwQ := own_base (base := 0) owh (Nat.zero_le _)
      clear owh
      go_wp2_with fail
      refine (eqInt64S_same r2 Ah Aw ch cw _ (by omega) ?_ ?_).mono ?_
      · refine Rd.of_own (fun a => cI_len a) (by omega) (base := 0) (e := 2) (n := r2.length) (c := ch) ?_ (Nat.le_refl _); (repeat' (first | with_reducible assumption | (with_reducible refine own_drew ?_) | (with_reducible refine own_stays ?_ (by with_reducible assumption)) | (with_reducible refine World.ownsRow.alloc ?_ _)))
      · refine Rd.more (B := wC.heap.size) ?_ (by (try simp only [World.size_drew]); (try simp only [World.size_alloc]); omega)
        repeat' (first | with_reducible assumption | (with_reducible refine Rd.drew ?_) | (with_reducible refine Rd.carry ?_ (by with_reducible assumption) ?_) | (with_reducible refine Rd.alloc ?_ ?_ _) | (with_reducible refine Rd.setCell ?_ ?_ _) | omega | (simp; done) | (simp; omega))
      rintro e wR ⟨rfl, hbwR⟩
      have zwR := hbwR.size
      (try simp only [World.size_setCell] at zwR)
      (try simp only [World.size_drew] at zwR)
      (try simp only [World.size_alloc] at zwR)
      have qwR : w.heap.size ≤ wR.heap.size := by omega
      have bx_awR : AtL (w.heap.size) [.slice a0A a0l.length a0c, .bool a1, .int .i64 a2, .bool a3, .bool a4, .int .i64 a5, .int .i64 a6, .int .i64 a7, .int .i64 a8] wR := by repeat' (first | with_reducible assumption | with_reducible exact AtL.new _ _ _ | ((with_reducible refine AtL.newAt ?_); (first | rfl | (simp; done))) | (with_reducible refine AtL.drew ?_) | (with_reducible refine AtL.below ?_ (by with_reducible assumption)) | (with_reducible refine AtL.alloc ?_ _) | (with_reducible refine AtL.far ?_ ?_ _ _) | omega | (simp; done) | (simp; omega))
      have rd_a0wR : Rd cPt 2 wR (w.heap.size) a0A a0l := by repeat' (first | with_reducible assumption | (with_reducible refine Rd.drew ?_) | (with_reducible refine Rd.carry ?_ (by with_reducible assumption) ?_) | (with_reducible refine Rd.alloc ?_ ?_ _) | (with_reducible refine Rd.setCell ?_ ?_ _) | omega | (simp; done) | (simp; omega))
      have r1wR : Rd cI 1 wR (wC.heap.size) Aw r2 := by repeat' (first | with_reducible assumption | (with_reducible refine Rd.drew ?_) | (with_reducible refine Rd.carry ?_ (by with_reducible assumption) ?_) | (with_reducible refine Rd.alloc ?_ ?_ _) | (with_reducible refine Rd.setCell ?_ ?_ _) | omega | (simp; done) | (simp; omega))
      have omwR : wR.ownsRow (wX.heap.size + 1) 2 1 (.slice Ag r2.length cg) r2.length (cellsF cI (marksI 1 r2.length)) := by repeat' (first | with_reducible assumption | (with_reducible refine own_drew ?_) | (with_reducible refine own_stays ?_ (by with_reducible assumption)) | (with_reducible refine World.ownsRow.alloc ?_ _))
      have ohwR : wR.ownsRow (0) 2 1 (.slice Ah r2.length ch) r2.length (cellsF cI r2) := by repeat' (first | with_reducible assumption | (with_reducible refine own_drew ?_) | (with_reducible refine own_stays ?_ (by with_reducible assumption)) | (with_reducible refine World.ownsRow.alloc ?_ _))
      have bp := bwQ.out
      have bn : Below w.heap.size w wR := by repeat' (first | with_reducible assumption | with_reducible exact Below.refl _ _ | (with_reducible refine Below.setCell ?_ ?_ _) | (with_reducible refine Below.alloc ?_ ?_ _) | (with_reducible refine Below.drew ?_) | (with_reducible refine below_dr ?_ _) | (with_reducible refine Below.trans ?_ (Below.mono (by with_reducible assumption) ?_)) | omega | (simp; done) | (simp; omega))
      have bwR := Lib.hid bn
      clear bn
      clear bp bwQ
      clear hbwR
      clear bx_awQ
      clear rd_a0wQ
      clear r1wQ
      clear omwQ
      clear ohwQ
      go_wp2_with fail
      refine (heldInt64S_any 1 r2.length Ag cg _ (by omega) (by omega) ?_).mono ?_
      · refine Rd.of_own (fun a => cI_len a) (by omega) (base := wX.heap.size + 1) (e := 2) (n := r2.length) (c := cg) ?_ (Nat.le_refl _); (repeat' (first | with_reducible assumption | (with_reducible refine own_drew ?_) | (with_reducible refine own_stays ?_ (by with_reducible assumption)) | (with_reducible refine World.ownsRow.alloc ?_ _)))
      rw [← HM.out]
      rintro e wV ⟨rfl, hbwV⟩
      have zwV := hbwV.size
      (try simp only [World.size_setCell] at zwV)
      (try simp only [World.size_drew] at zwV)
      (try simp only [World.size_alloc] at zwV)
      have qwV : w.heap.size ≤ wV.heap.size := by omega
      have bx_awV : AtL (w.heap.size) [.slice a0A a0l.length a0c, .bool a1, .int .i64 a2, .bool a3, .bool a4, .int .i64 a5, .int .i64 a6, .int .i64 a7, .int .i64 a8] wV := by repeat' (first | with_reducible assumption | with_reducible exact AtL.new _ _ _ | ((with_reducible refine AtL.newAt ?_); (first | rfl | (simp; done))) | (with_reducible refine AtL.drew ?_) | (with_reducible refine AtL.below ?_ (by with_reducible assumption)) | (with_reducible refine AtL.alloc ?_ _) | (with_reducible refine AtL.far ?_ ?_ _ _) | omega | (simp; done) | (simp; omega))
      have rd_a0wV : Rd cPt 2 wV (w.heap.size) a0A a0l := by repeat' (first | with_reducible assumption | (with_reducible refine Rd.drew ?_) | (with_reducible refine Rd.carry ?_ (by with_reducible assumption) ?_) | (with_reducible refine Rd.alloc ?_ ?_ _) | (with_reducible refine Rd.setCell ?_ ?_ _) | omega | (simp; done) | (simp; omega))
      have r1wV : Rd cI 1 wV (wC.heap.size) Aw r2 := by repeat' (first | with_reducible assumption | (with_reducible refine Rd.drew ?_) | (with_reducible refine Rd.carry ?_ (by with_reducible assumption) ?_) | (with_reducible refine Rd.alloc ?_ ?_ _) | (with_reducible refine Rd.setCell ?_ ?_ _) | omega | (simp; done) | (simp; omega))
      have omwV : wV.ownsRow (wX.heap.size + 1) 2 1 (.slice Ag r2.length cg) r2.length (cellsF cI (marksI 1 r2.length)) := by repeat' (first | with_reducible assumption | (with_reducible refine own_drew ?_) | (with_reducible refine own_stays ?_ (by with_reducible assumption)) | (with_reducible refine World.ownsRow.alloc ?_ _))
      have ohwV : wV.ownsRow (0) 2 1 (.slice Ah r2.length ch) r2.length (cellsF cI r2) := by repeat' (first | with_reducible assumption | (with_reducible refine own_drew ?_) | (with_reducible refine own_stays ?_ (by with_reducible assumption)) | (with_reducible refine World.ownsRow.alloc ?_ _))
      have bp := bwR.out
      have bn : Below w.heap.size w wV := by repeat' (first | with_reducible assumption | with_reducible exact Below.refl _ _ | (with_reducible refine Below.setCell ?_ ?_ _) | (with_reducible refine Below.alloc ?_ ?_ _) | (with_reducible refine Below.drew ?_) | (with_reducible refine below_dr ?_ _) | (with_reducible refine Below.trans ?_ (Below.mono (by with_reducible assumption) ?_)) | omega | (simp; done) | (simp; omega))
      have bwV := Lib.hid bn
      clear bn
      clear bp bwR
      clear hbwV
      clear bx_awR
      clear rd_a0wR
      clear r1wR
      clear omwR
      clear ohwR
      go_wp2_with fail
      go_ret
      have bp := bwV.out
      exact ⟨rfl, by repeat' (first | with_reducible assumption | with_reducible exact Below.refl _ _ | (with_reducible refine Below.setCell ?_ ?_ _) | (with_reducible refine Below.alloc ?_ ?_ _) | (with_reducible refine Below.drew ?_) | (with_reducible refine below_dr ?_ _) | (with_reducible refine Below.trans ?_ (Below.mono (by with_reducible assumption) ?_)) | omega | (simp; done) | (simp; omega))⟩
end Go.Proofs.Ytcjjmkkphbeoeaa
