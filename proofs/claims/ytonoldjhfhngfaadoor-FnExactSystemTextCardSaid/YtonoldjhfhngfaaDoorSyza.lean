/- Walks: the text of a system, the program's side; the law on SystemText. -/
import Derived.Test.YtonoldjhfhngfaaDoorSyz
import Derived.Test.YtonoldjhfhngfaaDoorSy5
namespace Go.Proofs.YtonoldjhfhngfaaDoor
open Go.RowKit Go.Maps
set_option linter.unusedVariables false
theorem bu_end (s : ByteArray) : (⟨s.data.toList.toArray⟩ : ByteArray) = s := by cases s; simp
set_option maxRecDepth 100000 in
set_option maxHeartbeats 12800000 in
theorem implSystemText_any (A : Option Addr) (c : Nat) (l : List DSRow) (w : World) (h : totSystem l ≤ 1048576) (hok : okS l) (ht : Lib.TabIs Tryd.prog w "internal/strconv.uint64pow10" .u64 Lib.pow10Tab) (r : Row RvSRow 4 w w.heap.size A l) :
    Calls Tryd.prog 10 #[.agg #[.slice A l.length c]] w fun e w' => e = .returned (.string (syT l)) ∧ Below w.heap.size w w' := by
  have CV := Lib.hid (fun w1 r => implValidSystem_any A c l w1 h hok r)
  have HTAB := Lib.hid (fun w1 (hb : Below w.heap.size w w1) => Joins.tab_stays gPow ht hb (Nat.le_refl _))
  have HOK := Lib.hid hok
  clear h hok ht
  have HR := Lib.hid r
  clear r
  obtain ⟨n, hn⟩ : ∃ n, n = l.length := ⟨_, rfl⟩
  have HN := Lib.hid hn
  rcases hv : vSys l with _ | _
  case false =>
    rw [hv] at CV
    rw [show syT l = ⟨#[]⟩ by unfold syT; rw [hv]; rfl]
    rw [← hn] at CV ⊢
    clear hv hn
    go_enter Tryd.func10, Tryd.ntmps10
    go_wp2_with fail
    refine (CV.out _ ?_).mono ?_
    · exact (Row.alloc HR.out (Nat.le_refl _) _).more (by simp)
    rintro e w1 ⟨rfl, hb1⟩
    go_wp2_with fail
    go_ret
    exact ⟨rfl, by repeat' (first | with_reducible assumption | with_reducible exact Below.refl _ _ | (with_reducible refine Below.setCell ?_ ?_ _) | (with_reducible refine Below.alloc ?_ ?_ _) | (with_reducible refine Below.drew ?_) | (with_reducible refine below_dr ?_ _) | (with_reducible refine Below.trans ?_ (Below.mono (by with_reducible assumption) ?_)) | omega | (simp; done) | (simp; omega))⟩
  case true =>
    rw [hv] at CV
    have HV := Lib.hid hv
    have HE := Lib.hid (show rowsT l n = syT l by unfold syT; rw [hv, hn]; rfl)
    have hn24 : n ≤ 24 := by rw [hn]; exact vSys_len2 hv
    rw [← hn] at CV ⊢
    clear hv hn
    go_enter Tryd.func10, Tryd.ntmps10
    go_wp2_with fail
    refine (CV.out _ ?_).mono ?_
    · exact (Row.alloc HR.out (Nat.le_refl _) _).more (by simp)
    rintro e w1 ⟨rfl, hb1⟩
    have gw : Below w.heap.size w w1 := by repeat' (first | with_reducible assumption | with_reducible exact Below.refl _ _ | (with_reducible refine Below.setCell ?_ ?_ _) | (with_reducible refine Below.alloc ?_ ?_ _) | (with_reducible refine Below.drew ?_) | (with_reducible refine below_dr ?_ _) | (with_reducible refine Below.trans ?_ (Below.mono (by with_reducible assumption) ?_)) | omega | (simp; done) | (simp; omega))
    have z1 := hb1.size
    simp only [World.size_alloc] at z1
    have S0 : w1.cell? ⟨w.heap.size, 0, none⟩ = some (.slice A n c) := (hb1.cell (p := ⟨w.heap.size, 0, none⟩) (by simp)).trans (by simp [go_sem])
    clear hb1
    have yA : ∀ ob, (w1.alloc ob).cell? ⟨w.heap.size, 0, none⟩ = some (.slice A n c) := fun ob => (cell_alloc_at _ _ (by omega)).trans S0
    go_wp2_with fail
    clear yA
    obtain ⟨B, hB⟩ : ∃ B, B = w1.heap.size := ⟨_, rfl⟩
    generalize hW : w1.alloc (.cells #[.pointer none, .slice none 0 0] 60) = W0
    have bu0 : Bu W0 B [] := by rw [← hW, hB]; exact Bu.fresh w1
    have hb0 : Below B w1 W0 := by rw [← hW, hB]; repeat' (first | with_reducible assumption | with_reducible exact Below.refl _ _ | (with_reducible refine Below.setCell ?_ ?_ _) | (with_reducible refine Below.alloc ?_ ?_ _) | (with_reducible refine Below.drew ?_) | (with_reducible refine below_dr ?_ _) | (with_reducible refine Below.trans ?_ (Below.mono (by with_reducible assumption) ?_)) | omega | (simp; done) | (simp; omega))
    rw [← hB]
    have zB : w.heap.size < B := by omega
    have g0 : Below w.heap.size w W0 := gw.trans (hb0.mono (by omega))
    have S1 : W0.cell? ⟨w.heap.size, 0, none⟩ = some (.slice A n c) := (hb0.cell (p := ⟨w.heap.size, 0, none⟩) zB).trans S0
    have zz : w.heap.size < W0.heap.size := by have := bu0.lt; omega
    clear hW S0 hB gw hb0 z1
    go_loopw [12] (fun i wr => ∃ k : Nat, k ≤ n ∧ i = .int .i64 (k : Int) ∧ Bu wr B (rowsT l k).data.toList ∧ Below B W0 wr) (fun i _ => n - (intOf i).toNat)
    case atStart => exact ⟨0, Nat.zero_le _, rfl, bu0, Below.refl _ _⟩
    case round =>
      clear bu0
      obtain ⟨k, hk, rfl, bu, hbl⟩ := hrel
      have zr := hbl.size
      have hbw : Below w.heap.size w wr := g0.trans (hbl.mono (by omega))
      have hS := rowsT_size HV.out k (by rw [← HN.out]; exact hk)
      have hlu := bu.lt
      by_cases hlt : k < n
      case neg =>
        obtain rfl : k = n := by omega
        go_wp2_with fail
        refine (Tryd.Builder_String_any B B _ wr bu (by omega)).mono ?_
        rintro e w9 ⟨rfl, hb9⟩
        go_wp2_with fail
        go_ret
        exact ⟨by rw [bu_end, HE.out]; rfl, hbw.trans (hb9.mono (by omega))⟩
      case pos =>
        obtain ⟨⟨x0, x1, x2, x3l⟩, ha⟩ : ∃ a, l[k]? = some a := ⟨l[k]'(by have := HN.out; omega), List.getElem?_eq_getElem (by have := HN.out; omega)⟩
        obtain ⟨g, o, rowc, rfl, hg, hRc, hcc⟩ := (Row.carry (w' := wr) HR.out hbw (Nat.le_refl _)).elem ha
        obtain ⟨x3A, x3c, rfl, u_x3⟩ := hRc
        have c0 : wr.cell? ⟨g, o + k * 4, none⟩ = some (.string x0) := hcc 0 _ rfl
        have c1 : wr.cell? ⟨g, o + k * 4 + 1, none⟩ = some (.int .i64 x1) := hcc 1 _ rfl
        have c2 : wr.cell? ⟨g, o + k * 4 + 2, none⟩ = some (.int .i64 x2) := hcc 2 _ rfl
        have c3 : wr.cell? ⟨g, o + k * 4 + 3, none⟩ = some (.slice x3A x3l.length x3c) := hcc 3 _ rfl
        clear hcc
        have hki : (k : Int) < (n : Int) := by omega
        obtain ⟨-, hok, -⟩ := HOK.out k _ ha
        obtain ⟨hnm, hvl⟩ := vSys_row HV.out ha
        simp only at hnm hvl
        have hsn := name_size hnm
        have hsl := lnT_size (d := (x0, x1, x2, x3l)) hvl
        have HS := Lib.hid (rowsT_succ ha)
        have CT := Lib.hid (fun w1 (hb : Below w.heap.size w w1) r => implLinearText_yes x1 x2 x3A x3c x3l w1 hvl r hok (HTAB.out w1 hb))
        have hgw : g < wr.heap.size := by omega
        have RT := Lib.hid (Row.toRd u_x3)
        clear u_x3 ha hnm hvl hok
        have HSE := Lib.hid (show (rowsT l k).data.toList ++ (x0 ++ ⟨#[32, 61, 32]⟩ ++ lnT (x0, x1, x2, x3l) ++ ⟨#[10]⟩ : ByteArray).data.toList = (rowsT l (k + 1)).data.toList from by rw [HS.out, data_app]; rfl)
        have e9 : lnT (x0, x1, x2, x3l) = joinB ⟨#[32, 43, 32]⟩ (linW x1 x2 x3l) := rfl
        rw [← e9] at CT
        clear e9 HS
        have hSl : (rowsT l k).data.toList.length = (rowsT l k).size := by rw [Lib.size_eq]
        generalize lnT (x0, x1, x2, x3l) = T at *
        generalize rowsT l k = S at *
        have f1 : (9223372036854775807 < x0.size + 3) = False := by simp only [eq_iff_iff, iff_false]; omega
        have f2 : (9223372036854775807 < x0.size + 3 + T.size) = False := by simp only [eq_iff_iff, iff_false]; omega
        have f3 : (9223372036854775807 < x0.size + 3 + T.size + 1) = False := by simp only [eq_iff_iff, iff_false]; omega
        have hws : (x0 ++ ⟨#[32, 61, 32]⟩ ++ T ++ ⟨#[10]⟩ : ByteArray).size ≤ 900 := by
          have h3 : (⟨#[32, 61, 32]⟩ : ByteArray).size = 3 := rfl
          have h4 : (⟨#[10]⟩ : ByteArray).size = 1 := rfl
          simp only [ByteArray.size_append, h3, h4]
          omega
        have HWS := Lib.hid hws
        clear hws
        go_wp2_with fail
        obtain ⟨Q, hQ⟩ : ∃ Q, Q = wr.heap.size := ⟨_, rfl⟩
        generalize hW : wr.alloc (.cells #[.string x0, .int .i64 x1, .int .i64 x2, .slice x3A x3l.length x3c] 52) = W1
        have bkQ : Blk W1 Q 52 #[.string x0, .int .i64 x1, .int .i64 x2, .slice x3A x3l.length x3c] := by rw [← hW, hQ]; exact Blk.new _ _ _
        have bu1 : Bu W1 B S.data.toList := by rw [← hW]; exact bu.alloc _
        have hb1 : Below wr.heap.size wr W1 := by rw [← hW]; repeat' (first | with_reducible assumption | with_reducible exact Below.refl _ _ | (with_reducible refine Below.setCell ?_ ?_ _) | (with_reducible refine Below.alloc ?_ ?_ _) | (with_reducible refine Below.drew ?_) | (with_reducible refine below_dr ?_ _) | (with_reducible refine Below.trans ?_ (Below.mono (by with_reducible assumption) ?_)) | omega | (simp; done) | (simp; omega))
        rw [← hQ]
        have hQB : ¬ Q = B := by omega
        clear hW hQ bu c0 c1 c2 c3
        have lQ := bkQ.lt
        have z1 := hb1.size
        have g1 : Below w.heap.size w W1 := hbw.trans (hb1.mono (by omega))
        have q0 := bkQ.cell 0 rfl
        have q1 := bkQ.cell 1 rfl
        have q2 := bkQ.cell 2 rfl
        have q3 := bkQ.cell 3 rfl
        go_wp2_with fail
        refine wp_region_held_drew (S := (fun w' => w'.cell? ⟨Q, 0, none⟩ = some (.string x0) ∧ w'.cell? ⟨Q, 1, none⟩ = some (.int .i64 x1) ∧ w'.cell? ⟨Q, 2, none⟩ = some (.int .i64 x2) ∧ w'.cell? ⟨Q, 3, none⟩ = some (.slice x3A x3l.length x3c))) (by kernel_rfl) ?_ (fun hHeld => ?_)
        · (try dsimp only); (first | exact ⟨q0, q1, q2, q3⟩ | exact ⟨m0, m1, m2, m3⟩ | exact ⟨n0, n1, n2, n3⟩ | fail)
        refine wpAnyH_take (i := 0) (oi := ⟨_, _, _, _, _, _⟩) (v := ?_) rfl (by kernel_rfl) (by kernel_rfl) (by kernel_rfl) (fun _ _ _ h => h) (Or.inl ⟨by rfl, ?_⟩) (by assumption) ?_
        rotate_left
        · intro w hSw; (try dsimp only at hSw); go_simp; (try with_reducible rfl)
        (try simp only [Act.put, List.setIfInBounds_toArray, List.set_cons_zero, List.set_cons_succ])
        refine wpAnyH_take (i := 1) (oi := ⟨_, _, _, _, _, _⟩) (v := ?_) rfl (by kernel_rfl) (by kernel_rfl) (by kernel_rfl) (fun _ _ _ h => h) (Or.inl ⟨by rfl, ?_⟩) (by assumption) ?_
        rotate_left
        · intro w hSw; (try dsimp only at hSw); go_simp; (try with_reducible rfl)
        (try simp only [Act.put, List.setIfInBounds_toArray, List.set_cons_zero, List.set_cons_succ])
        refine wpAnyH_take (i := 2) (oi := ⟨_, _, _, _, _, _⟩) (v := ?_) rfl (by kernel_rfl) (by kernel_rfl) (by kernel_rfl) (fun _ _ _ h => h) (Or.inl ⟨by rfl, ?_⟩) (by assumption) ?_
        rotate_left
        · intro w hSw; (try dsimp only at hSw); go_simp; (try with_reducible rfl)
        (try simp only [Act.put, List.setIfInBounds_toArray, List.set_cons_zero, List.set_cons_succ])
        refine wpAnyH_take (i := 3) (oi := ⟨_, _, _, _, _, _⟩) (v := ?_) rfl (by kernel_rfl) (by kernel_rfl) (by kernel_rfl) (fun _ _ _ h => h) (Or.inl ⟨by rfl, ?_⟩) (by assumption) ?_
        rotate_left
        · intro w hSw; (try dsimp only at hSw); go_simp; (try with_reducible rfl)
        (try simp only [Act.put, List.setIfInBounds_toArray, List.set_cons_zero, List.set_cons_succ])
        refine wpAnyH_take (i := 4) (oi := ⟨_, _, _, _, _, _⟩) (v := ?_) rfl (by kernel_rfl) (by kernel_rfl) (by kernel_rfl) (fun _ _ _ h => h) (Or.inl ⟨by rfl, ?_⟩) (by assumption) ?_
        rotate_left
        · intro w hSw; (try dsimp only at hSw); go_simp; (try with_reducible rfl)
        (try simp only [Act.put, List.setIfInBounds_toArray, List.set_cons_zero, List.set_cons_succ])
        refine wpAnyH_ready (rs := [5]) (by kernel_rfl) (by simp) ?_
        refine AllReadyH.cons (o := ⟨_, _, _, _, _, _⟩) rfl (fun K hK => ?_) AllReadyH.nil
        go_simp
        (go_at_call 24; (with_reducible refine (CT.out _ ?_ ?_).mono ?_); (focus (first | exact g1 | exact g1.drew | (repeat' (first | with_reducible assumption | with_reducible exact Below.refl _ _ | (with_reducible refine Below.setCell ?_ ?_ _) | (with_reducible refine Below.alloc ?_ ?_ _) | (with_reducible refine Below.drew ?_) | (with_reducible refine below_dr ?_ _) | (with_reducible refine Below.trans ?_ (Below.mono (by with_reducible assumption) ?_)) | omega | (simp; done) | (simp; omega))))); (focus (exact (Rd.carry (Rd.keep RT.out (fun p hp => rfl)) hb1 (by omega)).more (by first | omega | (simp; omega)))); rintro e wT ⟨rfl, hbT⟩; have bkT : Blk wT Q 52 #[.string x0, .int .i64 x1, .int .i64 x2, .slice x3A x3l.length x3c] := (by first | exact bkQ.carry hbT | exact bkQ.drew.carry hbT); have buT : Bu wT B S.data.toList := (by first | exact bu1.stays hbT | exact bu1.drew.stays hbT); have gT : Below W1.heap.size W1 wT := (by first | exact hbT | (repeat' (first | with_reducible assumption | with_reducible exact Below.refl _ _ | (with_reducible refine Below.setCell ?_ ?_ _) | (with_reducible refine Below.alloc ?_ ?_ _) | (with_reducible refine Below.drew ?_) | (with_reducible refine below_dr ?_ _) | (with_reducible refine Below.trans ?_ (Below.mono (by with_reducible assumption) ?_)) | omega | (simp; done) | (simp; omega)))); have m0 := bkT.cell 0 rfl; have m1 := bkT.cell 1 rfl; have m2 := bkT.cell 2 rfl; have m3 := bkT.cell 3 rfl)
        refine hK.out _ _ ?_ (fun hHeld => ?_)
        · (try dsimp only); (first | exact ⟨q0, q1, q2, q3⟩ | exact ⟨m0, m1, m2, m3⟩ | exact ⟨n0, n1, n2, n3⟩ | fail)
        clear hK K
        (try simp only [Act.put, List.setIfInBounds_toArray, List.set_cons_zero, List.set_cons_succ])
        refine wpAnyH_take (i := 6) (oi := ⟨_, _, _, _, _, _⟩) (v := ?_) rfl (by kernel_rfl) (by kernel_rfl) (by kernel_rfl) (fun _ _ _ h => h) (Or.inl ⟨by rfl, ?_⟩) (by assumption) ?_
        rotate_left
        · intro w hSw; (try dsimp only at hSw); go_simp; (try with_reducible rfl)
        (try simp only [Act.put, List.setIfInBounds_toArray, List.set_cons_zero, List.set_cons_succ])
        refine wpAnyH_take (i := 7) (oi := ⟨_, _, _, _, _, _⟩) (v := ?_) rfl (by kernel_rfl) (by kernel_rfl) (by kernel_rfl) (fun _ _ _ h => h) (Or.inl ⟨by rfl, ?_⟩) (by assumption) ?_
        rotate_left
        · intro w hSw; (try dsimp only at hSw); go_simp; (try with_reducible rfl)
        (try simp only [Act.put, List.setIfInBounds_toArray, List.set_cons_zero, List.set_cons_succ])
        refine wpAnyH_ready (rs := [8]) (by kernel_rfl) (by simp) ?_
        refine AllReadyH.cons (o := ⟨_, _, _, _, _, _⟩) rfl (fun K hK => ?_) AllReadyH.nil
        go_simp
        (go_at_call 23; (with_reducible refine (writeString_any B _ _ _ (by first | exact buT | exact buT.drew) (by have := HWS.out; omega)).mono ?_); rintro e wS ⟨rfl, hwr⟩; have HWR := Lib.hid hwr; have bkS : Blk wS Q 52 #[.string x0, .int .i64 x1, .int .i64 x2, .slice x3A x3l.length x3c] := (hwr.2.2 Q _ _ (by first | exact bkT | exact bkT.drew) (by decide) hQB); clear hwr; have n0 := bkS.cell 0 rfl; have n1 := bkS.cell 1 rfl; have n2 := bkS.cell 2 rfl; have n3 := bkS.cell 3 rfl)
        refine hK.out _ _ ?_ (fun hHeld => ?_)
        · (try dsimp only); (first | exact ⟨q0, q1, q2, q3⟩ | exact ⟨m0, m1, m2, m3⟩ | exact ⟨n0, n1, n2, n3⟩ | fail)
        clear hK K
        (try simp only [Act.put, List.setIfInBounds_toArray, List.set_cons_zero, List.set_cons_succ])
        refine wpAnyH_done (by kernel_rfl) ?_ _
        have hwr := HWR.out
        have gS : Below B W0 wS := hbl.trans ((hb1.mono (by omega)).trans ((gT.mono (by omega)).trans (by first | exact hwr.2.1 | (have h9 := hwr.2.1; exact h9))))
        have buS : Bu wS B (S.data.toList ++ (x0 ++ ⟨#[32, 61, 32]⟩ ++ T ++ ⟨#[10]⟩ : ByteArray).data.toList) := hwr.1
        rw [HSE.out] at buS
        have HBS := Lib.hid buS
        clear hwr buS HWR
        go_wp2_with fail
        go_roundw
        case rel => exact ⟨k + 1, by omega, by go_num, HBS.out, gS⟩
        case measure => simp [intOf]; omega
set_option maxRecDepth 100000 in
set_option maxHeartbeats 12800000 in
theorem walk_SystemText (a : ASystem) (w : World) (k_a : okSystem w w.heap.size a) (ht : Lib.TabIs Tryd.prog w "internal/strconv.uint64pow10" .u64 Lib.pow10Tab) :
    Calls Tryd.prog 4 #[.agg #[.slice a.1 a.2.2.length a.2.1]] w fun e w' => e = .returned (.bool true) ∧ Below w.heap.size w w' := by
  obtain ⟨a0A, a0c, a0q⟩ := a
  obtain ⟨nc_a0, cm_a0, rd_a0, ok_a0⟩ := k_a
  simp only at nc_a0 cm_a0 rd_a0 ok_a0 ⊢
  have row_a0 : Row RvSRow 4 w w.heap.size a0A (a0q.map dSRow) := Row.of rd_a0 (fun i b hb => rv_SRow b (ok_a0 i b hb))
  have sz_a0 : szRow SzSRow (a0q.map dSRow) := ⟨Nat.le_trans (Nat.le_of_eq (List.length_map _)) (Nat.le_trans nc_a0 cm_a0), fun i b hb => sz_map sz_SRow ok_a0 i b hb⟩
  have hn_a0 : a0q.length = (a0q.map dSRow).length := (List.length_map _).symm
  rw [hn_a0]
  have OKS := Lib.hid (okS_of ok_a0)
  generalize a0q.map dSRow = a0l at OKS row_a0 sz_a0 ⊢
  have HZ_a0 := Lib.hid sz_a0
  clear nc_a0 cm_a0 rd_a0 ok_a0 hn_a0 sz_a0
  have HZP_a := Lib.hid (show SzSystem a0l from HZ_a0.out)
  have C1 := Lib.hid (fun (ha : totSystem a0l ≤ 1048576) a0A' a0c' w q_a0 => specSystemText_any a0A' a0c' a0l w ha OKS.out q_a0)
  have C2 := Lib.hid (fun (ha : totSystem a0l ≤ 1048576) a0A' a0c' w1 (hb : Below w.heap.size w w1) q_a0 => implSystemText_any a0A' a0c' a0l w1 ha OKS.out (Joins.tab_stays gPow ht hb (Nat.le_refl _)) q_a0)
  generalize syT a0l = v at C1 C2
  have e_v : (v.toList == v.toList) = true := by simp
  have d_v : (v.toList != v.toList) = false := by simp
  clear OKS ht
  go_enter Tryd.func4, Tryd.ntmps4
  go_wp2_with fail
  generalize hW : (w.alloc (.cells #[.slice a0A a0l.length a0c] 27)) = W0
  have row_a0w : Row RvSRow 4 w (w.heap.size) a0A a0l := row_a0
  have bx_aW0 : AtL (w.heap.size) [.slice a0A a0l.length a0c] W0 := by rw [← hW]; repeat' (first | with_reducible assumption | with_reducible exact AtL.new _ _ _ | ((with_reducible refine AtL.newAt ?_); (first | rfl | (simp; done))) | (with_reducible refine AtL.drew ?_) | (with_reducible refine AtL.below ?_ (by with_reducible assumption)) | (with_reducible refine AtL.alloc ?_ _) | (with_reducible refine AtL.far ?_ ?_ _ _) | omega | (simp; done) | (simp; omega))
  have row_a0W0 : Row RvSRow 4 W0 (w.heap.size) a0A a0l := by rw [← hW]; repeat' (first | with_reducible assumption | (with_reducible refine Row.drew ?_) | (with_reducible refine Row.carry ?_ (by with_reducible assumption) ?_) | (with_reducible refine Row.alloc ?_ ?_ _) | (with_reducible refine Row.setCell ?_ ?_ _) | omega | (simp; done) | (simp; omega))
  have qW0 : w.heap.size ≤ W0.heap.size := by rw [← hW]; first | (simp; done) | (simp; omega)
  have bn : Below w.heap.size w W0 := by rw [← hW]; repeat' (first | with_reducible assumption | with_reducible exact Below.refl _ _ | (with_reducible refine Below.setCell ?_ ?_ _) | (with_reducible refine Below.alloc ?_ ?_ _) | (with_reducible refine Below.drew ?_) | (with_reducible refine below_dr ?_ _) | (with_reducible refine Below.trans ?_ (Below.mono (by with_reducible assumption) ?_)) | omega | (simp; done) | (simp; omega))
  have bW0 := Lib.hid bn
  clear hW bn
  clear row_a0w row_a0
  have kbx_a0 := bx_aW0.cell 0 rfl
  have lbx_a := bx_aW0.lt
  go_wp2_with fail
  clear kbx_a0 lbx_a
  obtain ⟨T0, hT0⟩ : ∃ T, T = totSystem a0l := ⟨_, rfl⟩
  have HTT0 := Lib.hid hT0
  refine (szSystem_any a0A a0c a0l 1048576 _ (by omega) (by omega) HZP_a.out ?_).mono ?_
  · (refine Row.more (B := w.heap.size) ?_ (by first | omega | ((try simp only [World.size_setCell]); (try simp only [World.size_drew]); (try simp only [World.size_alloc]); omega))); repeat' (first | with_reducible assumption | (with_reducible refine Row.drew ?_) | (with_reducible refine Row.carry ?_ (by with_reducible assumption) ?_) | (with_reducible refine Row.alloc ?_ ?_ _) | (with_reducible refine Row.setCell ?_ ?_ _) | omega | (simp; done) | (simp; omega))
  rw [← hT0]
  clear hT0
  by_cases hfit : (T0 : Int) ≤ 1048576
  case neg =>
    rw [szV_no hfit]
    rintro e wN ⟨rfl, hb⟩
    go_wp2_with fail
    go_ret
    have bp := bW0.out
    exact ⟨rfl, by repeat' (first | with_reducible assumption | with_reducible exact Below.refl _ _ | (with_reducible refine Below.setCell ?_ ?_ _) | (with_reducible refine Below.alloc ?_ ?_ _) | (with_reducible refine Below.drew ?_) | (with_reducible refine below_dr ?_ _) | (with_reducible refine Below.trans ?_ (Below.mono (by with_reducible assumption) ?_)) | omega | (simp; done) | (simp; omega))⟩
  case pos =>
    rw [szV_yes hfit]
    have HT_a := Lib.hid (show totSystem a0l ≤ 1048576 by rw [← HTT0.out]; omega)
    obtain ⟨V0, hV⟩ : ∃ V : Int, V = 1048576 - T0 := ⟨_, rfl⟩
    have hVV : 0 ≤ V0 ∧ V0 ≤ 1048576 := by omega
    rw [← hV]
    rintro e wS0 ⟨rfl, hbwS0⟩
    clear hV hfit
    obtain ⟨hV0_0, hV1_0⟩ := hVV
    have zwS0 := hbwS0.size
    (try simp only [World.size_setCell] at zwS0)
    (try simp only [World.size_drew] at zwS0)
    (try simp only [World.size_alloc] at zwS0)
    have qwS0 : w.heap.size ≤ wS0.heap.size := by omega
    have bx_awS0 : AtL (w.heap.size) [.slice a0A a0l.length a0c] wS0 := by repeat' (first | with_reducible assumption | with_reducible exact AtL.new _ _ _ | ((with_reducible refine AtL.newAt ?_); (first | rfl | (simp; done))) | (with_reducible refine AtL.drew ?_) | (with_reducible refine AtL.below ?_ (by with_reducible assumption)) | (with_reducible refine AtL.alloc ?_ _) | (with_reducible refine AtL.far ?_ ?_ _ _) | omega | (simp; done) | (simp; omega))
    have row_a0wS0 : Row RvSRow 4 wS0 (w.heap.size) a0A a0l := by repeat' (first | with_reducible assumption | (with_reducible refine Row.drew ?_) | (with_reducible refine Row.carry ?_ (by with_reducible assumption) ?_) | (with_reducible refine Row.alloc ?_ ?_ _) | (with_reducible refine Row.setCell ?_ ?_ _) | omega | (simp; done) | (simp; omega))
    have bp := bW0.out
    have bn : Below w.heap.size w wS0 := by repeat' (first | with_reducible assumption | with_reducible exact Below.refl _ _ | (with_reducible refine Below.setCell ?_ ?_ _) | (with_reducible refine Below.alloc ?_ ?_ _) | (with_reducible refine Below.drew ?_) | (with_reducible refine below_dr ?_ _) | (with_reducible refine Below.trans ?_ (Below.mono (by with_reducible assumption) ?_)) | omega | (simp; done) | (simp; omega))
    have bwS0 := Lib.hid bn
    clear bn
    clear bp bW0
    clear hbwS0
    clear bx_aW0
    clear row_a0W0
    have kbx_a0 := bx_awS0.cell 0 rfl
    have lbx_a := bx_awS0.lt
    go_wp2_with fail
    refine (xtoSystem_any a0A a0c a0l _ (HT_a.out) ?_).mono ?_
    · (refine Row.more (B := w.heap.size) ?_ (by first | omega | ((try simp only [World.size_setCell]); (try simp only [World.size_drew]); (try simp only [World.size_alloc]); omega))); repeat' (first | with_reducible assumption | (with_reducible refine Row.drew ?_) | (with_reducible refine Row.carry ?_ (by with_reducible assumption) ?_) | (with_reducible refine Row.alloc ?_ ?_ _) | (with_reducible refine Row.setCell ?_ ?_ _) | omega | (simp; done) | (simp; omega))
    intro e wA0 hq
    obtain ⟨owA0_a0A, owA0_a0c, rfl, owA0_a0, hbwA0⟩ := hq
    clear kbx_a0 lbx_a
    have zwA0 := hbwA0.size
    (try simp only [World.size_setCell] at zwA0)
    (try simp only [World.size_drew] at zwA0)
    (try simp only [World.size_alloc] at zwA0)
    have qwA0 : w.heap.size ≤ wA0.heap.size := by omega
    have bx_awA0 : AtL (w.heap.size) [.slice a0A a0l.length a0c] wA0 := by repeat' (first | with_reducible assumption | with_reducible exact AtL.new _ _ _ | ((with_reducible refine AtL.newAt ?_); (first | rfl | (simp; done))) | (with_reducible refine AtL.drew ?_) | (with_reducible refine AtL.below ?_ (by with_reducible assumption)) | (with_reducible refine AtL.alloc ?_ _) | (with_reducible refine AtL.far ?_ ?_ _ _) | omega | (simp; done) | (simp; omega))
    have row_a0wA0 : Row RvSRow 4 wA0 (w.heap.size) a0A a0l := by repeat' (first | with_reducible assumption | (with_reducible refine Row.drew ?_) | (with_reducible refine Row.carry ?_ (by with_reducible assumption) ?_) | (with_reducible refine Row.alloc ?_ ?_ _) | (with_reducible refine Row.setCell ?_ ?_ _) | omega | (simp; done) | (simp; omega))
    have bp := bwS0.out
    have bn : Below w.heap.size w wA0 := by repeat' (first | with_reducible assumption | with_reducible exact Below.refl _ _ | (with_reducible refine Below.setCell ?_ ?_ _) | (with_reducible refine Below.alloc ?_ ?_ _) | (with_reducible refine Below.drew ?_) | (with_reducible refine below_dr ?_ _) | (with_reducible refine Below.trans ?_ (Below.mono (by with_reducible assumption) ?_)) | omega | (simp; done) | (simp; omega))
    have bwA0 := Lib.hid bn
    clear bn
    clear bp bwS0
    clear hbwA0
    clear bx_awS0
    clear row_a0wS0
    go_wp2_with fail
    refine (C1.out HT_a.out owA0_a0A owA0_a0c _ ?_).mono ?_
    · exact Row.more (B := wA0.heap.size) owA0_a0.here (by first | exact Nat.le_refl _ | omega)
    rintro e wB ⟨rfl, hbwB⟩
    clear owA0_a0
    have zwB := hbwB.size
    (try simp only [World.size_setCell] at zwB)
    (try simp only [World.size_drew] at zwB)
    (try simp only [World.size_alloc] at zwB)
    have qwB : w.heap.size ≤ wB.heap.size := by omega
    have bx_awB : AtL (w.heap.size) [.slice a0A a0l.length a0c] wB := by repeat' (first | with_reducible assumption | with_reducible exact AtL.new _ _ _ | ((with_reducible refine AtL.newAt ?_); (first | rfl | (simp; done))) | (with_reducible refine AtL.drew ?_) | (with_reducible refine AtL.below ?_ (by with_reducible assumption)) | (with_reducible refine AtL.alloc ?_ _) | (with_reducible refine AtL.far ?_ ?_ _ _) | omega | (simp; done) | (simp; omega))
    have row_a0wB : Row RvSRow 4 wB (w.heap.size) a0A a0l := by repeat' (first | with_reducible assumption | (with_reducible refine Row.drew ?_) | (with_reducible refine Row.carry ?_ (by with_reducible assumption) ?_) | (with_reducible refine Row.alloc ?_ ?_ _) | (with_reducible refine Row.setCell ?_ ?_ _) | omega | (simp; done) | (simp; omega))
    have bp := bwA0.out
    have bn : Below w.heap.size w wB := by repeat' (first | with_reducible assumption | with_reducible exact Below.refl _ _ | (with_reducible refine Below.setCell ?_ ?_ _) | (with_reducible refine Below.alloc ?_ ?_ _) | (with_reducible refine Below.drew ?_) | (with_reducible refine below_dr ?_ _) | (with_reducible refine Below.trans ?_ (Below.mono (by with_reducible assumption) ?_)) | omega | (simp; done) | (simp; omega))
    have bwB := Lib.hid bn
    clear bn
    clear bp bwA0
    clear hbwB
    clear bx_awA0
    clear row_a0wA0
    have kbx_a0 := bx_awB.cell 0 rfl
    have lbx_a := bx_awB.lt
    go_wp2_with fail
    clear kbx_a0 lbx_a
    refine (xtoSystem_any a0A a0c a0l _ (HT_a.out) ?_).mono ?_
    · (refine Row.more (B := w.heap.size) ?_ (by first | omega | ((try simp only [World.size_setCell]); (try simp only [World.size_drew]); (try simp only [World.size_alloc]); omega))); repeat' (first | with_reducible assumption | (with_reducible refine Row.drew ?_) | (with_reducible refine Row.carry ?_ (by with_reducible assumption) ?_) | (with_reducible refine Row.alloc ?_ ?_ _) | (with_reducible refine Row.setCell ?_ ?_ _) | omega | (simp; done) | (simp; omega))
    intro e wX0 hq
    obtain ⟨gX0_a0A, gX0_a0c, rfl, owX_a0, hbwX0⟩ := hq
    have zwX0 := hbwX0.size
    (try simp only [World.size_setCell] at zwX0)
    (try simp only [World.size_drew] at zwX0)
    (try simp only [World.size_alloc] at zwX0)
    have qwX0 : w.heap.size ≤ wX0.heap.size := by omega
    have bx_awX0 : AtL (w.heap.size) [.slice a0A a0l.length a0c] wX0 := by repeat' (first | with_reducible assumption | with_reducible exact AtL.new _ _ _ | ((with_reducible refine AtL.newAt ?_); (first | rfl | (simp; done))) | (with_reducible refine AtL.drew ?_) | (with_reducible refine AtL.below ?_ (by with_reducible assumption)) | (with_reducible refine AtL.alloc ?_ _) | (with_reducible refine AtL.far ?_ ?_ _ _) | omega | (simp; done) | (simp; omega))
    have row_a0wX0 : Row RvSRow 4 wX0 (w.heap.size) a0A a0l := by repeat' (first | with_reducible assumption | (with_reducible refine Row.drew ?_) | (with_reducible refine Row.carry ?_ (by with_reducible assumption) ?_) | (with_reducible refine Row.alloc ?_ ?_ _) | (with_reducible refine Row.setCell ?_ ?_ _) | omega | (simp; done) | (simp; omega))
    have bp := bwB.out
    have bn : Below w.heap.size w wX0 := by repeat' (first | with_reducible assumption | with_reducible exact Below.refl _ _ | (with_reducible refine Below.setCell ?_ ?_ _) | (with_reducible refine Below.alloc ?_ ?_ _) | (with_reducible refine Below.drew ?_) | (with_reducible refine below_dr ?_ _) | (with_reducible refine Below.trans ?_ (Below.mono (by with_reducible assumption) ?_)) | omega | (simp; done) | (simp; omega))
    have bwX0 := Lib.hid bn
    clear bn
    clear bp bwB
    clear hbwX0
    clear bx_awB
    clear row_a0wB
    have rx_a0wX0 : Row RvSRow 4 wX0 (wX0.heap.size) gX0_a0A a0l := owX_a0.here
    clear owX_a0
    go_wp2_with fail
    generalize hWB : wX0.alloc (.cells #[.slice gX0_a0A a0l.length gX0_a0c] 32) = WB0
    have hbWB0 : Below wX0.heap.size wX0 WB0 := by rw [← hWB]; repeat' (first | with_reducible assumption | with_reducible exact Below.refl _ _ | (with_reducible refine Below.setCell ?_ ?_ _) | (with_reducible refine Below.alloc ?_ ?_ _) | (with_reducible refine Below.drew ?_) | (with_reducible refine below_dr ?_ _) | (with_reducible refine Below.trans ?_ (Below.mono (by with_reducible assumption) ?_)) | omega | (simp; done) | (simp; omega))
    have at_aWB0 : AtL (wX0.heap.size) [.slice gX0_a0A a0l.length gX0_a0c] WB0 := by rw [← hWB]; exact AtL.new _ _ _
    clear hWB
    have zWB0 := hbWB0.size
    (try simp only [World.size_setCell] at zWB0)
    (try simp only [World.size_drew] at zWB0)
    (try simp only [World.size_alloc] at zWB0)
    have qWB0 : w.heap.size ≤ WB0.heap.size := by omega
    have bx_aWB0 : AtL (w.heap.size) [.slice a0A a0l.length a0c] WB0 := by repeat' (first | with_reducible assumption | with_reducible exact AtL.new _ _ _ | ((with_reducible refine AtL.newAt ?_); (first | rfl | (simp; done))) | (with_reducible refine AtL.drew ?_) | (with_reducible refine AtL.below ?_ (by with_reducible assumption)) | (with_reducible refine AtL.alloc ?_ _) | (with_reducible refine AtL.far ?_ ?_ _ _) | omega | (simp; done) | (simp; omega))
    have row_a0WB0 : Row RvSRow 4 WB0 (w.heap.size) a0A a0l := by repeat' (first | with_reducible assumption | (with_reducible refine Row.drew ?_) | (with_reducible refine Row.carry ?_ (by with_reducible assumption) ?_) | (with_reducible refine Row.alloc ?_ ?_ _) | (with_reducible refine Row.setCell ?_ ?_ _) | omega | (simp; done) | (simp; omega))
    have rx_a0WB0 : Row RvSRow 4 WB0 (wX0.heap.size) gX0_a0A a0l := by repeat' (first | with_reducible assumption | (with_reducible refine Row.drew ?_) | (with_reducible refine Row.carry ?_ (by with_reducible assumption) ?_) | (with_reducible refine Row.alloc ?_ ?_ _) | (with_reducible refine Row.setCell ?_ ?_ _) | omega | (simp; done) | (simp; omega))
    have bp := bwX0.out
    have bn : Below w.heap.size w WB0 := by repeat' (first | with_reducible assumption | with_reducible exact Below.refl _ _ | (with_reducible refine Below.setCell ?_ ?_ _) | (with_reducible refine Below.alloc ?_ ?_ _) | (with_reducible refine Below.drew ?_) | (with_reducible refine below_dr ?_ _) | (with_reducible refine Below.trans ?_ (Below.mono (by with_reducible assumption) ?_)) | omega | (simp; done) | (simp; omega))
    have bWB0 := Lib.hid bn
    clear bn
    clear bp bwX0
    clear hbWB0
    clear bx_awX0
    clear row_a0wX0
    clear rx_a0wX0
    refine (C2.out HT_a.out gX0_a0A gX0_a0c _ (by have bp := bWB0.out; repeat' (first | with_reducible assumption | with_reducible exact Below.refl _ _ | (with_reducible refine Below.setCell ?_ ?_ _) | (with_reducible refine Below.alloc ?_ ?_ _) | (with_reducible refine Below.drew ?_) | (with_reducible refine below_dr ?_ _) | (with_reducible refine Below.trans ?_ (Below.mono (by with_reducible assumption) ?_)) | omega | (simp; done) | (simp; omega))) ?_).mono ?_
    · (refine Row.more (B := wX0.heap.size) ?_ (by first | omega | ((try simp only [World.size_setCell]); (try simp only [World.size_drew]); (try simp only [World.size_alloc]); omega))); repeat' (first | with_reducible assumption | (with_reducible refine Row.drew ?_) | (with_reducible refine Row.carry ?_ (by with_reducible assumption) ?_) | (with_reducible refine Row.alloc ?_ ?_ _) | (with_reducible refine Row.setCell ?_ ?_ _) | omega | (simp; done) | (simp; omega))
    rintro e wI ⟨rfl, hbwI⟩
    have zwI := hbwI.size
    (try simp only [World.size_setCell] at zwI)
    (try simp only [World.size_drew] at zwI)
    (try simp only [World.size_alloc] at zwI)
    have qwI : w.heap.size ≤ wI.heap.size := by omega
    have bx_awI : AtL (w.heap.size) [.slice a0A a0l.length a0c] wI := by repeat' (first | with_reducible assumption | with_reducible exact AtL.new _ _ _ | ((with_reducible refine AtL.newAt ?_); (first | rfl | (simp; done))) | (with_reducible refine AtL.drew ?_) | (with_reducible refine AtL.below ?_ (by with_reducible assumption)) | (with_reducible refine AtL.alloc ?_ _) | (with_reducible refine AtL.far ?_ ?_ _ _) | omega | (simp; done) | (simp; omega))
    have row_a0wI : Row RvSRow 4 wI (w.heap.size) a0A a0l := by repeat' (first | with_reducible assumption | (with_reducible refine Row.drew ?_) | (with_reducible refine Row.carry ?_ (by with_reducible assumption) ?_) | (with_reducible refine Row.alloc ?_ ?_ _) | (with_reducible refine Row.setCell ?_ ?_ _) | omega | (simp; done) | (simp; omega))
    have rx_a0wI : Row RvSRow 4 wI (wX0.heap.size) gX0_a0A a0l := by repeat' (first | with_reducible assumption | (with_reducible refine Row.drew ?_) | (with_reducible refine Row.carry ?_ (by with_reducible assumption) ?_) | (with_reducible refine Row.alloc ?_ ?_ _) | (with_reducible refine Row.setCell ?_ ?_ _) | omega | (simp; done) | (simp; omega))
    have at_awI : AtL (wX0.heap.size) [.slice gX0_a0A a0l.length gX0_a0c] wI := by repeat' (first | with_reducible assumption | with_reducible exact AtL.new _ _ _ | ((with_reducible refine AtL.newAt ?_); (first | rfl | (simp; done))) | (with_reducible refine AtL.drew ?_) | (with_reducible refine AtL.below ?_ (by with_reducible assumption)) | (with_reducible refine AtL.alloc ?_ _) | (with_reducible refine AtL.far ?_ ?_ _ _) | omega | (simp; done) | (simp; omega))
    have bp := bWB0.out
    have bn : Below w.heap.size w wI := by repeat' (first | with_reducible assumption | with_reducible exact Below.refl _ _ | (with_reducible refine Below.setCell ?_ ?_ _) | (with_reducible refine Below.alloc ?_ ?_ _) | (with_reducible refine Below.drew ?_) | (with_reducible refine below_dr ?_ _) | (with_reducible refine Below.trans ?_ (Below.mono (by with_reducible assumption) ?_)) | omega | (simp; done) | (simp; omega))
    have bwI := Lib.hid bn
    clear bn
    clear bp bWB0
    clear hbwI
    clear bx_aWB0
    clear row_a0WB0
    clear rx_a0WB0
    clear at_aWB0
    have kat_a0 := at_awI.cell 0 rfl
    have lat_a := at_awI.lt
    have kbx_a0 := bx_awI.cell 0 rfl
    have lbx_a := bx_awI.lt
    go_wp2_with fail
    go_region_held3 (fun w' => (∀ b o, b < wI.heap.size → w'.cell? ⟨b, o, none⟩ = wI.cell? ⟨b, o, none⟩) ∧ wI.heap.size ≤ w'.heap.size)
      (first | ((try dsimp only); exact ⟨fun b o h => (by (repeat (first | with_reducible exact rfl | (with_reducible refine (cell_drew_at _ _).trans ?_) | (with_reducible refine (cell_set_at _ _ (by first | omega | (simp; done) | (simp; omega))).trans ?_) | (with_reducible refine (cell_alloc_at _ _ (by first | omega | (simp; done) | (simp; omega))).trans ?_) | (with_reducible refine (hcwT0 b o (by first | omega | (simp; done) | (simp; omega))).trans ?_) | (with_reducible refine (hcwE0 b o (by first | omega | (simp; done) | (simp; omega))).trans ?_)))), (by first | omega | (simp; done) | (simp; omega))⟩) | fail)
      (first
        | (go_at_call 9; (with_reducible refine (xtoSystem_any a0A a0c a0l _ (HT_a.out) ?_).mono ?_); (focus ((refine Row.more (B := w.heap.size) ?_ (by first | omega | ((try simp only [World.size_setCell]); (try simp only [World.size_drew]); (try simp only [World.size_alloc]); omega))); repeat' (first | with_reducible assumption | (with_reducible refine Row.drew ?_) | (with_reducible refine Row.carry ?_ (by with_reducible assumption) ?_) | (with_reducible refine Row.alloc ?_ ?_ _) | (with_reducible refine Row.setCell ?_ ?_ _) | omega | (simp; done) | (simp; omega)))); intro e wT0 hq; obtain ⟨owE_a0A, owE_a0c, rfl, owE_a0, hbwT0⟩ := hq; obtain ⟨hcwT0, hfwT0⟩ := bcell hbwT0; have hzwT0 := hbwT0.size; (try simp only [World.size_drew] at hcwT0 hfwT0 hzwT0); (try simp only [World.size_alloc] at hcwT0 hfwT0 hzwT0))
        | (go_at_call 11; (with_reducible refine (xeqSystem_any gX0_a0A gX0_a0c a0l owE_a0A owE_a0c _ (Nat.le_trans HT_a.out (by omega)) ?_ ?_).mono ?_); (focus ((refine Row.more (B := wX0.heap.size) ?_ (by first | omega | ((try simp only [World.size_setCell]); (try simp only [World.size_drew]); (try simp only [World.size_alloc]); omega))); repeat' (first | with_reducible assumption | (with_reducible refine Row.drew ?_) | (with_reducible refine Row.carry ?_ (by with_reducible assumption) ?_) | (with_reducible refine Row.alloc ?_ ?_ _) | (with_reducible refine Row.setCell ?_ ?_ _) | omega | (simp; done) | (simp; omega)))); (focus (first | exact owE_a0.here | exact (RowIn.here owE_a0).drew)); rintro e wE0 ⟨rfl, hbwE0⟩; obtain ⟨hcwE0, hfwE0⟩ := bcell hbwE0; have hzwE0 := hbwE0.size; (try simp only [World.size_drew] at hcwE0 hfwE0 hzwE0); (try simp only [World.size_alloc] at hcwE0 hfwE0 hzwE0)))
    clear kat_a0 lat_a
    clear kbx_a0 lbx_a
    all_goals
      have zwE0 := hbwE0.size
      (try simp only [World.size_setCell] at zwE0)
      (try simp only [World.size_drew] at zwE0)
      (try simp only [World.size_alloc] at zwE0)
      have qwE0 : w.heap.size ≤ wE0.heap.size := by omega
      have bx_awE0 : AtL (w.heap.size) [.slice a0A a0l.length a0c] wE0 := by repeat' (first | with_reducible assumption | with_reducible exact AtL.new _ _ _ | ((with_reducible refine AtL.newAt ?_); (first | rfl | (simp; done))) | (with_reducible refine AtL.drew ?_) | (with_reducible refine AtL.below ?_ (by with_reducible assumption)) | (with_reducible refine AtL.alloc ?_ _) | (with_reducible refine AtL.far ?_ ?_ _ _) | omega | (simp; done) | (simp; omega))
      have row_a0wE0 : Row RvSRow 4 wE0 (w.heap.size) a0A a0l := by repeat' (first | with_reducible assumption | (with_reducible refine Row.drew ?_) | (with_reducible refine Row.carry ?_ (by with_reducible assumption) ?_) | (with_reducible refine Row.alloc ?_ ?_ _) | (with_reducible refine Row.setCell ?_ ?_ _) | omega | (simp; done) | (simp; omega))
      have rx_a0wE0 : Row RvSRow 4 wE0 (wX0.heap.size) gX0_a0A a0l := by repeat' (first | with_reducible assumption | (with_reducible refine Row.drew ?_) | (with_reducible refine Row.carry ?_ (by with_reducible assumption) ?_) | (with_reducible refine Row.alloc ?_ ?_ _) | (with_reducible refine Row.setCell ?_ ?_ _) | omega | (simp; done) | (simp; omega))
      have at_awE0 : AtL (wX0.heap.size) [.slice gX0_a0A a0l.length gX0_a0c] wE0 := by repeat' (first | with_reducible assumption | with_reducible exact AtL.new _ _ _ | ((with_reducible refine AtL.newAt ?_); (first | rfl | (simp; done))) | (with_reducible refine AtL.drew ?_) | (with_reducible refine AtL.below ?_ (by with_reducible assumption)) | (with_reducible refine AtL.alloc ?_ _) | (with_reducible refine AtL.far ?_ ?_ _ _) | omega | (simp; done) | (simp; omega))
      have bp := bwI.out
      have bn : Below w.heap.size w wE0 := by repeat' (first | with_reducible assumption | with_reducible exact Below.refl _ _ | (with_reducible refine Below.setCell ?_ ?_ _) | (with_reducible refine Below.alloc ?_ ?_ _) | (with_reducible refine Below.drew ?_) | (with_reducible refine below_dr ?_ _) | (with_reducible refine Below.trans ?_ (Below.mono (by with_reducible assumption) ?_)) | omega | (simp; done) | (simp; omega))
      have bwE0 := Lib.hid bn
      clear bn
      clear bp bwI
      clear hbwE0
      clear bx_awI
      clear row_a0wI
      clear rx_a0wI
      clear at_awI
      go_wp2_with fail
      go_ret
      have bp := bwE0.out
      exact ⟨rfl, by repeat' (first | with_reducible assumption | with_reducible exact Below.refl _ _ | (with_reducible refine Below.setCell ?_ ?_ _) | (with_reducible refine Below.alloc ?_ ?_ _) | (with_reducible refine Below.drew ?_) | (with_reducible refine below_dr ?_ _) | (with_reducible refine Below.trans ?_ (Below.mono (by with_reducible assumption) ?_)) | omega | (simp; done) | (simp; omega))⟩
end Go.Proofs.YtonoldjhfhngfaaDoor
