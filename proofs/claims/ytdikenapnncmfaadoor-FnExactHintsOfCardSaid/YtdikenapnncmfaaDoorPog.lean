/- Walks: the program of instructions, the program's side: encoded. -/
import Derived.Test.YtdikenapnncmfaaDoorPoe
import Derived.Test.YtdikenapnncmfaaDoorPof
import Derived.Test.YtdikenapnncmfaaDoorShelf
import Derived.Lib.BufferOld
namespace Go.Proofs.YtdikenapnncmfaaDoor
open Go.RowKit
set_option linter.unusedVariables false
def erV (C : Int) : Value := if C = 0 then .nilIface else .iface 105 (.agg #[.int .i64 C])
def u8V (es : List Int) : List Value := es.map (Value.int .u8)
theorem u8V_one (es : List Int) : ∀ v ∈ u8V es, v.oneCell' = true := by
  intro v hv
  obtain ⟨x, _, rfl⟩ := List.mem_map.1 hv
  rfl
theorem u8V_snoc (es : List Int) (a : Int) : u8V es ++ [.int .u8 a] = u8V (es ++ [a]) := by simp [u8V]
theorem u8V_app (es fs : List Int) : u8V es ++ u8V fs = u8V (es ++ fs) := by simp [u8V]
theorem u8V_cells {es : List Int} (h : ∀ x ∈ es, 0 ≤ x ∧ x < 256) : u8V es = Lib.byteCells (es.map toU8) := by
  unfold u8V Lib.byteCells
  rw [List.map_map]
  apply List.map_congr_left
  intro z hz
  have := h z hz
  simp only [Function.comp]
  rw [toU8_nat this.1 this.2]
theorem hint_ne (c : Array Value) (fz : Nat × Nat) (cs : Array Value) : (Obj.cells cs 68 (0, 0)) ≠ .cells c 5 fz := by
  intro h
  injection h with _ h2 _
  exact absurd h2 (by decide)
theorem alB_at {l : List AHint} {k : Nat} {x : AHint} (h : alB l = true) (hx : l[k]? = some x) : hvB x.1 x.2 = true := by
  unfold alB at h
  rw [List.all_eq_true] at h
  exact h x (List.mem_of_getElem? hx)
set_option maxRecDepth 100000 in
set_option maxHeartbeats 12800000 in
theorem encoded_any (l : List AHint) (A : Option Addr) (c : Nat) (w : World) (hl : l.length ≤ 1048576) (r : Rd cHint 2 w w.heap.size A l) :
    Calls Tryd.prog 63 #[.slice A l.length c] w fun e w' => e = .returned (.tuple #[.string (pgV l), erV (pgC l)]) ∧ Below w.heap.size w w' := by
  have CE := Lib.hid (partnersOfE_any l A c w hl r)
  have HR := Lib.hid r
  clear r
  obtain ⟨n, hn⟩ : ∃ n, n = l.length := ⟨_, rfl⟩
  have HN := Lib.hid hn
  rw [← hn] at hl CE ⊢
  clear hn
  obtain ⟨V, hV0⟩ : ∃ V, V = pgV l := ⟨_, rfl⟩
  obtain ⟨E, hE0⟩ : ∃ E, E = erV (pgC l) := ⟨_, rfl⟩
  rw [← hV0, ← hE0]
  have HV := Lib.hid hV0
  have HE := Lib.hid hE0
  clear hV0 hE0
  go_enter Tryd.func63, Tryd.ntmps63
  go_wp2_with fail
  refine (CE.out).mono ?_
  intro e w1 hq
  obtain ⟨b1, hq⟩ := hq
  have z1 := b1.size
  rcases hq with ⟨h1, h2, P, rfl, _, _⟩ | ⟨C, hC, rfl⟩
  case inr =>
    have hVE : V = ⟨#[]⟩ ∧ E = .iface 105 (.agg #[.int .i64 C]) := by
      rcases hC with ⟨h1, rfl⟩ | ⟨h1, h2, rfl⟩
      · obtain ⟨p1, p2⟩ := pg_1 h1
        exact ⟨HV.out.trans p2, HE.out.trans (by rw [p1]; rfl)⟩
      · obtain ⟨p1, p2⟩ := pg_6 h1 h2
        exact ⟨HV.out.trans p2, HE.out.trans (by rw [p1]; rfl)⟩
    have HVE := Lib.hid hVE
    clear hVE hC
    go_wp2_with fail
    obtain ⟨hV, hE⟩ := HVE.out
    refine bodyPost_ret (v := .tuple #[.string (⟨#[]⟩), .iface 105 (.agg #[.int .i64 C])]) (by simp [results, Tryd.results63, go_sem]) rfl ⟨by rw [hV, hE], ?_⟩
    repeat' (first | with_reducible assumption | with_reducible exact Below.refl _ _ | (with_reducible refine Below.setCell ?_ ?_ _) | (with_reducible refine Below.alloc ?_ ?_ _) | (with_reducible refine Below.drew ?_) | (with_reducible refine below_dr ?_ _) | (with_reducible refine Below.trans ?_ (Below.mono (by with_reducible assumption) ?_)) | omega | (simp; done) | (simp; omega))
  case inl =>
    go_wp2_with fail
    generalize hW : w1.alloc (.cells #[.slice none 0 0, .int .i64 0, .int .i8 0] 98) = W0
    obtain ⟨Q, hQ⟩ : ∃ Q, Q = w1.heap.size := ⟨_, rfl⟩
    have ib0 : Lib.IsBuffer 98 5 Q Q (u8V (pgI (l.take 0))) W0 := by rw [← hW, hQ]; exact Lib.fresh_isBuffer _ _ _
    have hb0 : Below w.heap.size w W0 := by rw [← hW]; repeat' (first | with_reducible assumption | with_reducible exact Below.refl _ _ | (with_reducible refine Below.setCell ?_ ?_ _) | (with_reducible refine Below.alloc ?_ ?_ _) | (with_reducible refine Below.drew ?_) | (with_reducible refine below_dr ?_ _) | (with_reducible refine Below.trans ?_ (Below.mono (by with_reducible assumption) ?_)) | omega | (simp; done) | (simp; omega))
    have zQ : Q < W0.heap.size := by rw [← hW, hQ]; simp
    have hwQ : w.heap.size ≤ Q := by omega
    have rl0 : Rd cHint 2 W0 Q A l := (Rd.carry HR.out hb0 (Nat.le_refl _)).more hwQ
    have HRL := Lib.hid rl0
    rw [← hQ]
    clear hW rl0 hQ b1 z1
    go_loopw [19] (fun i wr => ∃ k : Nat, k ≤ n ∧ i = .int .i64 (k : Int) ∧ Lib.IsBuffer 98 5 Q Q (u8V (pgI (l.take k))) wr ∧ Below Q W0 wr) (fun i _ => n - (intOf i).toNat)
    case atStart => exact ⟨0, Nat.zero_le _, rfl, ib0, Below.refl _ _⟩
    case round =>
      clear ib0
      obtain ⟨k, hk, rfl, ib, hbl⟩ := hrel
      have zr := hbl.size
      have hbw : Below w.heap.size w wr := hb0.trans (hbl.mono hwQ)
      by_cases hlt : k < n
      case neg =>
        obtain rfl : k = n := by omega
        rw [show pgI (l.take k) = pgI l by rw [List.take_of_length_le (by have := HN.out; omega)]] at ib
        have CL := Lib.hid (Tryd.Buffer_Len Q Q _ wr ib)
        rw [u8V_cells (pgI_in l)] at ib
        have CS := Lib.hid (fun m => Tryd.Buffer_String Q Q _ (wr.drewN m) (ib.drewN m))
        clear ib
        rw [show (⟨((pgI l).map toU8).toArray⟩ : ByteArray) = pgT l from rfl] at CS
        have hln : (u8V (pgI l)).length = (pgT l).size := by rw [pgT_size]; simp [u8V]
        rw [hln] at CL
        clear hln
        by_cases h3 : 400 < (pgT l).size
        case pos =>
          have HVE := Lib.hid (show V = ⟨#[]⟩ ∧ E = .iface 105 (.agg #[.int .i64 5]) from by obtain ⟨p1, p2⟩ := pg_5 h1 h2 h3; exact ⟨HV.out.trans p2, HE.out.trans (by rw [p1]; rfl)⟩)
          clear h1 h2
          generalize pgT l = R at *
          go_wp2_with (go_at_call 78; (with_reducible refine (CL.out).mono ?_); rintro e w2 ⟨rfl, m2, rfl⟩)
          obtain ⟨hV, hE⟩ := HVE.out
          refine bodyPost_ret (v := .tuple #[.string (⟨#[]⟩), .iface 105 (.agg #[.int .i64 5])]) (by simp [results, Tryd.results63, go_sem]) rfl ⟨by rw [hV, hE], ?_⟩
          exact hbw.trans (Joins.below_draws _ _ _)
        case neg =>
          have h4 : (pgT l).size ≤ 400 := by omega
          have HVE := Lib.hid (show V = pgT l ∧ E = .nilIface from by obtain ⟨p1, p2⟩ := pg_0 h1 h2 h4; exact ⟨HV.out.trans p2, HE.out.trans (by rw [p1]; rfl)⟩)
          clear h1 h2 h3
          generalize pgT l = R at *
          go_wp2_with (first | (go_at_call 78; (with_reducible refine (CL.out).mono ?_); rintro e w2 ⟨rfl, m2, rfl⟩) | (go_at_call 79; refine (CS.out m2).mono ?_; rintro e w3 ⟨rfl, m3, rfl⟩))
          obtain ⟨hV, hE⟩ := HVE.out
          refine bodyPost_ret (v := .tuple #[.string (R), .nilIface]) (by simp [results, Tryd.results63, go_sem]) rfl ⟨by rw [hV, hE], ?_⟩
          first | exact hbw.trans ((Joins.below_draws _ _ m2).trans (Joins.below_draws _ _ m3)) | exact hbw.trans (Joins.below_draws _ _ _)
      case pos =>
        obtain ⟨⟨x0, x1⟩, hx⟩ : ∃ x, l[k]? = some x := ⟨l[k]'(by have := HN.out; omega), List.getElem?_eq_getElem (by have := HN.out; omega)⟩
        obtain ⟨g, o, rfl, hg, hc⟩ := (Rd.keep HRL.out (fun p hp => hbl.cell hp)).elem hx
        have y0 : wr.cell? ⟨g, o + k * 2, none⟩ = some (.int .i64 x0) := hc 0 _ rfl
        have y1 : wr.cell? ⟨g, o + k * 2 + 1, none⟩ = some (.int .i64 x1) := hc 1 _ rfl
        clear hc
        have hv : hvB x0 x1 = true := alB_at h1 hx
        have HS := Lib.hid (pgI_snoc hx)
        have hlen := pgI_tlen l k (by omega)
        clear hx
        have hki : (k : Int) < (n : Int) := by omega
        have hgw : g < wr.heap.size := by omega
        have HV1 := Lib.hid h1
        have HV2 := Lib.hid h2
        clear h1 h2
        obtain ⟨bs, hbs⟩ : ∃ bs, bs = u8V (pgI (l.take k)) := ⟨_, rfl⟩
        rw [← hbs] at ib
        have hone : ∀ v ∈ bs, v.oneCell' = true := by rw [hbs]; exact u8V_one _
        have hlen2 : bs.length ≤ 3145728 := by rw [hbs]; simpa [u8V] using hlen
        have HBS := Lib.hid hbs
        clear hbs hlen
        have CB := Lib.hid (Tryd.Buffer_WriteByte_k Q Q bs (x0 % 256) (wr.alloc (.cells #[.int .i64 x0, .int .i64 x1] 68)) (ib.alloc _) (by simp; omega) hone (by omega))
        have hone2 : ∀ v ∈ bs ++ [.int .u8 (x0 % 256)], v.oneCell' = true := by intro v hv; rcases List.mem_append.1 hv with h | h; exact hone v h; (simp only [List.mem_cons, List.not_mem_nil, or_false] at h; subst h; rfl)
        have CS := Lib.hid (fun W (ib : Lib.IsBuffer 98 5 Q Q (bs ++ [.int .u8 (x0 % 256)]) W) (hz : Q ≤ W.heap.size) => Tryd.Buffer_WriteString_k Q Q _ (twT x0 x1) W ib hz hone2 (by have := twT_size x0 x1; simp only [List.length_append, List.length_cons, List.length_nil]; omega))
        have CF := Lib.hid (fun w => form_any x0 x1 w)
        have CP := Lib.hid (fun w => putw_any x0 x1 w hv)
        have HTC := Lib.hid (twT_cells x0 x1)
        clear hv hone hone2 ib
        have kB : Blk (wr.alloc (.cells #[.int .i64 x0, .int .i64 x1] 68)) wr.heap.size 68 #[.int .i64 x0, .int .i64 x1] := Blk.new _ _ _
        have HKB := Lib.hid kB
        clear kB
        generalize twT x0 x1 = tw at *
        generalize fmB x0 = f0 at *
        generalize fmL x0 = f1 at *
        generalize fmG x0 = f2 at *
        have hfd : ∀ W, (Instr.field 81 (.agg #[.int .i64 f0, .int .i64 f1, .int .i64 f2]) 0).run Tryd.prog W = .ok (.int .i64 f0) W := fun _ => by kernel_rfl
        go_wp2_with (go_at_call 75; (with_reducible refine (CB.out).mono ?_); rintro e w2 ⟨rfl, ib2, b2, ok2⟩; have hz2 := b2.size; (try simp only [World.size_alloc] at hz2); have k2 : Blk w2 wr.heap.size 68 #[.int .i64 x0, .int .i64 x1] := ok2 _ _ HKB.out (by intro e; injection e with e; omega) (fun c fz => hint_ne c fz _); have hl2 := k2.lt; have y2a : w2.cell? ⟨wr.heap.size, 0, none⟩ = some (.int .i64 x0) := k2.cell 0 rfl; have y2b : w2.cell? ⟨wr.heap.size, 1, none⟩ = some (.int .i64 x1) := k2.cell 1 rfl; have HK2 := Lib.hid k2; have HI2 := Lib.hid ib2; clear k2 ib2 ok2)
        refine wp_region_held_drew (S := (fun w' => w'.cell? ⟨wr.heap.size, 0, none⟩ = some (.int .i64 x0) ∧ w'.cell? ⟨wr.heap.size, 1, none⟩ = some (.int .i64 x1))) (by kernel_rfl) ?_ (fun hHeld => ?_)
        · (try dsimp only); (first | exact ⟨y2a, y2b⟩ | exact ⟨y3a, y3b⟩ | exact ⟨y4a, y4b⟩ | exact ⟨y5a, y5b⟩ | fail)
        refine wpAnyH_take (i := 0) (oi := ⟨_, _, _, _, _, _⟩) (v := ?_) rfl (by kernel_rfl) (by kernel_rfl) (by kernel_rfl) (fun _ _ _ h => h) (Or.inl ⟨by rfl, ?_⟩) (by assumption) ?_
        rotate_left
        · intro w hSw; (try dsimp only at hSw); go_simp; (try with_reducible rfl)
        (try simp only [Act.put, List.setIfInBounds_toArray, List.set_cons_zero, List.set_cons_succ])
        refine wpAnyH_take (i := 1) (oi := ⟨_, _, _, _, _, _⟩) (v := ?_) rfl (by kernel_rfl) (by kernel_rfl) (by kernel_rfl) (fun _ _ _ h => h) (Or.inl ⟨by rfl, ?_⟩) (by assumption) ?_
        rotate_left
        · intro w hSw; (try dsimp only at hSw); go_simp; (try with_reducible rfl)
        (try simp only [Act.put, List.setIfInBounds_toArray, List.set_cons_zero, List.set_cons_succ])
        refine wpAnyH_take (i := 2) (oi := ⟨_, _, _, _, _, _⟩) (v := ?_) rfl (by kernel_rfl) (by kernel_rfl) (by kernel_rfl) (fun _ _ _ h => h) (Or.inl ⟨by rfl, ?_⟩) (by assumption) ?_
        rotate_left
        · intro w hSw; (try dsimp only at hSw); go_simp; (try with_reducible rfl)
        (try simp only [Act.put, List.setIfInBounds_toArray, List.set_cons_zero, List.set_cons_succ])
        refine wpAnyH_ready (rs := [3]) (by kernel_rfl) (by simp) ?_
        refine AllReadyH.cons (o := ⟨_, _, _, _, _, _⟩) rfl (fun K hK => ?_) AllReadyH.nil
        go_simp
        (go_at_call 60; refine (CF.out _).mono ?_; rintro e w3 ⟨rfl, b3⟩; have hz3 := b3.size; have hl3 : wr.heap.size < w3.heap.size := Nat.lt_of_lt_of_le hl2 hz3; have y3a : w3.cell? ⟨wr.heap.size, 0, none⟩ = some (.int .i64 x0) := (b3.cell hl2).trans y2a; have y3b : w3.cell? ⟨wr.heap.size, 1, none⟩ = some (.int .i64 x1) := (b3.cell hl2).trans y2b; have HI3 : Hid (Lib.IsBuffer 98 5 Q Q (bs ++ [.int .u8 (x0 % 256)]) w3) := (by first | exact Lib.hid (HI2.out.old b3) | exact Lib.hid (HI2.out.drew.old b3)))
        refine hK.out _ _ ?_ (fun hHeld => ?_)
        · (try dsimp only); (first | exact ⟨y2a, y2b⟩ | exact ⟨y3a, y3b⟩ | exact ⟨y4a, y4b⟩ | exact ⟨y5a, y5b⟩ | fail)
        clear hK K
        (try simp only [Act.put, List.setIfInBounds_toArray, List.set_cons_zero, List.set_cons_succ])
        refine wpAnyH_take (i := 4) (oi := ⟨_, _, _, _, _, _⟩) (v := ?_) rfl (by kernel_rfl) (by kernel_rfl) (by kernel_rfl) (fun _ _ _ h => h) (Or.inl ⟨by rfl, ?_⟩) (by assumption) ?_
        rotate_left
        · intro w hSw; (try dsimp only at hSw); go_simp; (try with_reducible rfl)
        (try simp only [Act.put, List.setIfInBounds_toArray, List.set_cons_zero, List.set_cons_succ])
        refine wpAnyH_ready (rs := [5]) (by kernel_rfl) (by simp) ?_
        refine AllReadyH.cons (o := ⟨_, _, _, _, _, _⟩) rfl (fun K hK => ?_) AllReadyH.nil
        go_simp
        (go_at_call 77; refine (CP.out _).mono ?_; rintro e w4 ⟨rfl, b4⟩; have hz4 := b4.size; have hl4 : wr.heap.size < w4.heap.size := Nat.lt_of_lt_of_le hl3 hz4; have y4a : w4.cell? ⟨wr.heap.size, 0, none⟩ = some (.int .i64 x0) := (b4.cell hl3).trans y3a; have y4b : w4.cell? ⟨wr.heap.size, 1, none⟩ = some (.int .i64 x1) := (b4.cell hl3).trans y3b; have HI4 : Hid (Lib.IsBuffer 98 5 Q Q (bs ++ [.int .u8 (x0 % 256)]) w4) := (by first | exact Lib.hid (HI3.out.old b4) | exact Lib.hid (HI3.out.drew.old b4)))
        refine hK.out _ _ ?_ (fun hHeld => ?_)
        · (try dsimp only); (first | exact ⟨y2a, y2b⟩ | exact ⟨y3a, y3b⟩ | exact ⟨y4a, y4b⟩ | exact ⟨y5a, y5b⟩ | fail)
        clear hK K
        (try simp only [Act.put, List.setIfInBounds_toArray, List.set_cons_zero, List.set_cons_succ])
        refine wpAnyH_ready (rs := [6]) (by kernel_rfl) (by simp) ?_
        refine AllReadyH.cons (o := ⟨_, _, _, _, _, _⟩) rfl (fun K hK => ?_) AllReadyH.nil
        go_simp
        (go_at_call 76; refine (CS.out _ HI4.out (Nat.le_trans (show Q ≤ wr.heap.size by omega) (Nat.le_of_lt hl4))).mono ?_; rintro e w5 ⟨rfl, ib5, b5, ok5⟩; have hz5 := b5.size; have k4 : Blk w4 wr.heap.size 68 #[.int .i64 x0, .int .i64 x1] := (b4.block _ hl3).trans ((b3.block _ hl2).trans HK2.out); have k5 : Blk w5 wr.heap.size 68 #[.int .i64 x0, .int .i64 x1] := ok5 _ _ k4 (by intro e; injection e with e; omega) (fun c fz => hint_ne c fz _); have y5a : w5.cell? ⟨wr.heap.size, 0, none⟩ = some (.int .i64 x0) := k5.cell 0 rfl; have y5b : w5.cell? ⟨wr.heap.size, 1, none⟩ = some (.int .i64 x1) := k5.cell 1 rfl; have HI5 := Lib.hid ib5; clear k4 k5 ib5 ok5)
        refine hK.out _ _ ?_ (fun hHeld => ?_)
        · (try dsimp only); (first | exact ⟨y2a, y2b⟩ | exact ⟨y3a, y3b⟩ | exact ⟨y4a, y4b⟩ | exact ⟨y5a, y5b⟩ | fail)
        clear hK K
        (try simp only [Act.put, List.setIfInBounds_toArray, List.set_cons_zero, List.set_cons_succ])
        refine wpAnyH_done (by kernel_rfl) ?_ _
        have ib6 := HI5.out
        rw [HTC.out, HBS.out, u8V_snoc] at ib6
        have ib7 : Lib.IsBuffer 98 5 Q Q (u8V (pgI (l.take (k + 1)))) w5 := by rw [HS.out, biL_tw]; have h := ib6; rw [show (twL x0 x1).map (Value.int .u8) = u8V (twL x0 x1) from rfl, u8V_app, List.append_assoc] at h; exact h
        have HI7 := Lib.hid ib7
        clear ib6 ib7
        have hb7 : Below Q W0 w5 := (((hbl.alloc (by omega) _).trans b2).drew.trans (b3.mono (Nat.le_trans (show Q ≤ wr.heap.size by omega) (Nat.le_of_lt hl2)))).trans ((b4.mono (Nat.le_trans (show Q ≤ wr.heap.size by omega) (Nat.le_of_lt hl3))).trans b5)
        go_wp2_with fail
        go_roundw
        case rel => exact ⟨k + 1, by omega, by go_num, HI7.out, hb7⟩
        case measure => simp [intOf]; omega
end Go.Proofs.YtdikenapnncmfaaDoor
