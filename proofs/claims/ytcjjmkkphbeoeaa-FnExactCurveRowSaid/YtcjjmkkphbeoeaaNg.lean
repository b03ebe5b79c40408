/- Walks: the coefficients of an equation of a curve, the program's side. -/
import Derived.Test.YtcjjmkkphbeoeaaNc
import Derived.Test.YtcjjmkkphbeoeaaIz
import Derived.Test.YtcjjmkkphbeoeaaMem
import Derived.Lib.SliceRun
namespace Go.Proofs.Ytcjjmkkphbeoeaa
open Go.RowKit
set_option linter.unusedVariables false
theorem infoI : (Try.prog.info? 2).map (fun i => (i.zero, i.size, i.bytes)) = some (some (.int .i64 0), 1, 8) := by kernel_rfl
theorem cellsI_at (l : List Int) (j : Nat) : (cellsF cI l)[j]? = (l[j]?).map (fun x => Value.int .i64 x) := by
  rcases Nat.lt_or_ge j l.length with h | h
  · have h2 := cellsF_at (fun a => cI_len a) l j _ (List.getElem?_eq_getElem h) 0 (by omega)
    rw [show j * 1 + 0 = j by omega] at h2
    rw [h2, List.getElem?_eq_getElem h]; rfl
  · rw [List.getElem?_eq_none h, List.getElem?_eq_none (by rw [cellsF_len (fun a => cI_len a)]; omega)]; rfl
theorem reads_ints {w : World} {A : Option Addr} {l : List Int} (h1 : 1 ≤ l.length) (r : Rd cI 1 w w.heap.size A l) : ∃ g o, A = some ⟨g, o, none⟩ ∧ g < w.heap.size ∧ Reads w w.heap.size 1 A l.length (cellsF cI l) := by
  obtain ⟨g, o, hA, hg, -⟩ := r.elem (k := 0) (List.getElem?_eq_getElem (by omega))
  refine ⟨g, o, hA, hg, cellsF_len (fun a => cI_len a) l, fun _ => ⟨⟨g, o, none⟩, hA, hg, fun j u hu => ?_⟩⟩
  rw [cellsI_at] at hu
  obtain ⟨x, hx, rfl⟩ := Option.map_eq_some_iff.1 hu
  obtain ⟨g', o', hA', _, hc⟩ := r.elem hx
  obtain ⟨rfl, rfl⟩ : g = g' ∧ o = o' := by rw [hA] at hA'; injection hA' with h; injection h with h1 h2; exact ⟨h1, h2⟩
  have h4 := hc 0 _ rfl
  rw [Addr.add_lit]
  simpa using h4
set_option maxRecDepth 100000 in
set_option maxHeartbeats 1600000 in
theorem cloneI_any (l : List Int) (A : Option Addr) (c : Nat) (w : World) (h1 : 1 ≤ l.length) (h2 : l.length ≤ 10) (r : Rd cI 1 w w.heap.size A l) :
    Calls Try.prog 47 #[.slice A l.length c] w fun e w' =>
      ∃ (A' : Option Addr) (c' : Nat), e = .returned (.slice A' l.length c') ∧ w'.ownsRow w.heap.size 2 1 (.slice A' l.length c') l.length (cellsF cI l) ∧ Below w.heap.size w w' := by
  obtain ⟨i0, hi0, hz0', hz1', hz2'⟩ := info_parts infoI
  have HI0 := Lib.hid hi0
  have HZ0 := Lib.hid hz0'
  have HZ1 := Lib.hid hz1'
  have HZ2 := Lib.hid hz2'
  clear hi0 hz0' hz1' hz2'
  obtain ⟨g, o, rfl, hg, hrd⟩ := reads_ints h1 r
  have H1C := Lib.hid (fun (u : Value) (hu : u ∈ cellsF cI l) => cellsF_one (fun a => cI_one a) l u hu)
  generalize cellsF cI l = xs at hrd H1C ⊢
  generalize l.length = n at hrd h1 h2 ⊢
  have HRD := Lib.hid ((hrd.alloc (Nat.le_refl _) (.cells #[] 2)).more (B' := (w.alloc (.cells #[] 2)).heap.size) (by simp))
  have HOW := Lib.hid (own_made w w.heap.size 2 1 0 #[] (Nat.le_refl _) (Nat.zero_le _) (by simp))
  have HMX := Lib.hid (show 0 + n ≤ maxLen by unfold maxLen; omega)
  have HBY := Lib.hid (show (0 + n) * 8 ≤ 140737488355328 by omega)
  have HBS := Lib.hid (show w.heap.size ≤ (w.alloc (.cells #[] 2)).heap.size by simp)
  have q22 : ∀ w : World, (Go.binOp .eql 41 (.slice (some ⟨g, o, none⟩) n c) (.slice none 0 0)).run Try.prog w = .ok (.bool false) w := fun w => Lib.run_eql_slice_nil w _ _ (some ⟨g, o, none⟩) n c 0 0 Try.underlying41
  clear hrd r
  go_enter Try.func47, Try.ntmps47
  go_wp2_with (at_builtin; refine wpList_append_any _ rfl (.tmp 5) (.tmp 6) _ rfl w.heap.size 2 i0 _ 1 8 Try.underlying41 HI0.out HZ0.out HZ1.out HZ2.out rfl (by omega) _ 0 [] rfl HOW.out _ (some ⟨g, o, none⟩) n c xs rfl HRD.out H1C.out HMX.out HBY.out HBS.out ?_; intro v' w9 hown9 hg9 hat9; rw [Nat.zero_add] at hown9; obtain ⟨g9, cap9, rfl, _, _⟩ := hown9.form (by omega); have HOWN9 := Lib.hid hown9; have HG9 := Lib.hid hg9; clear hown9 hg9 hat9)
  go_ret
  refine ⟨_, _, rfl, ?_, ?_⟩
  · have := HOWN9.out; simpa using this
  · exact below_of_grown (by repeat' (first | with_reducible assumption | with_reducible exact Below.refl _ _ | (with_reducible refine Below.setCell ?_ ?_ _) | (with_reducible refine Below.alloc ?_ ?_ _) | (with_reducible refine Below.drew ?_) | (with_reducible refine below_dr ?_ _) | (with_reducible refine Below.trans ?_ (Below.mono (by with_reducible assumption) ?_)) | omega | (simp; done) | (simp; omega))) HG9.out (by simp) (fun q hq => by have h : w.heap.size = q := Option.some.inj hq; omega)
def rowL (F : Nat → Int) (n : Nat) : List Int := (List.range n).map F
theorem rowL_len (F : Nat → Int) (n : Nat) : (rowL F n).length = n := by simp [rowL]
theorem rowL_at {F : Nat → Int} {n k : Nat} {a : Int} (h : (rowL F n)[k]? = some a) : k < n ∧ a = F k := by
  unfold rowL at h
  rw [List.getElem?_map] at h
  rcases Nat.lt_or_ge k n with hk | hk
  · rw [List.getElem?_range hk] at h; exact ⟨hk, (Option.some.inj h).symm⟩
  · rw [List.getElem?_eq_none (by simpa using hk)] at h; cases h
theorem Rd.ints {w : World} {g : Nat} {t : TypeId} {F : Nat → Int} {n : Nat} (h : Blk w g t (arr12 F)) (hn : n ≤ 12) : Rd cI 1 w w.heap.size (some ⟨g, 0, none⟩) (rowL F n) := by
  refine Or.inr ⟨g, 0, rfl, h.lt, fun k a hk i u hu => ?_⟩
  obtain ⟨h1, rfl⟩ := rowL_at hk
  rcases i with _ | i
  · obtain rfl := Option.some.inj hu
    have := h.ints (i := k) (by omega)
    simpa using this
  · cases hu
/-- A list of integers and a code are handed back, the list in memory of the call's own. -/
def Ret_Ints (code : Int) (l : List Int) (w : World) (e : Ending) (w' : World) : Prop :=
  ∃ (A : Option Addr) (c : Nat), e = .returned (.tuple #[.slice A l.length c, .int .i64 code]) ∧ w'.ownsRow w.heap.size 2 1 (.slice A l.length c) l.length (cellsF cI l) ∧ Below w.heap.size w w'
set_option maxRecDepth 100000 in
set_option maxHeartbeats 6400000 in
theorem implRow_no (l : List APt) (A : Option Addr) (c : Nat) (cl : Bool) (t : Int) (ff fl : Bool) (fx fy lx ly : Int) (k : Int) (w : World) (F : Nat → Int) (code : Int) (hc : ¬ code = 0) (CE : ∀ (w : World), Rd cPt 2 w w.heap.size A l → Calls Try.prog 44 #[.agg #[.slice A l.length c, .bool cl, .int .i64 t, .bool ff, .bool fl, .int .i64 fx, .int .i64 fy, .int .i64 lx, .int .i64 ly], .int .i64 k] w (fun e w' => e = .returned (.tuple #[.agg (arr12 F), .int .i64 code]) ∧ Below w.heap.size w w')) (r : Rd cPt 2 w w.heap.size A l) :
    Calls Try.prog 19 #[.agg #[.slice A l.length c, .bool cl, .int .i64 t, .bool ff, .bool fl, .int .i64 fx, .int .i64 fy, .int .i64 lx, .int .i64 ly], .int .i64 k] w (Ret_Ints code [] w) := by
  simp only [arr12] at CE
  have C := Lib.hid CE
  clear CE
  have e_c : (code != 0) = true := by simpa using hc
  generalize l.length = n at *
  go_enter Try.func19, Try.ntmps19
  go_wp2_with fail
  generalize hW : w.alloc (.cells #[.slice A n c, .bool cl, .int .i64 t, .bool ff, .bool fl, .int .i64 fx, .int .i64 fy, .int .i64 lx, .int .i64 ly] 37) = W0
  have at0 : AtL w.heap.size [.slice A n c, .bool cl, .int .i64 t, .bool ff, .bool fl, .int .i64 fx, .int .i64 fy, .int .i64 lx, .int .i64 ly] W0 := by rw [← hW]; exact AtL.new w _ _
  have r0 : Rd cPt 2 W0 w.heap.size A l := by rw [← hW]; exact r.alloc (Nat.le_refl _) _
  have b0 : Below w.heap.size w W0 := by rw [← hW]; repeat' (first | with_reducible assumption | with_reducible exact Below.refl _ _ | (with_reducible refine Below.setCell ?_ ?_ _) | (with_reducible refine Below.alloc ?_ ?_ _) | (with_reducible refine Below.drew ?_) | (with_reducible refine below_dr ?_ _) | (with_reducible refine Below.trans ?_ (Below.mono (by with_reducible assumption) ?_)) | omega | (simp; done) | (simp; omega))
  clear hW r
  have zb := b0.size
  have k0 := at0.cell 0 rfl
  have k1 := at0.cell 1 rfl
  have k2 := at0.cell 2 rfl
  have k3 := at0.cell 3 rfl
  have k4 := at0.cell 4 rfl
  have k5 := at0.cell 5 rfl
  have k6 := at0.cell 6 rfl
  have k7 := at0.cell 7 rfl
  have k8 := at0.cell 8 rfl
  have lw := at0.lt
  refine (C.out _ ?_).mono ?_
  · (refine Rd.more (B := w.heap.size) ?_ (by first | omega | ((try simp only [World.size_setCell]); (try simp only [World.size_drew]); (try simp only [World.size_alloc]); omega) | (simp; done) | (simp; omega))); (repeat' (first | with_reducible assumption | (with_reducible refine Rd.drew ?_) | (with_reducible refine Rd.carry ?_ (by with_reducible assumption) ?_) | (with_reducible refine Rd.alloc ?_ ?_ _) | (with_reducible refine Rd.setCell ?_ ?_ _) | omega | (simp; done) | (simp; omega)))
  rintro e w1 ⟨rfl, hb1⟩
  clear lw r0 k0 k1 k2 k3 k4 k5 k6 k7 k8
  replace at0 := at0.below hb1
  replace b0 : Below w.heap.size w w1 := by repeat' (first | with_reducible assumption | with_reducible exact Below.refl _ _ | (with_reducible refine Below.setCell ?_ ?_ _) | (with_reducible refine Below.alloc ?_ ?_ _) | (with_reducible refine Below.drew ?_) | (with_reducible refine below_dr ?_ _) | (with_reducible refine Below.trans ?_ (Below.mono (by with_reducible assumption) ?_)) | omega | (simp; done) | (simp; omega))
  have z1 := hb1.size
  clear hb1
  go_wp2_with fail
  refine bodyPost_ret (v := .tuple #[.slice none 0 0, .int .i64 code]) (by simp [results, Try.results19, go_sem, *]) rfl ⟨none, 0, rfl, ⟨rfl, .inl ⟨rfl, rfl⟩⟩, ?_⟩
  repeat' (first | with_reducible assumption | with_reducible exact Below.refl _ _ | (with_reducible refine Below.setCell ?_ ?_ _) | (with_reducible refine Below.alloc ?_ ?_ _) | (with_reducible refine Below.drew ?_) | (with_reducible refine below_dr ?_ _) | (with_reducible refine Below.trans ?_ (Below.mono (by with_reducible assumption) ?_)) | omega | (simp; done) | (simp; omega))
set_option maxRecDepth 100000 in
set_option maxHeartbeats 6400000 in
theorem implRow_ok (l : List APt) (A : Option Addr) (c : Nat) (cl : Bool) (t : Int) (ff fl : Bool) (fx fy lx ly : Int) (k : Int) (w : World) (F : Nat → Int) (h1 : 1 ≤ l.length) (h2 : l.length ≤ 10) (CE : ∀ (w : World), Rd cPt 2 w w.heap.size A l → Calls Try.prog 44 #[.agg #[.slice A l.length c, .bool cl, .int .i64 t, .bool ff, .bool fl, .int .i64 fx, .int .i64 fy, .int .i64 lx, .int .i64 ly], .int .i64 k] w (fun e w' => e = .returned (.tuple #[.agg (arr12 F), .int .i64 0]) ∧ Below w.heap.size w w')) (r : Rd cPt 2 w w.heap.size A l) :
    Calls Try.prog 19 #[.agg #[.slice A l.length c, .bool cl, .int .i64 t, .bool ff, .bool fl, .int .i64 fx, .int .i64 fy, .int .i64 lx, .int .i64 ly], .int .i64 k] w (Ret_Ints 0 (rowL F l.length) w) := by
  simp only [arr12] at CE
  have C := Lib.hid CE
  clear CE
  have CC := Lib.hid (fun A c w r => cloneI_any (rowL F l.length) A c w (by rw [rowL_len]; exact h1) (by rw [rowL_len]; exact h2) r)
  unfold Ret_Ints
  rw [rowL_len] at CC ⊢
  generalize l.length = n at *
  go_enter Try.func19, Try.ntmps19
  go_wp2_with fail
  generalize hW : w.alloc (.cells #[.slice A n c, .bool cl, .int .i64 t, .bool ff, .bool fl, .int .i64 fx, .int .i64 fy, .int .i64 lx, .int .i64 ly] 37) = W0
  have at0 : AtL w.heap.size [.slice A n c, .bool cl, .int .i64 t, .bool ff, .bool fl, .int .i64 fx, .int .i64 fy, .int .i64 lx, .int .i64 ly] W0 := by rw [← hW]; exact AtL.new w _ _
  have r0 : Rd cPt 2 W0 w.heap.size A l := by rw [← hW]; exact r.alloc (Nat.le_refl _) _
  have b0 : Below w.heap.size w W0 := by rw [← hW]; repeat' (first | with_reducible assumption | with_reducible exact Below.refl _ _ | (with_reducible refine Below.setCell ?_ ?_ _) | (with_reducible refine Below.alloc ?_ ?_ _) | (with_reducible refine Below.drew ?_) | (with_reducible refine below_dr ?_ _) | (with_reducible refine Below.trans ?_ (Below.mono (by with_reducible assumption) ?_)) | omega | (simp; done) | (simp; omega))
  clear hW r
  have zb := b0.size
  have k0 := at0.cell 0 rfl
  have k1 := at0.cell 1 rfl
  have k2 := at0.cell 2 rfl
  have k3 := at0.cell 3 rfl
  have k4 := at0.cell 4 rfl
  have k5 := at0.cell 5 rfl
  have k6 := at0.cell 6 rfl
  have k7 := at0.cell 7 rfl
  have k8 := at0.cell 8 rfl
  have lw := at0.lt
  refine (C.out _ ?_).mono ?_
  · (refine Rd.more (B := w.heap.size) ?_ (by first | omega | ((try simp only [World.size_setCell]); (try simp only [World.size_drew]); (try simp only [World.size_alloc]); omega) | (simp; done) | (simp; omega))); (repeat' (first | with_reducible assumption | (with_reducible refine Rd.drew ?_) | (with_reducible refine Rd.carry ?_ (by with_reducible assumption) ?_) | (with_reducible refine Rd.alloc ?_ ?_ _) | (with_reducible refine Rd.setCell ?_ ?_ _) | omega | (simp; done) | (simp; omega)))
  rintro e w1 ⟨rfl, hb1⟩
  clear lw r0 k0 k1 k2 k3 k4 k5 k6 k7 k8
  replace at0 := at0.below hb1
  replace b0 : Below w.heap.size w w1 := by repeat' (first | with_reducible assumption | with_reducible exact Below.refl _ _ | (with_reducible refine Below.setCell ?_ ?_ _) | (with_reducible refine Below.alloc ?_ ?_ _) | (with_reducible refine Below.drew ?_) | (with_reducible refine below_dr ?_ _) | (with_reducible refine Below.trans ?_ (Below.mono (by with_reducible assumption) ?_)) | omega | (simp; done) | (simp; omega))
  have z1 := hb1.size
  clear hb1
  have at2 : AtL w.heap.size [.slice A n c, .bool cl, .int .i64 t, .bool ff, .bool fl, .int .i64 fx, .int .i64 fy, .int .i64 lx, .int .i64 ly] (w1.alloc (.cells #[.int .i64 (F 0), .int .i64 (F 1), .int .i64 (F 2), .int .i64 (F 3), .int .i64 (F 4), .int .i64 (F 5), .int .i64 (F 6), .int .i64 (F 7), .int .i64 (F 8), .int .i64 (F 9), .int .i64 (F 10), .int .i64 (F 11)] 78)) := at0.alloc _
  have bn : Blk (w1.alloc (.cells #[.int .i64 (F 0), .int .i64 (F 1), .int .i64 (F 2), .int .i64 (F 3), .int .i64 (F 4), .int .i64 (F 5), .int .i64 (F 6), .int .i64 (F 7), .int .i64 (F 8), .int .i64 (F 9), .int .i64 (F 10), .int .i64 (F 11)] 78)) w1.heap.size 78 (arr12 F) := Blk.new _ _ _
  have k0 := at2.cell 0 rfl
  have lw := at2.lt
  have g1 : (n : Int) ≤ 12 := by omega
  have g2 : (0 : Int) ≤ (n : Int) := by omega
  have g3 : n ≤ 12 := by omega
  go_wp2_with fail
  generalize hW : w1.alloc (.cells #[.int .i64 (F 0), .int .i64 (F 1), .int .i64 (F 2), .int .i64 (F 3), .int .i64 (F 4), .int .i64 (F 5), .int .i64 (F 6), .int .i64 (F 7), .int .i64 (F 8), .int .i64 (F 9), .int .i64 (F 10), .int .i64 (F 11)] 78) = W2 at bn ⊢
  have b2 : Below w.heap.size w W2 := by rw [← hW]; repeat' (first | with_reducible assumption | with_reducible exact Below.refl _ _ | (with_reducible refine Below.setCell ?_ ?_ _) | (with_reducible refine Below.alloc ?_ ?_ _) | (with_reducible refine Below.drew ?_) | (with_reducible refine below_dr ?_ _) | (with_reducible refine Below.trans ?_ (Below.mono (by with_reducible assumption) ?_)) | omega | (simp; done) | (simp; omega))
  have z2 : w.heap.size ≤ W2.heap.size := by have := b2.size; omega
  clear hW k0 at2
  refine (CC.out _ 12 W2 (Rd.ints bn (by omega))).mono ?_
  intro e w3 hq
  obtain ⟨A', c', rfl, ow, hb3⟩ := hq
  go_wp2_with fail
  refine bodyPost_ret (v := .tuple #[.slice A' n c', .int .i64 0]) (by simp [results, Try.results19, go_sem, *]) rfl ⟨A', c', rfl, own_base ow (by omega), ?_⟩
  repeat' (first | with_reducible assumption | with_reducible exact Below.refl _ _ | (with_reducible refine Below.setCell ?_ ?_ _) | (with_reducible refine Below.alloc ?_ ?_ _) | (with_reducible refine Below.drew ?_) | (with_reducible refine below_dr ?_ _) | (with_reducible refine Below.trans ?_ (Below.mono (by with_reducible assumption) ?_)) | omega | (simp; done) | (simp; omega))
end Go.Proofs.Ytcjjmkkphbeoeaa
