/- Walks: a builder of texts of one's own is written. -/
import Derived.Test.YtonoldjhfhngfaaDoorShelf
import Derived.Test.YtonoldjhfhngfaaDoorBl
import Derived.Test.YtonoldjhfhngfaaDoorSy4
import Derived.Lib.Builder
import Derived.Lib.AppendStr
import Derived.Laws.Externs
namespace Go.Proofs.YtonoldjhfhngfaaDoor
open Go.RowKit
set_option linter.unusedVariables false
theorem infoU8 : (Tryd.prog.info? 5).map (fun i => (i.zero, i.size, i.bytes)) = some (some (.int .u8 0), 1, 1) := by kernel_rfl
theorem sizeBu : (Tryd.prog.info? 60).map (fun i => i.size) = some 2 := by kernel_rfl
/-- A builder of one's own, block b, that holds these bytes. -/
def Bu (w : World) (b : Nat) (l : List UInt8) : Prop := Lib.IsBuilder 60 5 b b (Lib.byteCells l) w
theorem Bu.fresh (w : World) : Bu (w.alloc (.cells #[.pointer none, .slice none 0 0] 60)) w.heap.size [] := Lib.fresh_isBuilder _ _ w
theorem Bu.lt {w : World} {b : Nat} {l : List UInt8} (h : Bu w b l) : b < w.heap.size := by
  rcases h with h | h <;> exact h.lt
theorem Bu.stays {w w' : World} {b : Nat} {l : List UInt8} (h : Bu w b l) (hb : Below w.heap.size w w') : Bu w' b l := by
  have hl := h.lt
  have key : ∀ p, Lib.BuilderAt 60 5 b b p (Lib.byteCells l) w → Lib.BuilderAt 60 5 b b p (Lib.byteCells l) w' := by
    rintro p ⟨h1, v, h2, h3, h4⟩
    exact ⟨h1, v, (hb.block b hl).trans h2, own_stays h3 hb, h4⟩
  rcases h with h | h
  · exact .inl (key _ h)
  · exact .inr (key _ h)
theorem Bu.alloc {w : World} {b : Nat} {l : List UInt8} (h : Bu w b l) (o : Obj) : Bu (w.alloc o) b l := h.stays ((Below.refl _ _).alloc (Nat.le_refl _) o)
theorem Bu.drew {w : World} {b : Nat} {l : List UInt8} (h : Bu w b l) : Bu w.drew b l := h
/-- What a write leaves: the builder's block and its row change, no other one. -/
def Wr (b : Nat) (l : List UInt8) (w w' : World) : Prop := Bu w' b l ∧ Below b w w' ∧ ∀ (q : Nat) (t : TypeId) (cs : Array Value), Blk w q t cs → ¬ t = 5 → ¬ q = b → Blk w' q t cs
theorem cells_app (l : List UInt8) (s : ByteArray) : Lib.byteCells l ++ Lib.strCells s = Lib.byteCells (l ++ s.data.toList) := by
  unfold Lib.byteCells Lib.strCells; rw [List.map_append]
theorem cells_app1 (l : List UInt8) (c : UInt8) : Lib.byteCells l ++ [.int .u8 c.toNat] = Lib.byteCells (l ++ [c]) := by
  unfold Lib.byteCells; rw [List.map_append]; rfl
set_option maxHeartbeats 1000000 in
set_option maxRecDepth 100000 in
theorem copyCheck_used (b : Nat) (w : World) (h0 : w.cell? ⟨b, 0, none⟩ = some (.pointer (some ⟨b, 0, none⟩))) :
    Calls Tryd.prog 43 #[.pointer (some ⟨b, 0, none⟩)] w fun e w' => e = .returned (.tuple #[]) ∧ w' = w := by
  obtain ⟨j, hj, _⟩ := Option.map_eq_some_iff.1 sizeBu
  go_enter Tryd.func43, Tryd.ntmps43
  go_wp2
  rw [Lib.run_neq_ptr_same w _ Tryd.underlying57 hj]
  go_wp2
  go_end0
  exact ⟨rfl, rfl⟩
set_option maxHeartbeats 1000000 in
set_option maxRecDepth 100000 in
theorem copyCheck_fresh (b : Nat) (w : World) (h0 : w.cell? ⟨b, 0, none⟩ = some (.pointer none)) (hsh : w.shape? b = some (60, 2)) (hfz : w.frozen? ⟨b, 0, none⟩ = false) :
    Calls Tryd.prog 43 #[.pointer (some ⟨b, 0, none⟩)] w fun e w' => e = .returned (.tuple #[]) ∧ w' = w.setCell ⟨b, 0, none⟩ (.pointer (some ⟨b, 0, none⟩)) := by
  obtain ⟨j, hj, hjs⟩ := Option.map_eq_some_iff.1 sizeBu
  go_enter Tryd.func43, Tryd.ntmps43
  go_wp2
  rw [Lib.run_to_unsafe w ⟨b, 0, none⟩ Tryd.underlying57 Tryd.underlying102 hj (by rw [hjs]; decide) hsh (Nat.zero_lt_succ 1)]
  simp only [Result.andThen]
  rw [Oper.upon_value]
  go_wp2
  rw [run_callFunc_extern Tryd.func64 (by kernel_rfl) (by kernel_rfl) (by kernel_rfl) (e := Extern.AbiNoEscape.same) (by kernel_rfl)]
  rw [Lib.run_noEscape]
  simp only [Result.andThen]
  rw [Oper.upon_value]
  go_wp2
  rw [Lib.run_from_unsafe w ⟨b, 0, none⟩ Tryd.underlying102 Tryd.underlying57 hj hsh (by kernel_rfl)]
  simp only [Result.andThen]
  rw [Oper.upon_value]
  go_wp2
  go_end0
  exact ⟨rfl, rfl⟩
theorem copyCheck_any (b : Nat) (l : List UInt8) (w : World) (h : Bu w b l) :
    Calls Tryd.prog 43 #[.pointer (some ⟨b, 0, none⟩)] w fun e w' => e = .returned (.tuple #[]) ∧ Lib.BuilderAt 60 5 b b (.pointer (some ⟨b, 0, none⟩)) (Lib.byteCells l) w' ∧ Below b w w' ∧ ∀ (q : Nat) (t : TypeId) (cs : Array Value), Blk w q t cs → ¬ q = b → Blk w' q t cs := by
  rcases h with h | h
  · refine (copyCheck_fresh b w h.cell0 h.shape h.frozen0).mono ?_
    rintro e w' ⟨rfl, rfl⟩
    exact ⟨rfl, h.used _, (Below.refl b w).setCell (p := ⟨b, 0, none⟩) (Nat.le_refl _) _, fun q t cs hk hq => hk.far (by simpa using hq) _⟩
  · refine (copyCheck_used b w h.cell0).mono ?_
    rintro e w' ⟨rfl, rfl⟩
    exact ⟨rfl, h, Below.refl b _, fun q t cs hk _ => hk⟩
theorem own_slice {w : World} {base e s n : Nat} {v : Value} {xs : List Value} (h : w.ownsRow base e s v n xs) : ∃ ao n' cap, v = .slice ao n' cap := by
  rcases h.2 with ⟨hv, _⟩ | ⟨g, cap, cur, hv, _⟩
  · exact ⟨_, _, _, hv⟩
  · exact ⟨_, _, _, hv⟩
theorem bu_kept {w w' : World} {b : Nat} {p v : Value} (hb : w.heap[b]? = some (.cells #[p, v] 60 (0, 0))) (hne : v.ownBlock ≠ some b) (hg : w.grownBy w' v.ownBlock) : Blk w' b 60 #[p, v] := by
  have hlt : b < w.heap.size := Blk.lt (show Blk w b 60 #[p, v] from hb)
  exact (hg.block b hlt (fun e => hne e.symm)).trans hb
theorem blk_grown {w w' : World} {base q n : Nat} {t : TypeId} {cs : Array Value} {v : Value} {xs : List Value} (hk : Blk w q t cs) (ht : ¬ t = 5) (hown : w.ownsRow base 5 1 v n xs) (hg : w.grownBy w' v.ownBlock) : Blk w' q t cs :=
  hk.grown hg (fun r hr e => by
    subst e
    exact Lib.ownBlock_ne hown (show w.heap[r]? = some (.cells cs t (0, 0)) from hk) ht hr)
theorem bu_put {w : World} {b : Nat} {p v v' : Value} {bs : List Value} (hb : Blk w b 60 #[p, v]) (hown : w.ownsRow b 5 1 v' bs.length bs) : Lib.BuilderAt 60 5 b b p bs (w.setCell ⟨b, 1, none⟩ v') :=
  Lib.BuilderAt.put (Nat.le_refl _) hb hown (by decide)
set_option maxHeartbeats 2000000 in
set_option maxRecDepth 100000 in
theorem writeString_any (b : Nat) (l : List UInt8) (s : ByteArray) (w : World) (h : Bu w b l) (hlen : l.length + s.size ≤ 140737488355328) :
    Calls Tryd.prog 23 #[.pointer (some ⟨b, 0, none⟩), .string s] w fun e w' => e = .returned (.tuple #[.int .i64 s.size, .nilIface]) ∧ Wr b (l ++ s.data.toList) w w' := by
  obtain ⟨i0, hi, hz0, hz1, hz2⟩ := info_parts infoU8
  have hlw := h.lt
  have CC := Lib.hid (copyCheck_any b l w h)
  go_enter Tryd.func23, Tryd.ntmps23
  go_wp2_with fail
  refine CC.out.mono ?_
  rintro e w1 ⟨rfl, h1, hb1, hk1⟩
  obtain ⟨hB, v, hbk, hown, hne⟩ := h1
  have c0 : w1.cell? ⟨b, 0, none⟩ = some (.pointer (some ⟨b, 0, none⟩)) := by rw [Lib.cell_of_heap hbk]; rfl
  have c1 : w1.cell? ⟨b, 1, none⟩ = some v := by rw [Lib.cell_of_heap hbk]; rfl
  have hsz := hb1.size
  have hL := Lib.byteCells_length l
  have HLN := Lib.hid (show (Lib.byteCells l).length + s.size ≤ maxLen by unfold maxLen; omega)
  have HLN2 := Lib.hid (show (Lib.byteCells l).length + s.size ≤ 140737488355328 by omega)
  have HBS := Lib.hid (show b ≤ w1.heap.size by omega)
  have HOW := Lib.hid hown
  have HBK := Lib.hid hbk
  have HNE := Lib.hid hne
  clear hlen hbk hne
  go_wp2_with (at_builtin; refine Lib.wpList_append_own_string _ rfl _ _ 58 9 rfl b 5 i0 Tryd.underlying58 Tryd.underlying9 hi hz0 hz1 hz2 _ _ _ rfl HOW.out s rfl HLN.out HLN2.out HBS.out ?_; intro v' w2 hown' hgrow hiff; obtain ⟨ao, n', cp, rfl⟩ := own_slice hown'; have hb2 := bu_kept HBK.out HNE.out hgrow; have d0 := hb2.cell 0 rfl; have d1 := hb2.cell 1 rfl; have f1 := hb2.frozen 1; have HOWN := Lib.hid hown'; have HG := Lib.hid hgrow; have HB2 := Lib.hid hb2; clear hown' hgrow hiff hb2)
  go_ret2
  have e1 : (Lib.byteCells l).length + s.size = (Lib.byteCells (l ++ s.data.toList)).length := by rw [← cells_app, List.length_append, Lib.strCells_length]
  have ho := HOWN.out
  rw [cells_app, e1] at ho
  refine ⟨rfl, .inr (bu_put HB2.out ho), (below_of_grown hb1 HG.out (by omega) (fun k hk => (hown.lt k hk).1)).setCell (p := ⟨b, 1, none⟩) (Nat.le_refl _) _, fun q t cs hk ht hq => (blk_grown (hk1 q t cs hk hq) ht hown HG.out).far (by simpa using hq) _⟩
theorem buString_any (b : Nat) (l : List UInt8) (w : World) (h : Bu w b l) :
    Calls Tryd.prog 25 #[.pointer (some ⟨b, 0, none⟩)] w fun e w' => e = .returned (.string ⟨l.toArray⟩) ∧ Below b w w' :=
  Tryd.Builder_String_any b b l w h (by have := h.lt; omega)
end Go.Proofs.YtonoldjhfhngfaaDoor
