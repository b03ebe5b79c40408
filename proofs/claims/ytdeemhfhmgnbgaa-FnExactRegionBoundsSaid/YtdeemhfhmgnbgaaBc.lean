/- Walks: the corners of the box of a region, on both sides. -/
import Derived.Test.YtdeemhfhmgnbgaaBa
import Derived.Test.YtdeemhfhmgnbgaaXa
import Derived.Test.YtdeemhfhmgnbgaaYd
namespace Go.Proofs.Ytdeemhfhmgnbgaa
open Go.RowKit
set_option linter.unusedVariables false
def flUp (ds : List DRing) (k : Nat) : List APt := (ds.take k).flatten
theorem flUp_zero (ds : List DRing) : flUp ds 0 = [] := rfl
theorem flUp_succ {ds : List DRing} {k : Nat} {d : DRing} (h : ds[k]? = some d) : flUp ds k ++ d = flUp ds (k + 1) := by
  unfold flUp; rw [List.take_add_one, h, List.flatten_append]; simp
theorem flUp_all (ds : List DRing) : flUp ds ds.length = ds.flatten := by unfold flUp; rw [List.take_length]
theorem flUp_len_ {ds : List DRing} {N : Nat} (h : ∀ (i : Nat) (d : DRing), ds[i]? = some d → d.length ≤ N) (k : Nat) : (flUp ds k).length ≤ k * N := by
  induction k with
  | zero => simp [flUp]
  | succ k ih =>
    rcases hd : ds[k]? with _ | d
    · have h2 : flUp ds (k + 1) = flUp ds k := by unfold flUp; rw [List.take_add_one, hd]; simp
      rw [h2, Nat.succ_mul]; omega
    · rw [← flUp_succ hd, List.length_append, Nat.succ_mul]
      have := h k d hd
      omega
theorem flUp_len {ds : List DRing} (h : ∀ (i : Nat) (d : DRing), ds[i]? = some d → d.length ≤ 400) (k : Nat) : (flUp ds k).length ≤ k * 400 := flUp_len_ h k
theorem flat_pos {ds : List DRing} (h : vRn ds = true) (h0 : ¬ ds.length = 0) : 1 ≤ ds.flatten.length := by
  rcases ds with _ | ⟨d, ds⟩
  · simp at h0
  · have h3 := (vRg_parts (vRn_each h d (List.mem_cons_self ..))).1
    simp only [List.flatten_cons, List.length_append]; omega
theorem flat_len {ds : List DRing} (h : vRn ds = true) : ds.flatten.length ≤ 16000 := by
  have := flUp_len (rUp_in (vRn_parts h).2.1) ds.length
  have := (vRn_parts h).1
  rw [flUp_all] at *
  omega
def OwP (t : TypeId) (w : World) (base : Nat) (A : Option Addr) (n c : Nat) (es : List APt) : Prop := n = es.length ∧ w.ownsRow base t 2 (.slice A n c) n (cellsF cPt es)
section
variable {t : TypeId} {w w' : World} {base n c : Nat} {A : Option Addr} {es : List APt}
theorem OwP.stays (h : OwP t w base A n c es) (hb : Below w.heap.size w w') : OwP t w' base A n c es := ⟨h.1, eown_stays h.2 hb⟩
theorem OwP.drew (h : OwP t w base A n c es) : OwP t w.drew base A n c es := h
theorem OwP.alloc (h : OwP t w base A n c es) (o : Obj) : OwP t (w.alloc o) base A n c es := ⟨h.1, h.2.alloc o⟩
theorem OwP.block (h : OwP t w base A n c es) : ∀ q, (Value.slice A n c).ownBlock = some q → base ≤ q ∧ q < w.heap.size := fun q hq => own_block h.2 hq
theorem OwP.base_ {base' : Nat} (h : OwP t w base A n c es) (hb : base' ≤ base) : OwP t w base' A n c es := ⟨h.1, eown_base h.2 hb⟩
theorem OwP.nil (w : World) (base : Nat) : OwP t w base none 0 0 [] := ⟨rfl, World.ownsRow_nil _ _ _ _⟩
theorem OwP.new (w : World) (base : Nat) (hb : base ≤ w.heap.size) : OwP t (w.alloc (.cells #[] t)) base (some ⟨w.heap.size, 0, none⟩) 0 0 [] :=
  ⟨rfl, rfl, .inr ⟨w.heap.size, 0, #[], rfl, hb, Blk.new w t #[], by omega, by unfold maxLen; omega, rfl, rfl⟩⟩
theorem OwP.grown {n2 c2 : Nat} {A2 : Option Addr} {vs : List APt} (hn : n2 = es.length + vs.length) (h : w'.ownsRow base t 2 (.slice A2 n2 c2) n2 (cellsF cPt es ++ cellsF cPt vs)) : OwP t w' base A2 n2 c2 (es ++ vs) := by
  refine ⟨by rw [List.length_append]; exact hn, ?_⟩
  have : cellsF cPt (es ++ vs) = cellsF cPt es ++ cellsF cPt vs := by unfold cellsF; exact List.flatMap_append
  rw [this]; exact h
theorem OwP.rd (h : OwP t w base A n c es) {B : Nat} (hB : w.heap.size ≤ B) : Rd cPt 2 w B A es := Rd.of_own (fun a => cPt_len a) (by omega) h.2 hB
theorem OwP.reads (h : OwP t w base A n c es) : Reads w w.heap.size 2 A n (cellsF cPt es) := by
  obtain ⟨rfl, ho⟩ := h
  refine ⟨by rw [cellsF_len (fun a => cPt_len a)], fun hn => ?_⟩
  obtain ⟨g, cap, hv, _, hlt⟩ := ho.form hn
  obtain ⟨rfl, rfl⟩ : A = some ⟨g, 0, none⟩ ∧ c = cap := by injection hv with a b c; exact ⟨a, c⟩
  refine ⟨_, rfl, hlt, fun j u hu => ?_⟩
  have hj : j < es.length * 2 := by
    rcases Nat.lt_or_ge j (es.length * 2) with q | q
    · exact q
    · rw [List.getElem?_eq_none (by rw [cellsF_len (fun a => cPt_len a)]; exact q)] at hu; cases hu
  have h2 := ho.cellAt j hj
  rw [Addr.add_lit, Nat.zero_add]
  exact h2.trans hu
end
theorem infoIP : (Try.prog.info? 26).map (fun i => (i.zero, i.size, i.bytes)) = some (some (.agg #[.int .i64 0, .int .i64 0]), 2, 16) := by kernel_rfl
theorem pall_one (es : List APt) : ∀ z ∈ cellsF cPt es, z.oneCell' = true := cellsF_one (fun a => cPt_one a) es
def gb (f : List APt → Nat → Int) (ds : List DRing) : Int := bif vRn ds then (if ds.length = 0 then 0 else f ds.flatten ds.flatten.length) else 0
def gbC (ds : List DRing) : Int := bif vRn ds then (if ds.length = 0 then 6 else 0) else 1
def Gb (v1 v2 v3 v4 v5 : Int) (ds : List DRing) : Prop := v1 = gb bX1 ds ∧ v2 = gb bY1 ds ∧ v3 = gb bX2 ds ∧ v4 = gb bY2 ds ∧ v5 = gbC ds
theorem gb_no {ds : List DRing} (h : vRn ds = false) : Gb 0 0 0 0 1 ds := by simp [Gb, gb, gbC, h]
theorem gb_nil {ds : List DRing} (h : vRn ds = true) (h0 : ds.length = 0) : Gb 0 0 0 0 6 ds := by simp [Gb, gb, gbC, h, h0]
theorem gb_yes {ds : List DRing} (h : vRn ds = true) (h0 : ¬ ds.length = 0) : Gb (bX1 ds.flatten ds.flatten.length) (bY1 ds.flatten ds.flatten.length) (bX2 ds.flatten ds.flatten.length) (bY2 ds.flatten ds.flatten.length) 0 ds := by
  simp [Gb, gb, gbC, h, h0]
def GbRet (ds : List DRing) (w : World) (e : Ending) (w' : World) : Prop := e = .returned (.tuple #[.agg #[.int .i64 (gb bX1 ds), .int .i64 (gb bY1 ds)], .agg #[.int .i64 (gb bX2 ds), .int .i64 (gb bY2 ds)], .int .i64 (gbC ds)]) ∧ Below w.heap.size w w'
theorem GbRet.mk {ds : List DRing} {v1 v2 v3 v4 v5 : Int} {w w' : World} (h : Gb v1 v2 v3 v4 v5 ds) (hb : Below w.heap.size w w') : GbRet ds w (.returned (.tuple #[.agg #[.int .i64 v1, .int .i64 v2], .agg #[.int .i64 v3, .int .i64 v4], .int .i64 v5])) w' := by
  obtain ⟨rfl, rfl, rfl, rfl, rfl⟩ := h; exact ⟨rfl, hb⟩
set_option maxHeartbeats 6400000 in
theorem l15All_any (ds : List DRing) (A : Option Addr) (c b : Nat) (w : World) (hb : b < w.heap.size) (c0 : w.cell? ⟨b, 0, none⟩ = some (.slice A ds.length c)) (hds : ds.length ≤ 40) (hin : ∀ (i : Nat) (d : DRing), ds[i]? = some d → 1 ≤ d.length ∧ d.length ≤ 400) (r : RdRing w w.heap.size A ds) :
    Calls Try.prog 59 #[.pointer (some ⟨b, 0, none⟩)] w fun e w' => ∃ (A' : Option Addr) (c' : Nat), e = .returned (.slice A' ds.flatten.length c') ∧ OwP 26 w' w.heap.size A' ds.flatten.length c' ds.flatten ∧ Below w.heap.size w w' := by
  obtain ⟨L, hL⟩ : ∃ L, L = ds.flatten := ⟨_, rfl⟩
  rw [← hL]
  have HL := Lib.hid hL
  clear hL
  have HIN := Lib.hid hin
  clear hin
  have RR := Lib.hid (fun (wr : World) (hbl : Below w.heap.size w wr) => r.carry hbl (Nat.le_refl _))
  clear r
  obtain ⟨n, hn⟩ : ∃ n, n = ds.length := ⟨_, rfl⟩
  rw [← hn] at hds c0
  have HN := Lib.hid hn
  clear hn
  obtain ⟨i0, hi0, hz0', hz1', hz2'⟩ := einfo_parts infoIP
  have HI0 := Lib.hid hi0
  have HZ0 := Lib.hid hz0'
  have HZ1 := Lib.hid hz1'
  have HZ2 := Lib.hid hz2'
  clear hi0 hz0' hz1' hz2'
  go_enter Try.func59, Try.ntmps59
  go_wp2_with fail
  go_loopw [3, 4] (fun s i wr => ∃ (k : Nat) (A' : Option Addr) (m c' : Nat), k ≤ n ∧ i = .int .i64 (k : Int) ∧ s = .slice A' m c' ∧ OwP 26 wr (w.heap.size) A' m c' (flUp ds k) ∧ Below w.heap.size w wr) (fun _ i _ => n - (intOf i).toNat)
  case atStart => exact ⟨0, _, 0, 0, Nat.zero_le _, rfl, rfl, OwP.new _ _ (Nat.le_refl _), by repeat' (first | with_reducible assumption | with_reducible exact Below.refl _ _ | (with_reducible refine Below.setCell ?_ ?_ _) | (with_reducible refine Below.alloc ?_ ?_ _) | (with_reducible refine Below.drew ?_) | (with_reducible refine below_dr ?_ _) | (with_reducible refine Below.trans ?_ (Below.mono (by with_reducible assumption) ?_)) | omega | (simp; done) | (simp; omega))⟩
  case round =>
    obtain ⟨k, A', m, c', hk, rfl, rfl, ow, hbl⟩ := hrel
    have zr := hbl.size
    have hmk : m ≤ k * 400 := by rw [ow.1]; exact flUp_len (fun i d h => (HIN.out i d h).2) _
    have k0 : wr.cell? ⟨b, 0, none⟩ = some (.slice A n c) := (hbl.cell (p := ⟨b, 0, none⟩) hb).trans c0
    have hbr : b < wr.heap.size := by omega
    by_cases hlt : k < n
    case pos =>
      obtain ⟨dl, ha⟩ : ∃ a, ds[k]? = some a := ⟨ds[k]'(by have := HN.out; omega), List.getElem?_eq_getElem (by have := HN.out; omega)⟩
      obtain ⟨g, o, A2, c2, rfl, hg, hc, hrd⟩ := (RR.out _ hbl).elem ha
      have p0 : wr.cell? ⟨g, o + k, none⟩ = some (.slice A2 dl.length c2) := by have h := hc 0 _ rfl; rw [Nat.mul_one] at h; exact h
      have hki : (k : Int) < (n : Int) := by omega
      obtain ⟨hdl1, hdl⟩ := HIN.out k _ ha
      have HS := Lib.hid (flUp_succ ha)
      have hgr : g < wr.heap.size := by omega
      clear hc ha
      have HRD := Lib.hid (reads_pts hdl1 (hrd.more (by omega)))
      have HOW := Lib.hid (ow.2)
      have HRB := Lib.hid ow.block
      have HLN := Lib.hid ow.1
      have g2 : Below w.heap.size w wr := by repeat' (first | with_reducible assumption | with_reducible exact Below.refl _ _ | (with_reducible refine Below.setCell ?_ ?_ _) | (with_reducible refine Below.alloc ?_ ?_ _) | (with_reducible refine Below.drew ?_) | (with_reducible refine below_dr ?_ _) | (with_reducible refine Below.trans ?_ (Below.mono (by with_reducible assumption) ?_)) | omega | (simp; done) | (simp; omega))
      clear hbl ow hrd
      have HBS := Lib.hid (show w.heap.size ≤ wr.heap.size by (first | omega | (simp; omega)))
      generalize hm2 : dl.length = m2 at *
      have HMX := Lib.hid (show m + m2 ≤ maxLen by unfold maxLen; omega)
      have HBY := Lib.hid (show (m + m2) * 16 ≤ 140737488355328 by omega)
      go_wp2_with (at_builtin; refine wpList_append_any _ rfl (.tmp 15) (.tmp 23) _ rfl (w.heap.size) 26 i0 _ 2 16 Try.underlying53 HI0.out HZ0.out HZ1.out HZ2.out rfl (by omega) (.slice A' m c') m _ rfl HOW.out _ A2 m2 c2 (cellsF cPt dl) rfl HRD.out (pall_one _) HMX.out HBY.out HBS.out ?_; intro v9 w9 hown9 hg9 hat9; obtain ⟨A9, c9, rfl⟩ := eslice_of hown9; have HOWN9 := Lib.hid hown9; have HG9 := Lib.hid hg9; clear hown9 hg9 hat9)
      have g9b : Below w.heap.size w w9 := below_of_grown g2 HG9.out (by first | omega | (simp; omega)) (fun q hq => by have := HRB.out q hq; omega)
      have ow9 : OwP 26 w9 (w.heap.size) A9 (m + m2) c9 (flUp ds k ++ dl) := OwP.grown (by have := HLN.out; omega) HOWN9.out
      go_roundw
      case rel => exact ⟨k + 1, _, _, _, by omega, by go_num, rfl, by rw [HS.out] at ow9; exact ow9, g9b⟩
      case measure => first | (simp [intOf]; done) | (simp [intOf]; omega)
    case neg =>
      obtain rfl : k = n := by omega
      have H := Lib.hid (show flUp ds k = L by rw [HL.out, HN.out]; exact flUp_all ds)
      rw [H.out] at ow
      obtain rfl := ow.1
      go_wp2_with fail
      go_ret
      exact ⟨A', c', rfl, ow, hbl⟩
end Go.Proofs.Ytdeemhfhmgnbgaa
