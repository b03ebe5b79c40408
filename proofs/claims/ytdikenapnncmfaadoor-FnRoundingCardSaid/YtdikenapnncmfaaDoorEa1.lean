/- Walks: the reference's source of choices. -/
import Derived.Test.YtdikenapnncmfaaDoorBl
import Derived.Test.YtdikenapnncmfaaDoorPa
import Derived.Deep.QuietTactic
import Derived.BigQuiet
import Derived.IntWalk
namespace Go.Proofs.YtdikenapnncmfaaDoor
open Go.RowKit
set_option linter.unusedVariables false
/-- Bytes that can be read, in a block below B. -/
def CodeR (A : Option Addr) (n : Nat) (w : World) (B : Nat) : Prop := n = 0 ∨ ∃ g o, A = some ⟨g, o, none⟩ ∧ g < B ∧ ∀ k, k < n → ∃ v : Int, 0 ≤ v ∧ v ≤ 255 ∧ w.cell? ⟨g, o + k, none⟩ = some (.int .u8 v)
/-- Only block g may have turned, and blocks have come. -/
def Onl (g : Nat) (w w' : World) : Prop := Below g w w' ∧ ∀ b, b < w.heap.size → ¬ b = g → w'.heap[b]? = w.heap[b]?
def SrcAt (g : Nat) (A : Option Addr) (n c m : Nat) (w : World) : Prop := ∃ (p : Nat) (sd : Int), p ≤ m ∧ Blk w g 71 #[.slice A n c, .int .i64 (p : Int), .int .u64 sd] ∧ CodeR A n w g
theorem CodeR.keep {A : Option Addr} {n B : Nat} {w w' : World} (h : CodeR A n w B) (hb : ∀ p : Addr, p.block < B → w'.cell? p = w.cell? p) : CodeR A n w' B := by
  rcases h with h | ⟨g, o, hA, hg, hc⟩
  · exact .inl h
  · exact .inr ⟨g, o, hA, hg, fun k hk => by obtain ⟨v, h1, h2, h3⟩ := hc k hk; exact ⟨v, h1, h2, (hb ⟨g, o + k, none⟩ hg).trans h3⟩⟩
theorem CodeR.more {A : Option Addr} {n B B' : Nat} {w : World} (h : CodeR A n w B) (hb : B ≤ B') : CodeR A n w B' := by
  rcases h with h | ⟨g, o, hA, hg, hc⟩
  · exact .inl h
  · exact .inr ⟨g, o, hA, Nat.lt_of_lt_of_le hg hb, hc⟩
theorem Onl.refl (g : Nat) (w : World) : Onl g w w := ⟨Below.refl _ _, fun _ _ _ => rfl⟩
theorem Onl.size {g : Nat} {w w' : World} (h : Onl g w w') : w.heap.size ≤ w'.heap.size := h.1.size
theorem Onl.trans {g : Nat} {a b c : World} (h : Onl g a b) (k : Onl g b c) : Onl g a c :=
  ⟨h.1.trans k.1, fun i hi hg => (k.2 i (Nat.lt_of_lt_of_le hi h.size) hg).trans (h.2 i hi hg)⟩
theorem Onl.alloc {g : Nat} {a w : World} (h : Onl g a w) (hg : g ≤ w.heap.size) (o : Obj) : Onl g a (w.alloc o) :=
  h.trans ⟨(Below.refl _ _).alloc hg o, fun i hi _ => Below.heap_alloc w o i hi⟩
theorem Onl.set_ {g : Nat} {a w : World} (h : Onl g a w) (i : Nat) (u : Value) : Onl g a (w.setCell ⟨g, i, none⟩ u) :=
  h.trans ⟨(Below.refl g w).setCell (p := ⟨g, i, none⟩) (Nat.le_refl g) u, fun b _ hb => Below.heap_setCell w ⟨g, i, none⟩ u b hb⟩
theorem Onl.drewN {g : Nat} {a w : World} (h : Onl g a w) (n : Nat) : Onl g a (w.drewN n) := ⟨h.1.trans ⟨rfl, rfl, rfl, Nat.le_refl _, fun _ _ => rfl⟩, h.2⟩
theorem Onl.of_below {g : Nat} {a w : World} (h : Below a.heap.size a w) (hg : g ≤ a.heap.size) : Onl g a w := ⟨h.mono hg, fun b hb _ => h.block b hb⟩
theorem Onl.cell {g : Nat} {a w : World} (h : Onl g a w) {p : Addr} (hp : p.block < a.heap.size) (hg : ¬ p.block = g) : w.cell? p = a.cell? p := World.cell?_of_block (w := a) (h.2 p.block hp hg)
theorem Onl.at_ {g q : Nat} {vs : List Value} {a w : World} (k : AtL q vs a) (h : Onl g a w) (hg : ¬ q = g) : AtL q vs w :=
  ⟨fun i v hv => (h.cell (p := ⟨q, i, none⟩) k.2 hg).trans (k.1 i v hv), Nat.lt_of_lt_of_le k.2 h.size⟩
theorem SrcAt.lt {g : Nat} {A : Option Addr} {n c m : Nat} {w : World} (h : SrcAt g A n c m w) : g < w.heap.size := by obtain ⟨p, sd, _, hb, _⟩ := h; exact hb.lt
theorem SrcAt.more {g : Nat} {A : Option Addr} {n c m m' : Nat} {w : World} (h : SrcAt g A n c m w) (hm : m ≤ m') : SrcAt g A n c m' w := by obtain ⟨p, sd, h1, hb, hc⟩ := h; exact ⟨p, sd, Nat.le_trans h1 hm, hb, hc⟩
theorem SrcAt.stay {g : Nat} {A : Option Addr} {n c m : Nat} {w w' : World} (h : SrcAt g A n c m w) (hb : Below w.heap.size w w') : SrcAt g A n c m w' := by
  obtain ⟨p, sd, h1, hk, hc⟩ := h
  have hlt := hk.lt
  exact ⟨p, sd, h1, hk.carry hb, hc.keep fun q hq => hb.cell (by omega)⟩
theorem SrcAt.far {g : Nat} {A : Option Addr} {n c m : Nat} {w : World} (h : SrcAt g A n c m w) {q : Nat} (hq : g < q) (i : Nat) (u : Value) : SrcAt g A n c m (w.setCell ⟨q, i, none⟩ u) := by
  obtain ⟨p, sd, h1, hk, hc⟩ := h
  exact ⟨p, sd, h1, hk.far (by simp only; omega) u, hc.keep fun r hr => World.cell?_setCell_other w ⟨q, i, none⟩ r u (fun e => by subst e; simp only at hr; omega)⟩
theorem Onl.new {g : Nat} {a w : World} (h : Onl g a w) {q : Nat} (hq : a.heap.size ≤ q) (hg : g ≤ q) (i : Nat) (u : Value) : Onl g a (w.setCell ⟨q, i, none⟩ u) :=
  ⟨h.1.setCell (p := ⟨q, i, none⟩) hg u, fun b hb hbg => (Below.heap_setCell w ⟨q, i, none⟩ u b (by simp only; omega)).trans (h.2 b hb hbg)⟩
theorem and_255 (x : Int) : 0 ≤ bits .and .u64 x 255 ∧ bits .and .u64 x 255 ≤ 255 := by
  have e : bits .and .u64 x 255 = IntKind.u64.wrap ((BitVec.ofInt 64 x &&& 255#64).toNat : Int) := rfl
  have h : (BitVec.ofInt 64 x &&& 255#64).toNat ≤ 255 := by
    rw [BitVec.toNat_and]
    exact Nat.and_le_right
  rw [e]
  generalize (BitVec.ofInt 64 x &&& 255#64).toNat = k at h ⊢
  have hw : IntKind.u64.wrap (k : Int) = (k : Int) := by
    simp [IntKind.wrap, IntKind.bits, IntKind.signed]; omega
  rw [hw]; omega
theorem src_next {w : World} {g : Nat} {t : TypeId} {s a d : Value} (hb : Blk w g t #[s, a, d]) (a' d' : Value) (q1 q2 : Nat) : Blk ((((w.drewN q1).setCell ⟨g, 1, none⟩ a').setCell ⟨g, 2, none⟩ d').drewN q2) g t #[s, a', d'] :=
  (Blk.set_ (w := (w.drewN q1).setCell ⟨g, 1, none⟩ a') (Blk.set_ (w := w.drewN q1) hb 1 a') 2 d')
theorem onl_next {w : World} {g : Nat} (a' d' : Value) (q1 q2 : Nat) : Onl g w ((((w.drewN q1).setCell ⟨g, 1, none⟩ a').setCell ⟨g, 2, none⟩ d').drewN q2) := ((((Onl.refl g w).drewN q1).set_ 1 a').set_ 2 d').drewN q2
/-- What a choice is. -/
def NxRet (g : Nat) (A : Option Addr) (n c m : Nat) (P : Int → Prop) (w : World) (e : Ending) (w' : World) : Prop := ∃ v : Int, e = .returned (.int .i64 v) ∧ P v ∧ SrcAt g A n c m w' ∧ Onl g w w' ∧ w'.heap.size = w.heap.size
set_option maxHeartbeats 3200000 in
theorem next_any (g : Nat) (A : Option Addr) (n c m : Nat) (w : World) (hm : m ≤ 100000) (hn : n ≤ 1048576) (h : SrcAt g A n c m w) :
    Calls Tryd.prog 65 #[.pointer (some ⟨g, 0, none⟩)] w (NxRet g A n c (m + 1) (fun v => 0 ≤ v ∧ v ≤ 255) w) := by
  obtain ⟨p, sd, hp, hb, hc⟩ := h
  have y0 : w.cell? ⟨g, 0, none⟩ = some (.slice A n c) := hb.cell 0 rfl
  have y1 : w.cell? ⟨g, 1, none⟩ = some (.int .i64 (p : Int)) := hb.cell 1 rfl
  have y2 : w.cell? ⟨g, 2, none⟩ = some (.int .u64 sd) := hb.cell 2 rfl
  have f1 : w.frozen? ⟨g, 1, none⟩ = false := hb.frozen 1
  have f2 : w.frozen? ⟨g, 2, none⟩ = false := hb.frozen 2
  have HB := Lib.hid hb
  have HC := Lib.hid hc
  unfold NxRet
  by_cases hlt : p < n
  case pos =>
    obtain ⟨g0, o, rfl, hg0, hcl⟩ : ∃ g0 o, A = some ⟨g0, o, none⟩ ∧ g0 < g ∧ ∀ k, k < n → ∃ v : Int, 0 ≤ v ∧ v ≤ 255 ∧ w.cell? ⟨g0, o + k, none⟩ = some (.int .u8 v) := by
      rcases hc with h | h
      · omega
      · exact h
    obtain ⟨b, hb0, hb1, cb⟩ := hcl p hlt
    have t1 : decide ((p : Int) < (n : Int)) = true := decide_eq_true (by omega)
    have t2 : decide ((p : Int) + 1 ≤ (n : Int)) = true := decide_eq_true (by omega)
    have ng : ¬ g0 = g := by omega
    have hpi : (p : Int) < (n : Int) := by omega
    clear hcl hb hc
    go_enter Tryd.func65, Tryd.ntmps65
    go_wp2_with fail
    go_quiet (fail)
    go_wp2_with fail
    go_quiet (fail)
    go_wp2_with fail
    go_quiet (fail)
    go_wp2_with fail
    refine bodyPost_ret (v := .int .i64 b) (by simp [results, Tryd.results65, go_sem]) rfl ?_
    exact ⟨b, rfl, ⟨hb0, hb1⟩, ⟨p + 1, _, by omega, src_next HB.out _ _ _ _, HC.out.keep fun q hq => (onl_next _ _ _ _).1.cell hq⟩, onl_next _ _ _ _, by simp⟩
  case neg =>
    have t1 : decide ((p : Int) < (n : Int)) = false := decide_eq_false (by omega)
    have t2 : decide ((p : Int) + 1 ≤ (n : Int)) = false := decide_eq_false (by omega)
    clear hb hc
    go_enter Tryd.func65, Tryd.ntmps65
    go_wp2_with fail
    go_quiet (fail)
    go_wp2_with fail
    go_quiet (fail)
    go_wp2_with fail
    generalize hZ : bits BinOp.and IntKind.u64 _ 255 = Z
    have hz : 0 ≤ Z ∧ Z ≤ 255 := by rw [← hZ]; exact and_255 _
    clear hZ
    have hw : wrap64 Z = Z := by unfold wrap64; omega
    rw [hw]
    refine bodyPost_ret (v := .int .i64 Z) (by simp [results, Tryd.results65, go_sem]) rfl ?_
    exact ⟨Z, rfl, hz, ⟨p + 1, _, by omega, src_next HB.out _ _ _ _, HC.out.keep fun q hq => (onl_next _ _ _ _).1.cell hq⟩, onl_next _ _ _ _, by simp⟩
/-- pick, one, among, a coordinate, a point. -/
theorem NxRet.back {g : Nat} {A : Option Addr} {n c m : Nat} {w w' : World} {e : Ending} {P Q : Int → Prop} (h : NxRet g A n c m P w e w') (hpq : ∀ v, P v → Q v) : NxRet g A n c m Q w e w' := by
  obtain ⟨v, h1, h2, h3⟩ := h; exact ⟨v, h1, hpq v h2, h3⟩
set_option maxHeartbeats 3200000 in
theorem pick_any (g : Nat) (A : Option Addr) (n c m : Nat) (k : Int) (w : World) (hm : m ≤ 90000) (hn : n ≤ 1048576) (hk : 2 ≤ k ∧ k ≤ 65536) (h : SrcAt g A n c m w) :
    Calls Tryd.prog 43 #[.pointer (some ⟨g, 0, none⟩), .int .i64 k] w (NxRet g A n c (m + 2) (fun v => 0 ≤ v ∧ v < k) w) := by
  have C1 := Lib.hid (next_any g A n c m w (by omega) hn h)
  have C2 := Lib.hid (fun (w1 : World) (h1 : SrcAt g A n c (m + 1) w1) => next_any g A n c (m + 1) w1 (by omega) hn h1)
  clear h
  obtain ⟨k1, k2⟩ := hk
  have t1 : decide (k ≤ 1) = false := decide_eq_false (by omega)
  have tk : (k == 0) = false := beq_eq_false_iff_ne.2 (by omega)
  have tk2 : ¬ k = 0 := by omega
  unfold NxRet at C1 C2 ⊢
  by_cases h2 : 200 < k
  case pos =>
    have t2 : decide (200 < k) = true := decide_eq_true h2
    go_enter Tryd.func43, Tryd.ntmps43
    go_wp2_with fail
    refine C1.out.mono ?_
    rintro e w1 ⟨v1, rfl, ⟨v10, v11⟩, s1, o1, z1⟩
    have D2 := Lib.hid (C2.out w1 s1)
    clear C2 s1
    have hw1 : IntKind.i64.wrap (v1 * 256) = v1 * 256 := IntWalk.i64_in _ (by omega)
    go_wp2_with fail
    refine D2.out.mono ?_
    rintro e w2 ⟨v2, rfl, ⟨v20, v21⟩, s2, o2, z2⟩
    have hw2 : IntKind.i64.wrap (v1 * 256 + v2) = v1 * 256 + v2 := IntWalk.i64_in _ (by omega)
    have hr0 : 0 ≤ (v1 * 256 + v2) % k := Int.emod_nonneg _ (by omega)
    have hr1 : (v1 * 256 + v2) % k < k := Int.emod_lt_of_pos _ (by omega)
    have hw3 : IntKind.i64.wrap ((v1 * 256 + v2) % k) = (v1 * 256 + v2) % k := IntWalk.i64_in _ (by omega)
    go_wp2_with fail
    refine bodyPost_ret (v := .int .i64 ((v1 * 256 + v2) % k)) (by simp [results, Tryd.results43, go_sem]) rfl ?_
    exact ⟨_, rfl, ⟨hr0, hr1⟩, s2, o1.trans o2, by omega⟩
  case neg =>
    have t2 : decide (200 < k) = false := decide_eq_false h2
    go_enter Tryd.func43, Tryd.ntmps43
    go_wp2_with fail
    refine C1.out.mono ?_
    rintro e w1 ⟨v1, rfl, ⟨v10, v11⟩, s1, o1, z1⟩
    have hr0 : 0 ≤ v1 % k := Int.emod_nonneg _ (by omega)
    have hr1 : v1 % k < k := Int.emod_lt_of_pos _ (by omega)
    have hw3 : IntKind.i64.wrap (v1 % k) = v1 % k := IntWalk.i64_in _ (by omega)
    go_wp2_with fail
    refine bodyPost_ret (v := .int .i64 (v1 % k)) (by simp [results, Tryd.results43, go_sem]) rfl ?_
    exact ⟨_, rfl, ⟨hr0, hr1⟩, s1.more (by omega), o1, z1⟩
set_option maxHeartbeats 3200000 in
theorem one_any (g : Nat) (A : Option Addr) (n c m : Nat) (w : World) (hm : m ≤ 90000) (hn : n ≤ 1048576) (h : SrcAt g A n c m w) :
    Calls Tryd.prog 66 #[.pointer (some ⟨g, 0, none⟩), .int .i64 2] w fun e w' => ∃ b : Bool, e = .returned (.bool b) ∧ SrcAt g A n c (m + 2) w' ∧ Onl g w w' ∧ w'.heap.size = w.heap.size := by
  have C1 := Lib.hid (pick_any g A n c m 2 w hm hn (by omega) h)
  clear h
  unfold NxRet at C1
  go_enter Tryd.func66, Tryd.ntmps66
  go_wp2_with fail
  refine C1.out.mono ?_
  rintro e w1 ⟨v, rfl, hv, s1, o1, z1⟩
  go_wp2_with fail
  refine bodyPost_ret (v := .bool (v == 0)) (by simp [results, Tryd.results66, go_sem]) rfl ?_
  exact ⟨_, rfl, s1, o1, z1⟩
set_option maxHeartbeats 3200000 in
theorem coord_any (g : Nat) (A : Option Addr) (n c m : Nat) (k : Int) (w : World) (hm : m ≤ 80000) (hn : n ≤ 1048576) (hk : 1 ≤ k ∧ k ≤ 262144) (h : SrcAt g A n c m w) :
    Calls Tryd.prog 44 #[.pointer (some ⟨g, 0, none⟩), .int .i64 k] w (NxRet g A n c (m + 5) (fun v => -k ≤ v ∧ v ≤ k) w) := by
  have C1 := Lib.hid (next_any g A n c m w (by omega) hn h)
  have C2 := Lib.hid (fun (w1 : World) (h1 : SrcAt g A n c (m + 1) w1) => next_any g A n c (m + 1) w1 (by omega) hn h1)
  have C3 := Lib.hid (fun (w1 : World) (h1 : SrcAt g A n c (m + 1 + 1) w1) => next_any g A n c (m + 1 + 1) w1 (by omega) hn h1)
  clear h
  obtain ⟨k1, k2⟩ := hk
  have tk2 : ¬ k + 1 = 0 := by omega
  have tk : (k + 1 == 0) = false := beq_eq_false_iff_ne.2 (by omega)
  have hwk : IntKind.i64.wrap (k + 1) = k + 1 := IntWalk.i64_in _ (by omega)
  unfold NxRet at C1 C2 C3 ⊢
  go_enter Tryd.func44, Tryd.ntmps44
  go_wp2_with fail
  refine C1.out.mono ?_
  rintro e w1 ⟨v1, rfl, ⟨v10, v11⟩, s1, o1, z1⟩
  have D2 := Lib.hid (C2.out w1 s1)
  clear C2 s1
  have hw1 : IntKind.i64.wrap (v1 * 65536) = v1 * 65536 := IntWalk.i64_in _ (by omega)
  go_wp2_with fail
  refine D2.out.mono ?_
  rintro e w2 ⟨v2, rfl, ⟨v20, v21⟩, s2, o2, z2⟩
  have D3 := Lib.hid (C3.out w2 s2)
  clear C3 s2
  have hw2 : IntKind.i64.wrap (v2 * 256) = v2 * 256 := IntWalk.i64_in _ (by omega)
  have hw2b : IntKind.i64.wrap (v1 * 65536 + v2 * 256) = v1 * 65536 + v2 * 256 := IntWalk.i64_in _ (by omega)
  go_wp2_with fail
  refine D3.out.mono ?_
  rintro e w3 ⟨v3, rfl, ⟨v30, v31⟩, s3, o3, z3⟩
  have hw4 : IntKind.i64.wrap (v1 * 65536 + v2 * 256 + v3) = v1 * 65536 + v2 * 256 + v3 := IntWalk.i64_in _ (by omega)
  have hr0 : 0 ≤ (v1 * 65536 + v2 * 256 + v3) % (k + 1) := Int.emod_nonneg _ (by omega)
  have hr1 : (v1 * 65536 + v2 * 256 + v3) % (k + 1) < k + 1 := Int.emod_lt_of_pos _ (by omega)
  have hw5 : IntKind.i64.wrap ((v1 * 65536 + v2 * 256 + v3) % (k + 1)) = (v1 * 65536 + v2 * 256 + v3) % (k + 1) := IntWalk.i64_in _ (by omega)
  have CP := Lib.hid (one_any g A n c (m + 1 + 1 + 1) w3 (by omega) hn s3)
  clear s3
  go_wp2_with fail
  generalize (v1 * 65536 + v2 * 256 + v3) % (k + 1) = r at *
  refine CP.out.mono ?_
  rintro e w4 ⟨b, rfl, s4, o4, z4⟩
  have hwn : IntKind.i64.wrap (-r) = -r := IntWalk.i64_in _ (by omega)
  have O := (o1.trans o2).trans (o3.trans o4)
  cases b
  case true =>
    go_wp2_with fail
    refine bodyPost_ret (v := .int .i64 (-r)) (by simp [results, Tryd.results44, go_sem]) rfl ?_
    exact ⟨_, rfl, ⟨by omega, by omega⟩, s4.more (by omega), O, by omega⟩
  case false =>
    go_wp2_with fail
    refine bodyPost_ret (v := .int .i64 r) (by simp [results, Tryd.results44, go_sem]) rfl ?_
    exact ⟨_, rfl, ⟨by omega, by omega⟩, s4.more (by omega), O, by omega⟩
set_option maxHeartbeats 3200000 in
theorem draw_any (g : Nat) (A : Option Addr) (n c m : Nat) (k : Int) (w : World) (hm : m ≤ 70000) (hn : n ≤ 1048576) (hk : 1 ≤ k ∧ k ≤ 262144) (h : SrcAt g A n c m w) :
    Calls Tryd.prog 26 #[.pointer (some ⟨g, 0, none⟩), .int .i64 k] w fun e w' => ∃ x y : Int, e = .returned (.agg #[.int .i64 x, .int .i64 y]) ∧ (-k ≤ x ∧ x ≤ k) ∧ (-k ≤ y ∧ y ≤ k) ∧ SrcAt g A n c (m + 10) w' ∧ Onl g w w' := by
  have hg := h.lt
  have C1 := Lib.hid (fun (w1 : World) (h1 : SrcAt g A n c m w1) => coord_any g A n c m k w1 (by omega) hn hk h1)
  have C2 := Lib.hid (fun (w1 : World) (h1 : SrcAt g A n c (m + 5) w1) => coord_any g A n c (m + 5) k w1 (by omega) hn hk h1)
  have H := Lib.hid h
  clear h
  unfold NxRet at C1 C2
  go_enter Tryd.func26, Tryd.ntmps26
  go_wp2_with fail
  generalize hW : w.alloc (.cells #[.int .i64 0, .int .i64 0] 25) = W0
  have s0 : SrcAt g A n c m W0 := by rw [← hW]; exact H.out.stay ((Below.refl _ _).alloc (Nat.le_refl _) _)
  have o0 : Onl g w W0 := by rw [← hW]; exact (Onl.refl g w).alloc (by omega) _
  have a0 : AtL w.heap.size [.int .i64 0, .int .i64 0] W0 := by rw [← hW]; exact AtL.new _ _ _
  have k0 : Blk W0 w.heap.size 25 #[.int .i64 0, .int .i64 0] := by rw [← hW]; exact Blk.new _ _ _
  have zz : W0.heap.size = w.heap.size + 1 := by rw [← hW]; simp
  clear hW
  refine (C1.out W0 s0).mono ?_
  rintro e w1 ⟨x, rfl, ⟨x0, x1⟩, s1, o1, z1⟩
  have D2 := Lib.hid (C2.out w1 s1)
  clear s1
  go_wp2_with fail
  refine D2.out.mono ?_
  rintro e w2 ⟨y, rfl, ⟨y0, y1⟩, s2, o2, z2⟩
  have O := (o0.trans o1).trans o2
  have k2 : Blk w2 w.heap.size 25 #[.int .i64 0, .int .i64 0] := ((o1.trans o2).2 w.heap.size (by omega) (by omega)).trans k0
  have c0 : w2.cell? ⟨w.heap.size, 0, none⟩ = some (.int .i64 0) := k2.cell 0 rfl
  have c1 : w2.cell? ⟨w.heap.size, 1, none⟩ = some (.int .i64 0) := k2.cell 1 rfl
  have f0 : w2.frozen? ⟨w.heap.size, 0, none⟩ = false := k2.frozen 0
  have f1 : w2.frozen? ⟨w.heap.size, 1, none⟩ = false := k2.frozen 1
  have S2 := Lib.hid s2
  have OO := Lib.hid O
  clear o0 o1 o2 O s2 a0 k0 k2 s0
  go_wp2_with fail
  refine bodyPost_ret (v := .agg #[.int .i64 x, .int .i64 y]) (by simp [results, Tryd.results26, go_sem, *]) rfl ?_
  exact ⟨x, y, rfl, ⟨x0, x1⟩, ⟨y0, y1⟩, (((S2.out.more (by omega)).far hg 0 _).far hg 1 _), ((OO.out.new (Nat.le_refl _) (by omega) 0 _).new (Nat.le_refl _) (by omega) 1 _)⟩
def amL : List Int := [3, 6, 30, 1000, 262144]
set_option maxHeartbeats 3200000 in
theorem among_any (g q : Nat) (A : Option Addr) (n c m : Nat) (w : World) (hm : m ≤ 70000) (hn : n ≤ 1048576) (h : SrcAt g A n c m w) (hq : ¬ q = g)
    (r : AtL q [.int .i64 3, .int .i64 6, .int .i64 30, .int .i64 1000, .int .i64 262144] w) :
    Calls Tryd.prog 25 #[.pointer (some ⟨g, 0, none⟩), .slice (some ⟨q, 0, none⟩) 5 5] w (NxRet g A n c (m + 2) (fun v => 1 ≤ v ∧ v ≤ 262144) w) := by
  have C1 := Lib.hid (pick_any g A n c m 5 w (by omega) hn (by omega) h)
  clear h
  unfold NxRet at C1 ⊢
  have R := Lib.hid r
  clear r
  go_enter Tryd.func25, Tryd.ntmps25
  go_wp2_with fail
  refine C1.out.mono ?_
  rintro e w1 ⟨v, rfl, ⟨v0, v1⟩, s1, o1, z1⟩
  have r1 := o1.at_ R.out hq
  obtain ⟨z, hz, hzb⟩ : ∃ z : Int, w1.cell? ⟨q, v.toNat, none⟩ = some (.int .i64 z) ∧ 1 ≤ z ∧ z ≤ 262144 := by
    have h5 : v = 0 ∨ v = 1 ∨ v = 2 ∨ v = 3 ∨ v = 4 := by omega
    rcases h5 with rfl | rfl | rfl | rfl | rfl
    · exact ⟨3, r1.cell 0 rfl, by omega⟩
    · exact ⟨6, r1.cell 1 rfl, by omega⟩
    · exact ⟨30, r1.cell 2 rfl, by omega⟩
    · exact ⟨1000, r1.cell 3 rfl, by omega⟩
    · exact ⟨262144, r1.cell 4 rfl, by omega⟩
  clear r1
  obtain ⟨k, rfl⟩ : ∃ k : Nat, v = (k : Int) := ⟨v.toNat, by omega⟩
  rw [Int.toNat_natCast] at hz
  have hk5 : k < 5 := by omega
  go_wp2_with fail
  refine bodyPost_ret (v := .int .i64 z) (by simp [results, Tryd.results25, go_sem]) rfl ?_
  exact ⟨z, rfl, hzb, s1, o1, z1⟩
end Go.Proofs.YtdikenapnncmfaaDoor
