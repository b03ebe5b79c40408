/- Walks: the bytes of a program, the reference's side: l19Bytes, l19Program. -/
import Derived.Test.YtdikenapnncmfaaDoorPhd
namespace Go.Proofs.YtdikenapnncmfaaDoor
open Go.RowKit
set_option linter.unusedVariables false
def toU8 (x : Int) : UInt8 := UInt8.ofNat x.toNat
theorem toU8_nat {x : Int} (h0 : 0 ≤ x) (h1 : x < 256) : ((toU8 x).toNat : Int) = x := by
  have h : (toU8 x).toNat = x.toNat % 256 := by simp [toU8]
  rw [h]; omega
/-- The bytes of an instruction, and of a program. -/
def biL (a : AHint) : List Int := (a.1 % 256) :: (if fmB a.1 = 1 then [a.2 % 256] else if fmB a.1 = 2 then [a.2 / 256 % 256, a.2 % 256] else [])
def pgI (l : List AHint) : List Int := l.flatMap biL
def pgT (l : List AHint) : ByteArray := ⟨((pgI l).map toU8).toArray⟩
theorem biL_1 {c x : Int} (h : fmB c = 1) : biL (c, x) = [c % 256] ++ [x % 256] := by unfold biL; simp [h]
theorem biL_2 {c x : Int} (h : fmB c = 2) : biL (c, x) = [c % 256] ++ [x / 256 % 256, x % 256] := by unfold biL; simp [h]
theorem biL_0 {c x : Int} (h1 : ¬ fmB c = 1) (h2 : ¬ fmB c = 2) : biL (c, x) = [c % 256] := by unfold biL; simp [h1, h2]
theorem biL_len (a : AHint) : (biL a).length ≤ 3 := by
  unfold biL
  split
  · simp
  · split <;> simp
theorem biL_in (a : AHint) : ∀ x ∈ biL a, 0 ≤ x ∧ x < 256 := by
  intro x hx
  unfold biL at hx
  rcases List.mem_cons.1 hx with rfl | hx
  · omega
  · split at hx
    · simp at hx; omega
    · split at hx
      · simp at hx; omega
      · simp at hx
theorem pgI_in (l : List AHint) : ∀ x ∈ pgI l, 0 ≤ x ∧ x < 256 := by
  intro x hx
  obtain ⟨a, _, h⟩ := List.mem_flatMap.1 hx
  exact biL_in a x h
theorem pgI_len (l : List AHint) : (pgI l).length ≤ 3 * l.length := by
  induction l with
  | nil => simp [pgI]
  | cons a r ih =>
    have := biL_len a
    have e : pgI (a :: r) = biL a ++ pgI r := rfl
    rw [e, List.length_append, List.length_cons]; omega
theorem pgI_snoc {l : List AHint} {k : Nat} {x : AHint} (h : l[k]? = some x) : pgI (l.take (k + 1)) = pgI (l.take k) ++ biL x := by
  unfold pgI
  rw [List.take_add_one, h, List.flatMap_append]; simp
theorem pgI_tlen (l : List AHint) (k : Nat) (hk : k ≤ 1048576) : (pgI (l.take k)).length ≤ 3145728 := by
  have := pgI_len (l.take k)
  have := List.length_take_le k l
  omega
def cU (a : Int) : List Value := [.int .u8 a]
theorem cU_len (a : Int) : (cU a).length = 1 := rfl
def OwU (t : TypeId) (w : World) (base : Nat) (A : Option Addr) (n c : Nat) (es : List Int) : Prop := n = es.length ∧ w.ownsRow base t 1 (.slice A n c) n (cellsF cU es)
section
variable {t : TypeId} {w w' : World} {base n c : Nat} {A : Option Addr} {es : List Int}
theorem OwU.stays (h : OwU t w base A n c es) (hb : Below w.heap.size w w') : OwU t w' base A n c es := ⟨h.1, eown_stays h.2 hb⟩
theorem OwU.drew (h : OwU t w base A n c es) : OwU t w.drew base A n c es := h
theorem OwU.alloc (h : OwU t w base A n c es) (o : Obj) : OwU t (w.alloc o) base A n c es := ⟨h.1, h.2.alloc o⟩
theorem OwU.block (h : OwU t w base A n c es) : ∀ q, (Value.slice A n c).ownBlock = some q → base ≤ q ∧ q < w.heap.size := fun q hq => own_block h.2 hq
theorem OwU.base_ {base' : Nat} (h : OwU t w base A n c es) (hb : base' ≤ base) : OwU t w base' A n c es := ⟨h.1, eown_base h.2 hb⟩
theorem OwU.nil (w : World) (base : Nat) : OwU t w base none 0 0 [] := ⟨rfl, World.ownsRow_nil _ _ _ _⟩
theorem OwU.new (w : World) (base : Nat) (hb : base ≤ w.heap.size) : OwU t (w.alloc (.cells #[] t)) base (some ⟨w.heap.size, 0, none⟩) 0 0 [] :=
  ⟨rfl, rfl, .inr ⟨w.heap.size, 0, #[], rfl, hb, Blk.new w t #[], by omega, by unfold maxLen; omega, rfl, rfl⟩⟩
theorem OwU.grown {n2 c2 : Nat} {A2 : Option Addr} {vs : List Int} (hn : n2 = es.length + vs.length) (h : w'.ownsRow base t 1 (.slice A2 n2 c2) n2 (cellsF cU es ++ cellsF cU vs)) : OwU t w' base A2 n2 c2 (es ++ vs) := by
  refine ⟨by rw [List.length_append]; exact hn, ?_⟩
  have : cellsF cU (es ++ vs) = cellsF cU es ++ cellsF cU vs := by unfold cellsF; exact List.flatMap_append
  rw [this]; exact h
theorem OwU.rd (h : OwU t w base A n c es) {B : Nat} (hB : w.heap.size ≤ B) : Rd cU 1 w B A es := Rd.of_own (fun a => cU_len a) (by omega) h.2 hB
theorem OwU.reads (h : OwU t w base A n c es) : Reads w w.heap.size 1 A n (cellsF cU es) := by
  obtain ⟨rfl, ho⟩ := h
  refine ⟨by rw [cellsF_len (fun a => cU_len a)], fun hn => ?_⟩
  obtain ⟨g, cap, hv, _, hlt⟩ := ho.form hn
  obtain ⟨rfl, rfl⟩ : A = some ⟨g, 0, none⟩ ∧ c = cap := by injection hv with a b c; exact ⟨a, c⟩
  refine ⟨_, rfl, hlt, fun j u hu => ?_⟩
  have hj : j < es.length * 1 := by
    rcases Nat.lt_or_ge j (es.length * 1) with q | q
    · exact q
    · rw [List.getElem?_eq_none (by rw [cellsF_len (fun a => cU_len a)]; exact q)] at hu; cases hu
  have h2 := ho.cellAt j hj
  rw [Addr.add_lit, Nat.zero_add]
  exact h2.trans hu
end
theorem cUs {es : List Int} : cellsF cU es = es.map (Value.int .u8) := by
  unfold cellsF cU
  induction es with
  | nil => rfl
  | cons a r ih => rw [List.flatMap_cons, ih]; rfl
theorem OwU.at_ {t : TypeId} {w : World} {base n c g : Nat} {es : List Int} (h : OwU t w base (some ⟨g, 0, none⟩) n c es) {k : Nat} {v : Int} (hk : es[k]? = some v) : w.cell? ⟨g, k, none⟩ = some (.int .u8 v) := by
  have hkn : k < n := by rw [h.1]; exact (List.getElem?_eq_some_iff.1 hk).1
  have h2 := h.2.cellAt k (by omega)
  rw [h2, cUs, List.getElem?_map, hk]; rfl
theorem ureads_1 (w : World) (x : Int) (t : TypeId) : Reads (w.alloc (.cells #[.int .u8 x] t)) (w.alloc (.cells #[.int .u8 x] t)).heap.size 1 (some ⟨w.heap.size, 0, none⟩) 1 [.int .u8 x] := by
  refine ⟨rfl, fun _ => ⟨_, rfl, by simp, fun j z hz => ?_⟩⟩
  rw [Addr.add_lit]
  have := (AtL.new w [.int .u8 x] t).cell j hz
  simpa using this
theorem ureads_2 (w : World) (x y : Int) (t : TypeId) : Reads (w.alloc (.cells #[.int .u8 x, .int .u8 y] t)) (w.alloc (.cells #[.int .u8 x, .int .u8 y] t)).heap.size 1 (some ⟨w.heap.size, 0, none⟩) 2 [.int .u8 x, .int .u8 y] := by
  refine ⟨rfl, fun _ => ⟨_, rfl, by simp, fun j z hz => ?_⟩⟩
  rw [Addr.add_lit]
  have := (AtL.new w [.int .u8 x, .int .u8 y] t).cell j hz
  simpa using this
theorem cU_one (a : Int) : ∀ u ∈ cU a, u.oneCell' = true := by
  intro u hu
  simp only [cU, List.mem_cons, List.not_mem_nil, or_false] at hu
  subst hu; rfl
theorem cU_two (a b : Int) : ∀ u ∈ [Value.int .u8 a, Value.int .u8 b], u.oneCell' = true := by
  intro u hu
  simp only [List.mem_cons, List.not_mem_nil, or_false] at hu
  rcases hu with rfl | rfl <;> rfl
theorem infoU8 : (Tryd.prog.info? 5).map (fun i => (i.zero, i.size, i.bytes)) = some (some (.int .u8 0), 1, 1) := by kernel_rfl
theorem conv_own {w : World} {base n c g : Nat} {t : TypeId} {es : List Int} (h : OwU t w base (some ⟨g, 0, none⟩) n c es) (hx : ∀ x ∈ es, 0 ≤ x ∧ x < 256) :
    (convert 22 9 (.slice (some ⟨g, 0, none⟩) n c)).run Tryd.prog w = .ok (.string ⟨(es.map toU8).toArray⟩) w := by
  have k := run_convert_bytes_back (P := Tryd.prog) w 22 9 5 ⟨g, 0, none⟩ c (es.map toU8) Tryd.underlying22 Tryd.underlying5 Tryd.underlying9 (fun j hj => by
    have hj' : j < es.length := by simpa using hj
    have hb := hx es[j] (List.getElem_mem hj')
    rw [List.getElem_map, toU8_nat hb.1 hb.2, ← h.at_ (List.getElem?_eq_getElem hj')]
    by_cases h0 : j = 0
    · subst h0; simp [Addr.add]
    · simp [Addr.add, h0])
  rw [List.length_map, ← h.1] at k
  exact k
theorem fm_cases (c : Int) : (c = 39 ∨ c = 41 ∨ c = 44) ∧ fmB c = 1 ∨ (c = 40 ∨ c = 42 ∨ c = 43) ∧ fmB c = 2 ∨ (¬ c = 39 ∧ ¬ c = 41 ∧ ¬ c = 44 ∧ ¬ c = 40 ∧ ¬ c = 42 ∧ ¬ c = 43) ∧ fmB c = 0 := by
  unfold fmB
  split
  · left; exact ⟨by assumption, rfl⟩
  · split
    · right; left; exact ⟨by assumption, rfl⟩
    · right; right; exact ⟨by omega, rfl⟩
set_option maxHeartbeats 1600000 in
theorem l19Bytes_any (c : Int) (w : World) : Calls Tryd.prog 58 #[.int .i64 c] w fun e w' => e = .returned (.int .i64 (fmB c)) ∧ w = w' := by
  rcases fm_cases c with ⟨h, e⟩ | ⟨h, e⟩ | ⟨⟨h1, h2, h3, h4, h5, h6⟩, e⟩
  · rw [e]
    clear e
    rcases h with rfl | rfl | rfl <;>
    · go_enter Tryd.func58, Tryd.ntmps58
      go_wp2
      go_ret
      exact ⟨rfl, rfl⟩
  · rw [e]
    clear e
    rcases h with rfl | rfl | rfl <;>
    · go_enter Tryd.func58, Tryd.ntmps58
      go_wp2
      go_ret
      exact ⟨rfl, rfl⟩
  · rw [e]
    have d1 : (c == 39) = false := beq_eq_false_iff_ne.2 h1
    have d2 : (c == 41) = false := beq_eq_false_iff_ne.2 h2
    have d3 : (c == 44) = false := beq_eq_false_iff_ne.2 h3
    have d4 : (c == 40) = false := beq_eq_false_iff_ne.2 h4
    have d5 : (c == 42) = false := beq_eq_false_iff_ne.2 h5
    have d6 : (c == 43) = false := beq_eq_false_iff_ne.2 h6
    clear e h1 h2 h3 h4 h5 h6
    go_enter Tryd.func58, Tryd.ntmps58
    go_wp2
    go_ret
    exact ⟨rfl, rfl⟩
end Go.Proofs.YtdikenapnncmfaaDoor
