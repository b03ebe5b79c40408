/- Rows of bytes that come in, opened; bytes by their places. -/
import Derived.Test.YtdikenapnncmfaaDoorEa1
import Derived.Test.YtdikenapnncmfaaDoorHg
import Derived.Test.YtdikenapnncmfaaDoorAw
import Derived.OpenShut
namespace Go.Proofs.YtdikenapnncmfaaDoor
open Go.RowKit Go.ChangeShapes Go.WideShapes Go.Deep Go.Joins
set_option linter.unusedVariables false
abbrev AUint8 : Type := Int
def cUint8 (a : AUint8) : List Value := [.int .u8 a]
theorem cUint8_len (a : AUint8) : (cUint8 a).length = 1 := rfl
theorem cUint8_one (a : AUint8) : ∀ u ∈ cUint8 a, u.oneCell' = true := by
  intro u hu
  simp only [cUint8, List.mem_cons, List.not_mem_nil, or_false] at hu
  subst hu; rfl
def okUint8 (w : World) (B : Nat) (a : AUint8) : Prop := (Lit.int .u8 a).wf = true
theorem open_Uint8S {H : Type} {enc : TypeId × Value → H} {w : World} {base : Nat} {spare : Nat → Bool} {held : Bool} {fuel : Nat} {cs : List Value} {x : DataW H × List MemPlace} (h : DataW.trod enc Tryd.prog w base spare held fuel (22 : Nat) cs = some x) :
    ∃ (A : Option Addr) (n c : Nat) (l : List AUint8), cs = [.slice A n c] ∧ l.length = n ∧ n ≤ c ∧ c ≤ maxLen ∧ Rd cUint8 1 w w.heap.size A l ∧ ∀ (i : Nat) (a : AUint8), l[i]? = some a → okUint8 w w.heap.size a := by
  obtain ⟨A, n, c, hcs, hnc, hcm, hr⟩ := open_rows Tryd.underlying22 (k := 1) (by kernel_rfl) (by omega) h
  refine ⟨A, n, c, ?_⟩
  rcases hr with h0 | ⟨g, o, hA, hg, hel⟩
  · subst h0; exact ⟨[], hcs, rfl, hnc, hcm, Rd.nil_, fun i a h => by simp at h⟩
  · have hall : ∀ i, i < n → ∃ a : AUint8, (∀ j u, (cUint8 a)[j]? = some u → w.cell? ⟨g, o + i * 1 + j, none⟩ = some u) ∧ okUint8 w w.heap.size a := by
      intro i hi
      obtain ⟨es, m, y, hes, hcell, ht⟩ := hel i hi
      match es, hes with
      | [c0], _ =>
        obtain ⟨c0', e_c0, -, w_c0⟩ := DataW.trod_int Tryd.underlying5 ht; obtain rfl := (List.cons.inj e_c0).1
        exact ⟨c0', hcell, w_c0⟩
    obtain ⟨l, hl, hp⟩ := list_of hall
    exact ⟨l, hcs, hl, hnc, hcm, .inr ⟨g, o, hA, hg, fun k a hk => (hp k a hk).1⟩, fun i a hi => (hp i a hi).2⟩
set_option maxRecDepth 100000 in
theorem open_rowU {H : Type} {enc : TypeId × Value → H} {w : World} {r : Reach} {base b0 : Nat} {spare : Nat → Bool} {held : Bool} {v : Value} {d : DataW H} {p : List MemPlace} (hv : Value.okWide Tryd.prog w r b0 (22 : Nat) v) (h : DataW.Trod enc Tryd.prog w base spare held (22 : Nat) v d p) :
    ∃ (A : Option Addr) (n c : Nat), v = .slice A n c ∧ n ≤ maxLen ∧ CodeR A n w w.heap.size := by
  obtain ⟨a, n, c, rfl⟩ := okWide_slice Tryd.underlying22 hv
  obtain ⟨fuel, hf⟩ := h
  obtain ⟨A, n', c', l, hcs, hl, hnc, hcm, hr, hok⟩ := open_Uint8S hf
  simp [Value.cells] at hcs
  obtain ⟨rfl, rfl, rfl⟩ := hcs
  refine ⟨a, n, c, rfl, by omega, ?_⟩
  rcases hr with rfl | ⟨g, o, hA, hg, hc⟩
  · left; simpa using hl.symm
  · right
    refine ⟨g, o, hA, hg, fun k hk => ?_⟩
    have hkl : k < l.length := by omega
    have hx := List.getElem?_eq_getElem hkl
    have hw := hok k _ hx
    have h1 := hc k _ hx 0 _ rfl
    refine ⟨l[k], ?_, ?_, by rw [Nat.mul_one] at h1; exact h1⟩
    · have h2 : (Lit.int .u8 l[k]).wf = true := hw
      simp [Lit.wf, IntKind.min, IntKind.max, IntKind.signed, IntKind.bits] at h2
      omega
    · have h2 : (Lit.int .u8 l[k]).wf = true := hw
      simp [Lit.wf, IntKind.min, IntKind.max, IntKind.signed, IntKind.bits] at h2
      omega
set_option maxRecDepth 100000 in
set_option maxHeartbeats 1600000 in
theorem e8Long_any (A B : Option Addr) (n c m d : Nat) (w : World) : Calls Tryd.prog 6 #[.slice A n c, .slice B m d] w fun e w' => e = .returned (.bool (decide (1048576 < n ∨ 1048576 < m))) ∧ w = w' := by
  by_cases h : 1048576 < n
  · have t1 : decide ((1048576 : Int) < (n : Int)) = true := decide_eq_true (by omega)
    have H := Lib.hid (show decide (1048576 < n ∨ 1048576 < m) = true from decide_eq_true (.inl h))
    clear h
    go_enter Tryd.func6, Tryd.ntmps6
    go_wp2_with fail
    refine bodyPost_ret (v := .bool true) (by simp [results, Tryd.results6, go_sem]) rfl ?_
    exact ⟨by rw [H.out], rfl⟩
  · have t1 : decide ((1048576 : Int) < (n : Int)) = false := decide_eq_false (by omega)
    have H := Lib.hid (show decide (1048576 < n ∨ 1048576 < m) = decide ((1048576 : Int) < (m : Int)) by by_cases h2 : 1048576 < m <;> simp [h, h2] <;> omega)
    clear h
    go_enter Tryd.func6, Tryd.ntmps6
    go_wp2_with fail
    refine bodyPost_ret (v := .bool (decide ((1048576 : Int) < (m : Int)))) (by simp [results, Tryd.results6, go_sem]) rfl ?_
    exact ⟨by rw [H.out], rfl⟩
set_option maxRecDepth 100000 in
set_option maxHeartbeats 1600000 in
theorem e8At_any (A : Option Addr) (n c i : Nat) (k : Int) (w : World) (hn : n ≤ 1048576) (hk : 2 ≤ k ∧ k ≤ 65536) (h : CodeR A n w w.heap.size) :
    Calls Tryd.prog 8 #[.slice A n c, .int .i64 (i : Int), .int .i64 k] w fun e w' => ∃ v : Int, e = .returned (.int .i64 v) ∧ (0 ≤ v ∧ v < k) ∧ w = w' := by
  obtain ⟨k1, k2⟩ := hk
  have t1 : decide (k ≤ 1) = false := decide_eq_false (by omega)
  by_cases h2 : n ≤ i
  · have t2 : decide (n ≤ i) = true := decide_eq_true h2
    clear h h2
    go_enter Tryd.func8, Tryd.ntmps8
    go_wp2_with fail
    refine bodyPost_ret (v := .int .i64 0) (by simp [results, Tryd.results8, go_sem]) rfl ?_
    exact ⟨0, rfl, ⟨by omega, by omega⟩, rfl⟩
  · have t2 : decide (n ≤ i) = false := decide_eq_false h2
    obtain ⟨g, o, rfl, hg, hcl⟩ : ∃ g o, A = some ⟨g, o, none⟩ ∧ g < w.heap.size ∧ ∀ k, k < n → ∃ v : Int, 0 ≤ v ∧ v ≤ 255 ∧ w.cell? ⟨g, o + k, none⟩ = some (.int .u8 v) := by
      rcases h with h | h
      · omega
      · exact h
    obtain ⟨b, hb0, hb1, cb⟩ := hcl i (by omega)
    have hii : (i : Int) < (n : Int) := by omega
    have tk2 : ¬ k = 0 := by omega
    have tk : (k == 0) = false := beq_eq_false_iff_ne.2 tk2
    have hr0 : 0 ≤ b % k := Int.emod_nonneg _ (by omega)
    have hr1 : b % k < k := Int.emod_lt_of_pos _ (by omega)
    have hw3 : IntKind.i64.wrap (b % k) = b % k := IntWalk.i64_in _ (by omega)
    clear hcl h2
    go_enter Tryd.func8, Tryd.ntmps8
    go_wp2_with fail
    refine bodyPost_ret (v := .int .i64 (b % k)) (by simp [results, Tryd.results8, go_sem]) rfl ?_
    exact ⟨_, rfl, ⟨hr0, hr1⟩, rfl⟩
end Go.Proofs.YtdikenapnncmfaaDoor
