/- Walks: the bytes of an operand, the program's side. -/
import Derived.Test.YtdikenapnncmfaaDoorPoc
import Derived.LoopN
namespace Go.Proofs.YtdikenapnncmfaaDoor
open Go.RowKit
set_option linter.unusedVariables false
theorem conv_bytes (W : World) (g : Nat) (cap : Nat) (xs : List Int) (hx : ∀ x ∈ xs, 0 ≤ x ∧ x < 256) (hc : ∀ j (h : j < xs.length), W.cell? ⟨g, j, none⟩ = some (.int .u8 xs[j])) :
    (convert 22 9 (.slice (some ⟨g, 0, none⟩) xs.length cap)).run Tryd.prog W = .ok (.string ⟨(xs.map toU8).toArray⟩) W := by
  have h := run_convert_bytes_back (P := Tryd.prog) W 22 9 5 ⟨g, 0, none⟩ cap (xs.map toU8) Tryd.underlying22 Tryd.underlying5 Tryd.underlying9 (fun j hj => by
    have hj' : j < xs.length := by simpa using hj
    have hb := hx xs[j] (List.getElem_mem hj')
    rw [List.getElem_map, toU8_nat hb.1 hb.2, ← hc j hj']
    by_cases h0 : j = 0
    · subst h0; simp [Addr.add]
    · simp [Addr.add, h0])
  rw [List.length_map] at h
  exact h
set_option maxRecDepth 100000 in
set_option maxHeartbeats 3200000 in
theorem implPut_1 (n : Int) (w : World) (h1 : -128 ≤ n) (h2 : n < 256) :
    Calls Tryd.prog 77 #[.int .i64 n, .int .i64 1] w fun e w' => e = .returned (.string ⟨([n % 256].map toU8).toArray⟩) ∧ Below w.heap.size w w' := by
  have hmk : ∀ w, (Instr.makeSlice 22 (.int .i64 1) (.int .i64 1)).run Tryd.prog w = .ok (.slice (some ⟨w.heap.size, 0, none⟩) 1 1) (w.alloc (.cells #[.int .u8 0] 5)) := fun _ => by kernel_rfl
  have hcv : (convert 22 9 (.slice (some ⟨w.heap.size, 0, none⟩) 1 1)).run Tryd.prog (w.alloc (.cells #[.int .u8 (n % 256)] 5)) = .ok (.string ⟨([n % 256].map toU8).toArray⟩) (w.alloc (.cells #[.int .u8 (n % 256)] 5)) := by
    refine conv_bytes _ _ 1 [n % 256] (by intro x hx; simp at hx; omega) ?_
    intro j hj
    have hj' : j < 1 := hj
    obtain rfl : j = 0 := by omega
    all_goals simp [go_sem]
  go_enter Tryd.func77, Tryd.ntmps77
  go_wp2
  refine wp_loop_rounds 2 ?_
  rw [rounds_succ]
  go_wp2
  rw [rounds_succ]
  go_wp2
  go_ret
  exact ⟨rfl, (Below.refl _ _).alloc (Nat.le_refl _) _⟩
set_option maxRecDepth 100000 in
set_option maxHeartbeats 3200000 in
theorem implPut_2 (n : Int) (w : World) (h1 : -32768 ≤ n) (h2 : n < 65536) :
    Calls Tryd.prog 77 #[.int .i64 n, .int .i64 2] w fun e w' => e = .returned (.string ⟨([n / 256 % 256, n % 256].map toU8).toArray⟩) ∧ Below w.heap.size w w' := by
  have hmk : ∀ w, (Instr.makeSlice 22 (.int .i64 2) (.int .i64 2)).run Tryd.prog w = .ok (.slice (some ⟨w.heap.size, 0, none⟩) 2 2) (w.alloc (.cells #[.int .u8 0, .int .u8 0] 5)) := fun _ => by kernel_rfl
  have hcv : (convert 22 9 (.slice (some ⟨w.heap.size, 0, none⟩) 2 2)).run Tryd.prog (w.alloc (.cells #[.int .u8 (n / 256 % 256), .int .u8 (n % 256)] 5)) = .ok (.string ⟨([n / 256 % 256, n % 256].map toU8).toArray⟩) (w.alloc (.cells #[.int .u8 (n / 256 % 256), .int .u8 (n % 256)] 5)) := by
    refine conv_bytes _ _ 2 [n / 256 % 256, n % 256] (by intro x hx; simp at hx; omega) ?_
    intro j hj
    have hj' : j < 2 := hj
    obtain rfl | rfl : j = 0 ∨ j = 1 := by omega
    all_goals simp [go_sem]
  go_enter Tryd.func77, Tryd.ntmps77
  go_wp2
  refine wp_loop_rounds 3 ?_
  rw [rounds_succ]
  go_wp2
  rw [rounds_succ]
  go_wp2
  rw [rounds_succ]
  go_wp2
  go_ret
  exact ⟨rfl, (Below.refl _ _).alloc (Nat.le_refl _) _⟩
set_option maxRecDepth 100000 in
set_option maxHeartbeats 3200000 in
theorem implNone (n b : Int) (w : World) (h : b < 1 ∨ 4 < b) :
    Calls Tryd.prog 77 #[.int .i64 n, .int .i64 b] w fun e w' => e = .returned (.string ⟨#[]⟩) ∧ Below w.heap.size w w' := by
  by_cases c : b < 1
  · clear h
    go_enter Tryd.func77, Tryd.ntmps77
    go_wp2
    go_ret
    exact ⟨rfl, Below.refl _ _⟩
  · have c1 : 4 < b := by omega
    have c2 : 1 ≤ b := by omega
    clear h c
    go_enter Tryd.func77, Tryd.ntmps77
    go_wp2
    go_ret
    exact ⟨rfl, Below.refl _ _⟩
/-- The bytes of an operand. -/
def twL (c x : Int) : List Int := if fmB c = 1 then [x % 256] else if fmB c = 2 then [x / 256 % 256, x % 256] else []
theorem biL_tw (c x : Int) : biL (c, x) = (c % 256) :: twL c x := rfl
def twT (c x : Int) : ByteArray := ⟨((twL c x).map toU8).toArray⟩
theorem twL_in (c x : Int) : ∀ z ∈ twL c x, 0 ≤ z ∧ z < 256 := by
  intro z hz
  exact biL_in (c, x) z (by rw [biL_tw]; exact List.mem_cons_of_mem _ hz)
theorem twT_size (c x : Int) : (twT c x).size ≤ 2 := by
  have : (twT c x).size = (twL c x).length := by simp [twT, ByteArray.size]
  rw [this]
  unfold twL
  split
  · simp
  · split <;> simp
theorem twT_cells (c x : Int) : Lib.byteCells (twT c x).data.toList = (twL c x).map (Value.int .u8) := by
  unfold twT Lib.byteCells
  simp only [List.map_map]
  apply List.map_congr_left
  intro z hz
  have := twL_in c x z hz
  simp only [Function.comp]
  rw [toU8_nat this.1 this.2]
theorem putw_any (c x : Int) (w : World) (hv : hvB c x = true) :
    Calls Tryd.prog 77 #[.int .i64 x, .int .i64 (fmB c)] w fun e w' => e = .returned (.string (twT c x)) ∧ Below w.heap.size w w' := by
  have hh : 0 ≤ c ∧ c ≤ 44 ∧ fmL c ≤ x ∧ x ≤ fmG c := by simpa [hvB] using hv
  obtain ⟨_, _, h3, h4⟩ := hh
  rcases fm_cases c with ⟨h, e⟩ | ⟨h, e⟩ | ⟨h, e⟩
  · rw [show twT c x = ⟨([x % 256].map toU8).toArray⟩ by unfold twT twL; rw [if_pos e], e]
    have hx : -128 ≤ x ∧ x < 256 := by rcases h with rfl | rfl | rfl <;> (simp [fmL, fmG] at h3 h4; omega)
    exact implPut_1 x w hx.1 hx.2
  · rw [show twT c x = ⟨([x / 256 % 256, x % 256].map toU8).toArray⟩ by unfold twT twL; rw [if_neg (by omega), if_pos e], e]
    have hx : -32768 ≤ x ∧ x < 65536 := by rcases h with rfl | rfl | rfl <;> (simp [fmL, fmG] at h3 h4; omega)
    exact implPut_2 x w hx.1 hx.2
  · rw [show twT c x = ⟨#[]⟩ by unfold twT twL; rw [if_neg (by omega), if_neg (by omega)]; rfl, e]
    exact implNone x 0 w (by omega)
end Go.Proofs.YtdikenapnncmfaaDoor
