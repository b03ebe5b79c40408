/- Walks: the texts by which memory is marked. -/
import Derived.Test.YthedimnjbfeaiaaProg
import Derived.Test.YthedimnjbfeaiaaMem
import Derived.Test.YthedimnjbfeaiaaDig
import Derived.WalkKit
import Derived.WalkSpells
import Derived.WalkLawsBesides
import Derived.Lib.SmallJoins
namespace Go.Proofs.Ythedimnjbfeaiaa
open Go.RowKit

theorem ret_bytes {a b : ByteArray} (h : a = b) : Ending.returned (.string a) = .returned (.string b) := by rw [h]
theorem conv_one (w : World) (d : UInt8) : (convert 151 9 (.slice (some ⟨w.heap.size, 0, none⟩) 1 1)).run Try.prog (w.alloc (.cells #[.int .u8 (d.toNat : Int)] 5)) = .ok (.string ⟨#[d]⟩) (w.alloc (.cells #[.int .u8 (d.toNat : Int)] 5)) :=
  run_convert_bytes_back _ 151 9 5 ⟨w.heap.size, 0, none⟩ 1 [d] Try.underlying151 Try.underlying5 Try.underlying9 (fun j hj => by
    match j, hj with
    | 0, _ => simp [Addr.add, go_sem])

set_option maxHeartbeats 800000 in
theorem markText_any (n : Nat) (w : World) (h0 : 1 ≤ n) (h1 : n ≤ 9223372036854775807) :
    Calls Try.prog 125 #[.int .i64 n] w fun e w' => e = .returned (.string (markB n)) ∧ Below w.heap.size w w' := by
  have hn : (0 : Int) < (n : Int) := by omega
  go_enter Try.func125, Try.ntmps125
  go_wp2
  go_loopw [0, 3] (fun k out wr => ∃ (u : Nat) (t : ByteArray), u ≤ n ∧ k = .int .i64 u ∧ out = .string t ∧ MkLoop n u t ∧ Below w.heap.size w wr) (fun k _ _ => (intOf k).toNat)
  case atStart => exact ⟨n, ⟨#[]⟩, Nat.le_refl _, rfl, rfl, MkLoop.start n, Below.refl _ _⟩
  case round =>
    obtain ⟨u, t, hu, rfl, rfl, hM, hb⟩ := hrel
    have ht := hM.size h1
    by_cases h0 : 0 < u
    · have hM2 := hM.step h0
      have hM3 : (0 : Int) ≤ (u : Int) % 10 := by omega
      have hM4 : (u : Int) % 10 < 10 := by omega
      have hdd : ((UInt8.ofNat (48 + u % 10)).toNat : Int) = 48 + (u : Int) % 10 := by rw [digit_nat]; omega
      have f3 : (9223372036854775807 < 1 + t.size) = False := by simp only [eq_iff_iff, iff_false]; omega
      have hcv := conv_one wr (UInt8.ofNat (48 + u % 10))
      rw [hdd] at hcv
      clear hdd hM
      generalize UInt8.ofNat (48 + u % 10) = d at hM2 hcv
      have hu1 : (0 : Int) < (u : Int) := by omega
      go_wp2
      go_roundw
      case rel => exact ⟨u / 10, _, by omega, by go_num, rfl, hM2, hb.alloc hb.size _⟩
      case measure => simp [intOf]; omega
    · obtain rfl : u = 0 := by omega
      have hD := Lib.hid hM.done
      have f3 : (9223372036854775807 < 1 + t.size) = False := by simp only [eq_iff_iff, iff_false]; omega
      go_wp2
      go_ret
      exact ⟨ret_bytes hD.out, hb⟩
end Go.Proofs.Ythedimnjbfeaiaa
