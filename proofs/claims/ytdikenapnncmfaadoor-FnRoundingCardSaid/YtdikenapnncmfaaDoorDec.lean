/- Walks: the decimal form of a number, on the reference's side. -/
import Derived.Test.YtdikenapnncmfaaDoorProg
import Derived.Test.YtdikenapnncmfaaDoorMem
import Derived.Test.YtdikenapnncmfaaDoorDig
import Derived.WalkKit
import Derived.WalkSpells
import Derived.WalkLawsBesides
import Derived.Lib.Hide
import Derived.Lib.ItoaNum
import Derived.Lib.SmallJoins
namespace Go.Proofs.YtdikenapnncmfaaDoor
open Go.RowKit

def u8s (l : List UInt8) : List Value := l.map fun b => .int .u8 (b.toNat : Int)
theorem u8_info : (Tryd.prog.info? 5).map (fun i => (i.zero, i.size, i.bytes)) = some (some (.int .u8 0), 1, 1) := by kernel_rfl
theorem own1 (wr : World) (base : Nat) (e : TypeId) (x : Value) (hb : base ≤ wr.heap.size) : (wr.alloc (.cells #[x] e)).ownsRow base e 1 (.slice (some ⟨wr.heap.size, 0, none⟩) 1 1) 1 [x] :=
  ⟨rfl, Or.inr ⟨wr.heap.size, 1, #[x], rfl, hb, heap_alloc_new wr _, Nat.le_refl _, by unfold maxLen; omega, rfl, rfl⟩⟩
theorem u8s_cons (b : UInt8) (l : List UInt8) : [Value.int .u8 (b.toNat : Int)] ++ u8s l = u8s (b :: l) := rfl

/-- How the loop stands: what is left of the number, and the digits that are written. -/
def DecLoop (N : Nat) (w : World) (u : Nat) (out : Value) (wr : World) : Prop :=
  ∃ (m c : Nat) (A : Option Addr) (ds : List UInt8), out = .slice A m c ∧ m = ds.length ∧ Reads wr wr.heap.size 1 A m (u8s ds) ∧ digs u ++ ds = digs N ∧ Below w.heap.size w wr

theorem dec_step {N u c : Nat} {A : Option Addr} {ds : List UInt8} {w wr w1 : World} {v' x : Value} {row : Option Nat} {e : TypeId} (hb : Below w.heap.size w wr) (hd : digs (u / 10) ++ (UInt8.ofNat (48 + u % 10) :: ds) = digs N)
    (hx : x = .int .u8 (48 + (u : Int) % 10)) (hown : w1.ownsRow w.heap.size e 1 v' (1 + ds.length) ([x] ++ u8s ds)) (hg : (wr.alloc (.cells #[x] e)).grownBy w1 row) (hr : ∀ k, row = some k → w.heap.size ≤ k) (_hc : c = c) (_hA : A = A) :
    DecLoop N w (u / 10) v' w1 := by
  subst hx
  obtain ⟨g, cap, rfl⟩ := Joins.ownsRow_form hown (by omega)
  refine ⟨1 + ds.length, cap, some ⟨g, 0, none⟩, UInt8.ofNat (48 + u % 10) :: ds, rfl, by simp; omega, ?_, hd, (hb.alloc hb.size _).grown hg (by have := hb.size; simp; omega) hr⟩
  have h := Reads.of_own hown
  have e1 : (48 + (u : Int) % 10) = ((UInt8.ofNat (48 + u % 10)).toNat : Int) := by rw [digit_nat]; omega
  rw [e1] at h
  exact h
theorem itoa_zero : Lib.itoa ((0 : Nat) : Int) = [48] := by
  unfold Lib.itoa
  rw [if_neg (by omega), show ((0 : Nat) : Int).toNat = 0 from rfl, Lib.decDigits_one (by omega)]; rfl
theorem conv_reads {w : World} {A : Option Addr} {c : Nat} {ds : List UInt8} (hr : Reads w w.heap.size 1 A ds.length (u8s ds)) (h0 : 0 < ds.length) :
    ∃ ad, A = some ad ∧ (convert 22 9 (.slice (some ad) ds.length c)).run Tryd.prog w = .ok (.string ⟨ds.toArray⟩) w := by
  obtain ⟨ad, e, _, hc⟩ := hr.2 h0
  refine ⟨ad, e, run_convert_bytes_back w 22 9 5 ad c ds Tryd.underlying22 Tryd.underlying5 Tryd.underlying9 (fun j hj => hc j _ ?_)⟩
  simp [u8s, hj]

end Go.Proofs.YtdikenapnncmfaaDoor
