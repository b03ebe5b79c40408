/- Walks: the parts of a text between separators, the reference's side. -/
import Derived.Test.YtonoldjhfhngfaaDoorProg
import Derived.Test.YtonoldjhfhngfaaDoorMem
import Derived.Test.YtonoldjhfhngfaaDoorSpc
import Derived.WalkKit
import Derived.WalkSpells
import Derived.WalkLawsBesides
import Derived.Lib.Hide
namespace Go.Proofs.YtonoldjhfhngfaaDoor
open Go.RowKit

def strs (ss : List ByteArray) : List Value := ss.map Value.string
theorem strs_at {ss : List ByteArray} {k : Nat} {u : Value} (h : (strs ss)[k]? = some u) : ∃ s, ss[k]? = some s ∧ u = .string s := by
  unfold strs at h
  rw [List.getElem?_map] at h
  cases hs : ss[k]? with
  | none => rw [hs] at h; cases h
  | some s => rw [hs] at h; injection h with h; exact ⟨s, rfl, h.symm⟩

theorem strs_len (ss : List ByteArray) : (strs ss).length = ss.length := by simp [strs]
/-- A new row of strings: what comes back, and where it lies. -/
def NewStrs (w : World) (L : List ByteArray) (e : Ending) (w' : World) : Prop :=
  ∃ A c, e = .returned (.slice A L.length c) ∧ w'.ownsRow w.heap.size 9 1 (.slice A L.length c) L.length (strs L) ∧ Below w.heap.size w w'

theorem own_one (wr : World) (base : Nat) (e : TypeId) (x : Value) (hb : base ≤ wr.heap.size) : (wr.alloc (.cells #[x] e)).ownsRow base e 1 (.slice (some ⟨wr.heap.size, 0, none⟩) 1 1) 1 [x] :=
  ⟨rfl, Or.inr ⟨wr.heap.size, 1, #[x], rfl, hb, heap_alloc_new wr _, Nat.le_refl _, by unfold maxLen; omega, rfl, rfl⟩⟩
theorem str_info : (Tryd.prog.info? 9).map (fun i => (i.zero, i.size, i.bytes)) = some (some (.string ⟨#[]⟩), 1, 16) := by kernel_rfl
/-- How the loop of the partsc s ctands. -/
def CutLoop (s : ByteArray) (c : UInt8) (k : Nat) (w : World) (out : Value) (fr : Value) (wr : World) : Prop :=
  fr = .int .i64 ((cutc s c k).2 : Int) ∧ wr.ownsRow w.heap.size 9 1 out (cutc s c k).1.length (strs (cutc s c k).1) ∧ Below w.heap.size w wr
theorem strs_snoc (l : List ByteArray) (x : ByteArray) : strs (l ++ [x]) = strs l ++ [.string x] := by simp [strs]
theorem grow_below {w wr w1 : World} {o : Obj} {v : Value} {e : TypeId} {size n : Nat} {xs : List Value} (hb : Below w.heap.size w wr) (hown : wr.ownsRow w.heap.size e size v n xs) (hg : (wr.alloc o).grownBy w1 v.ownBlock) : Below w.heap.size w w1 :=
  (hb.alloc hb.size _).grown hg (by have := hb.size; simp; omega) (fun k hk => (hown.lt k hk).1)

theorem cut_rel {s : ByteArray} {c : UInt8} {k : Nat} {w wr w1 : World} {L : List ByteArray} {x : ByteArray} {o : Obj} {v v' : Value} (HC : cutc s c (k + 1) = (L ++ [x], k + 1)) (hb : Below w.heap.size w wr) (hown : wr.ownsRow w.heap.size 9 1 v L.length (strs L))
    (hown1 : w1.ownsRow w.heap.size 9 1 v' (L.length + 1) (strs L ++ [.string x])) (hg1 : (wr.alloc o).grownBy w1 v.ownBlock) : CutLoop s c (k + 1) w v' (.int .i64 ((k : Int) + 1)) w1 := by
  unfold CutLoop
  rw [HC]
  exact ⟨rfl, by rw [strs_snoc, List.length_append]; exact hown1, grow_below hb hown hg1⟩
theorem own_slice {w : World} {B e size n : Nat} {v : Value} {xs : List Value} (h : w.ownsRow B e size v n xs) : ∃ A c, v = .slice A n c := by
  rcases h.2 with ⟨rfl, rfl⟩ | ⟨g, cap, _, rfl, _⟩
  · exact ⟨_, _, rfl⟩
  · exact ⟨_, _, rfl⟩

set_option maxHeartbeats 1600000 in
theorem l01Split_any (s : ByteArray) (c : UInt8) (w : World) (hs : s.size ≤ 1048576) :
    Calls Tryd.prog 12 #[.string s, .int .u8 (c.toNat : Int)] w (NewStrs w (partsc s c)) := by
  obtain ⟨i0, hi0, hz0, hz1, hz2⟩ := info_parts str_info
  go_enter Tryd.func12, Tryd.ntmps12
  go_wp2
  go_loopw [5, 6, 7] (fun out fr i wr => ∃ k : Nat, k ≤ s.size ∧ i = .int .i64 k ∧ CutLoop s c k w out fr wr) (fun _ _ i _ => s.size - (intOf i).toNat)
  case atStart => exact ⟨0, Nat.zero_le _, rfl, rfl, World.ownsRow_made w #[] 0 (Nat.le_refl _) (by unfold maxLen; omega) rfl, (Below.refl _ _).alloc (Nat.le_refl _) _⟩
  case round =>
    obtain ⟨k, hk, rfl, rfl, hown, hb⟩ := hrel
    have hcl := cutc_le s c k
    have hcn := cutc_len s c k
    have hbs := hb.size
    by_cases hlt : k < s.size
    · by_cases hc : s[k] = c
      · have e1 : ((s[k].toNat : Int) == (c.toNat : Int)) = true := by rw [hc]; simp
        have HC := Lib.hid (cutc_hit s c k hlt hc)
        clear hc
        generalize (cutc s c k).2 = fr at hcl HC ⊢
        generalize (cutc s c k).1 = L at hown hcn HC ⊢
        go_wp2_with (at_builtin
                     refine wpList_append_any _ rfl (.tmp 20) (.tmp 25) _ rfl w.heap.size 9 i0 _ 1 16 Tryd.underlying36 hi0 hz0 hz1 hz2 rfl (by omega) _ L.length (strs L) rfl (hown.alloc _) (wr.heap.size + 1) (some ⟨wr.heap.size, 0, none⟩) 1 1 [.string (s.extract fr k)] rfl (by have := Reads.of_own (own_one wr 0 9 (.string (s.extract fr k)) (Nat.zero_le _)); simpa using this) (by intro v hv; simp at hv; subst hv; rfl) (by unfold maxLen; omega) (by omega) (by simp; omega) ?_
                     intro v' w1 hown1 hg1 hat1)
        go_roundw
        case rel => exact ⟨k + 1, by omega, by go_num, cut_rel HC.out hb hown hown1 hg1⟩
        case measure => simp [intOf]; omega
      · have e1 : ((s[k].toNat : Int) == (c.toNat : Int)) = false := beq_eq_false_iff_ne.2 (fun h => hc (UInt8.toNat_inj.1 (by simpa using Int.ofNat.inj h)))
        have HC := Lib.hid (cutc_miss s c k hlt hc)
        clear hc
        have hR : CutLoop s c k w _ (.int .i64 ((cutc s c k).2 : Int)) wr := ⟨rfl, hown, hb⟩
        generalize (cutc s c k).2 = fr at hcl hR ⊢
        clear hown
        go_wp2
        go_roundw
        case rel => exact ⟨k + 1, by omega, by go_num, by unfold CutLoop; rw [HC.out]; exact hR⟩
        case measure => simp [intOf]; omega
    · obtain rfl : k = s.size := by omega
      have HP := Lib.hid (show partsc s c = (cutc s c s.size).1 ++ [s.extract (cutc s c s.size).2 s.size] from rfl)
      generalize (cutc s c s.size).2 = fr at hcl HP ⊢
      generalize (cutc s c s.size).1 = L at hown hcn HP ⊢
      go_wp2_with (at_builtin
                   refine wpList_append_any _ rfl (.tmp 29) (.tmp 33) _ rfl w.heap.size 9 i0 _ 1 16 Tryd.underlying36 hi0 hz0 hz1 hz2 rfl (by omega) _ L.length (strs L) rfl (hown.alloc _) (wr.heap.size + 1) (some ⟨wr.heap.size, 0, none⟩) 1 1 [.string (s.extract fr s.size)] rfl (by have := Reads.of_own (own_one wr 0 9 (.string (s.extract fr s.size)) (Nat.zero_le _)); simpa using this) (by intro v hv; simp at hv; subst hv; rfl) (by unfold maxLen; omega) (by omega) (by simp; omega) ?_
                   intro v' w1 hown1 hg1 hat1)
      go_ret
      obtain ⟨A, cp, rfl⟩ := own_slice hown1
      have hl : (partsc s c).length = L.length + 1 := by rw [HP.out, List.length_append]; rfl
      unfold NewStrs
      rw [hl, HP.out, strs_snoc]
      exact ⟨A, cp, rfl, hown1, grow_below hb hown hg1⟩


end Go.Proofs.YtonoldjhfhngfaaDoor
