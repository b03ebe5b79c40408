/- Walks: the decimal form of a number, on the reference's side. -/
import Derived.Test.YtonoldjhfhngfaaDoorProg
import Derived.Test.YtonoldjhfhngfaaDoorMem
import Derived.Test.YtonoldjhfhngfaaDoorDig
import Derived.WalkKit
import Derived.WalkSpells
import Derived.WalkLawsBesides
import Derived.Lib.Hide
import Derived.Lib.ItoaNum
import Derived.Lib.SmallJoins
namespace Go.Proofs.YtonoldjhfhngfaaDoor
open Go.RowKit

def u8s (l : List UInt8) : List Value := l.map fun b => .int .u8 (b.toNat : Int)
theorem u8_info : (Tryd.prog.info? 5).map (fun i => (i.zero, i.size, i.bytes)) = some (some (.int .u8 0), 1, 1) := by kernel_rfl
theorem own1 (wr : World) (base : Nat) (e : TypeId) (x : Value) (hb : base ≤ wr.heap.size) : (wr.alloc (.cells #[x] e)).ownsRow base e 1 (.slice (some ⟨wr.heap.size, 0, none⟩) 1 1) 1 [x] :=
  ⟨rfl, Or.inr ⟨wr.heap.size, 1, #[x], rfl, hb, heap_alloc_new wr _, Nat.le_refl _, by unfold maxLen; omega, rfl, rfl⟩⟩
theorem u8s_cons (b : UInt8) (l : List UInt8) : [Value.int .u8 (b.toNat : Int)] ++ u8s l = u8s (b :: l) := rfl

/-- How the loop stands: what is left of the number, and the digits that are written. -/
def DecLoop (N : Nat) (w : World) (u : Nat) (out : Value) (wr : World) : Prop :=
  ∃ (m c : Nat) (A : Option Addr) (ds : List UInt8), out = .slice A m c ∧ m = ds.length ∧ Reads wr wr.heap.size 1 A m (u8s ds) ∧ digs u ++ ds = digs N ∧ Below w.heap.size w wr

theorem dec_step {N u c : Nat} {A : Option Addr} {ds : List UInt8} {w wr w1 : World} {v' x : Value} {row : Option Nat} {e : TypeId} (hb : Below w.heap.size w wr) (hd : digs (u / 10) ++ (UInt8.ofNat (48 + u % 10) :: ds) = digs N)
    (hx : x = .int .u8 (48 + (u : Int) % 10)) (hown : w1.ownsRow w.heap.size e 1 v' (1 + ds.length) ([x] ++ u8s ds)) (hg : (wr.alloc (.cells #[x] e)).grownBy w1 row) (hr : ∀ k, row = some k → w.heap.size ≤ k) (_hc : c = c) (_hA : A = A) :
    DecLoop N w (u / 10) v' w1 := by
  subst hx
  obtain ⟨g, cap, rfl⟩ := Joins.ownsRow_form hown (by omega)
  refine ⟨1 + ds.length, cap, some ⟨g, 0, none⟩, UInt8.ofNat (48 + u % 10) :: ds, rfl, by simp; omega, ?_, hd, (hb.alloc hb.size _).grown hg (by have := hb.size; simp; omega) hr⟩
  have h := Reads.of_own hown
  have e1 : (48 + (u : Int) % 10) = ((UInt8.ofNat (48 + u % 10)).toNat : Int) := by rw [digit_nat]; omega
  rw [e1] at h
  exact h
theorem itoa_zero : Lib.itoa ((0 : Nat) : Int) = [48] := by
  unfold Lib.itoa
  rw [if_neg (by omega), show ((0 : Nat) : Int).toNat = 0 from rfl, Lib.decDigits_one (by omega)]; rfl
theorem conv_reads {w : World} {A : Option Addr} {c : Nat} {ds : List UInt8} (hr : Reads w w.heap.size 1 A ds.length (u8s ds)) (h0 : 0 < ds.length) :
    ∃ ad, A = some ad ∧ (convert 58 9 (.slice (some ad) ds.length c)).run Tryd.prog w = .ok (.string ⟨ds.toArray⟩) w := by
  obtain ⟨ad, e, _, hc⟩ := hr.2 h0
  refine ⟨ad, e, run_convert_bytes_back w 58 9 5 ad c ds Tryd.underlying58 Tryd.underlying5 Tryd.underlying9 (fun j hj => hc j _ ?_)⟩
  simp [u8s, hj]

set_option maxRecDepth 100000 in
set_option maxHeartbeats 1600000 in
theorem l01Dec_pos (n : Nat) (w : World) (h1 : n ≤ 9223372036854775807) :
    Calls Tryd.prog 49 #[.int .i64 n] w fun e w' => e = .returned (.string ⟨(Lib.itoa n).toArray⟩) ∧ Below w.heap.size w w' := by
  obtain ⟨i0, hi0, hz0, hz1, hz2⟩ := info_parts u8_info
  have hN : (digs n).length ≤ 19 := digs_length 19 n (by omega)
  go_enter Tryd.func49, Tryd.ntmps49
  go_wp2
  go_loopw [3, 4, 5] (fun out k _ wr => ∃ u : Nat, u ≤ 9223372036854775807 ∧ k = .int .i64 u ∧ DecLoop n w u out wr) (fun _ k _ _ => (intOf k).toNat)
  case atStart => exact ⟨n, h1, rfl, 0, 0, some ⟨w.heap.size, 0, none⟩, [], rfl, rfl, ⟨rfl, fun h => absurd h (by omega)⟩, by simp, (Below.refl _ _).alloc (Nat.le_refl _) _⟩
  case round =>
    obtain ⟨u, hu, rfl, m, c, A, ds, rfl, rfl, hr, hd, hb⟩ := hrel
    have hl : ds.length ≤ 19 := by
      have := congrArg List.length hd
      rw [List.length_append] at this
      omega
    by_cases h0 : 0 < u
    · have hne : ((u : Int) != 0) = true := by rw [bne_iff_ne]; omega
      have hs := digs_step u h0
      have HD := Lib.hid (show digs (u / 10) ++ (UInt8.ofNat (48 + u % 10) :: ds) = digs n by rw [← hd, hs, List.append_assoc]; rfl)
      have dn := Lib.hid (digit_nat u)
      have hm1 : (0 : Int) ≤ (u : Int) % 10 := by omega
      have hm2 : (u : Int) % 10 < 10 := by omega
      clear hs hd
      have hbs := hb.size
      go_wp2_with (at_builtin
                   refine wpList_append_any _ rfl (.tmp 21) (.tmp 22) _ rfl w.heap.size 5 i0 _ 1 1 Tryd.underlying58 hi0 hz0 hz1 hz2 rfl (by omega) (.slice (some ⟨wr.heap.size, 0, none⟩) 1 1) 1 _ rfl (own1 wr w.heap.size _ _ hbs) wr.heap.size A ds.length c (u8s ds) rfl (hr.alloc (Nat.le_refl _) _) (by intro v hv; simp [u8s] at hv; obtain ⟨b, _, rfl⟩ := hv; rfl) (by unfold maxLen; omega) (by omega) (by simp; omega) ?_
                   intro v' w1 hown1 hg1 hat1)
      go_roundw
      case rel => exact ⟨u / 10, by omega, by go_num, dec_step (c := c) (A := A) hb HD.out rfl hown1 hg1 (by intro k hk; simp [Value.ownBlock] at hk; omega) rfl rfl⟩
      case measure => simp [intOf]; omega
    · obtain rfl : u = 0 := by omega
      have hd2 : ds = digs n := by simpa [digs] using hd
      clear hd
      by_cases hn : n = 0
      · subst hn
        obtain rfl : ds = [] := hd2
        have HI := Lib.hid itoa_zero
        go_wp2
        go_ret
        exact ⟨by rw [HI.out]; rfl, hb⟩
      · have hnp : (0 : Int) < (n : Int) := by omega
        have hlen : 0 < ds.length := by rw [hd2, digs_step n (by omega)]; simp
        have hit : Lib.itoa (n : Int) = ds := by rw [hd2]; unfold Lib.itoa digs; rw [if_neg (by omega), if_neg hn]; rfl
        have HI := Lib.hid hit
        clear hit hd2
        have hl0 : ((ds.length : Int) == 0) = false := beq_eq_false_iff_ne.2 (by omega)
        obtain ⟨ad, rfl, hcv⟩ := conv_reads (c := c) hr hlen
        go_wp2
        go_ret
        exact ⟨by rw [HI.out]; rfl, hb⟩

set_option maxRecDepth 100000 in
set_option maxHeartbeats 1600000 in
theorem l01Dec_neg (n : Nat) (w : World) (h1 : n ≤ 9223372036854775808) (hn1 : 1 ≤ n) :
    Calls Tryd.prog 49 #[.int .i64 (-(n : Int))] w fun e w' => e = .returned (.string ⟨(Lib.itoa (-(n : Int))).toArray⟩) ∧ Below w.heap.size w w' := by
  obtain ⟨i0, hi0, hz0, hz1, hz2⟩ := info_parts u8_info
  have hN : (digs n).length ≤ 19 := digs_length 19 n (by omega)
  go_enter Tryd.func49, Tryd.ntmps49
  go_wp2
  go_loopw [3, 4, 5] (fun out k _ wr => ∃ u : Nat, u ≤ 9223372036854775808 ∧ k = .int .i64 (-(u : Int)) ∧ DecLoop n w u out wr) (fun _ k _ _ => (intOf k).natAbs)
  case atStart => exact ⟨n, h1, rfl, 0, 0, some ⟨w.heap.size, 0, none⟩, [], rfl, rfl, ⟨rfl, fun h => absurd h (by omega)⟩, by simp, (Below.refl _ _).alloc (Nat.le_refl _) _⟩
  case round =>
    obtain ⟨u, hu, rfl, m, c, A, ds, rfl, rfl, hr, hd, hb⟩ := hrel
    have hl : ds.length ≤ 19 := by
      have := congrArg List.length hd
      rw [List.length_append] at this
      omega
    by_cases h0 : 0 < u
    · have hne : (-(u : Int) != 0) = true := by rw [bne_iff_ne]; omega
      have ht1 : (-(u : Int)).tmod 10 = -((u : Int) % 10) := by rw [Int.neg_tmod, Int.tmod_eq_emod_of_nonneg (by omega)]
      have ht2 : (-(u : Int)).tdiv 10 = -((u : Int) / 10) := by rw [Int.neg_tdiv, Int.tdiv_eq_ediv_of_nonneg (by omega)]
      have hs := digs_step u h0
      have HD := Lib.hid (show digs (u / 10) ++ (UInt8.ofNat (48 + u % 10) :: ds) = digs n by rw [← hd, hs, List.append_assoc]; rfl)
      have dn := Lib.hid (digit_nat u)
      have hm1 : (0 : Int) ≤ (u : Int) % 10 := by omega
      have hm2 : (u : Int) % 10 < 10 := by omega
      clear hs hd
      have hbs := hb.size
      by_cases hz : (u : Int) % 10 = 0
      · have hq1 : decide (-((u : Int) % 10) < 0) = false := by simp; omega
        have hq2 : -((u : Int) % 10) = (u : Int) % 10 := by omega
        have hq3 : (0 : Int) ≤ -((u : Int) % 10) := by omega
        clear hz
        go_wp2_with (at_builtin
                     refine wpList_append_any _ rfl (.tmp 21) (.tmp 22) _ rfl w.heap.size 5 i0 _ 1 1 Tryd.underlying58 hi0 hz0 hz1 hz2 rfl (by omega) (.slice (some ⟨wr.heap.size, 0, none⟩) 1 1) 1 _ rfl (own1 wr w.heap.size _ _ hbs) wr.heap.size A ds.length c (u8s ds) rfl (hr.alloc (Nat.le_refl _) _) (by intro v hv; simp [u8s] at hv; obtain ⟨b, _, rfl⟩ := hv; rfl) (by unfold maxLen; omega) (by omega) (by simp; omega) ?_
                     intro v' w1 hown1 hg1 hat1)
        go_roundw
        case rel => exact ⟨u / 10, by omega, by go_num, dec_step (c := c) (A := A) hb HD.out rfl hown1 hg1 (by intro k hk; simp [Value.ownBlock] at hk; omega) rfl rfl⟩
        case measure => simp [intOf]; omega
      · have hq1 : -((u : Int) % 10) < 0 := by omega
        clear hz
        go_wp2_with (at_builtin
                     refine wpList_append_any _ rfl (.tmp 21) (.tmp 22) _ rfl w.heap.size 5 i0 _ 1 1 Tryd.underlying58 hi0 hz0 hz1 hz2 rfl (by omega) (.slice (some ⟨wr.heap.size, 0, none⟩) 1 1) 1 _ rfl (own1 wr w.heap.size _ _ hbs) wr.heap.size A ds.length c (u8s ds) rfl (hr.alloc (Nat.le_refl _) _) (by intro v hv; simp [u8s] at hv; obtain ⟨b, _, rfl⟩ := hv; rfl) (by unfold maxLen; omega) (by omega) (by simp; omega) ?_
                     intro v' w1 hown1 hg1 hat1)
        go_roundw
        case rel => exact ⟨u / 10, by omega, by go_num, dec_step (c := c) (A := A) hb HD.out rfl hown1 hg1 (by intro k hk; simp [Value.ownBlock] at hk; omega) rfl rfl⟩
        case measure => simp [intOf]; omega
    · obtain rfl : u = 0 := by omega
      have hd2 : ds = digs n := by simpa [digs] using hd
      clear hd
      · have hnp : (0 : Int) < (n : Int) := by omega
        have hn : ¬ n = 0 := by omega
        have hlen : 0 < ds.length := by rw [hd2, digs_step n (by omega)]; simp
        have hit : Lib.itoa (-(n : Int)) = 45 :: ds := by rw [hd2]; unfold Lib.itoa digs; rw [if_pos (by omega), if_neg hn]; simp
        have HI := Lib.hid hit
        clear hit hd2
        have hl0 : ((ds.length : Int) == 0) = false := beq_eq_false_iff_ne.2 (by omega)
        obtain ⟨ad, rfl, hcv⟩ := conv_reads (c := c) hr hlen
        go_wp2
        go_ret
        exact ⟨by rw [HI.out]; rfl, hb⟩

end Go.Proofs.YtonoldjhfhngfaaDoor
