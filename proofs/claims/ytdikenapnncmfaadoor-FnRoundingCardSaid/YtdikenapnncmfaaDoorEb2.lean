/- The law on rounding: the walk. -/
import Derived.Test.YtdikenapnncmfaaDoorEa2
import Derived.Test.YtdikenapnncmfaaDoorEa3
import Derived.Test.YtdikenapnncmfaaDoorEb1
namespace Go.Proofs.YtdikenapnncmfaaDoor
open Go.RowKit
set_option linter.unusedVariables false
theorem Rp_pix {v n : Int} {b : Bool} (hv : -300000 ≤ v ∧ v ≤ 300000) (h : Pix.Rp (Pix.pxT v) n b) : n = v ∧ b = true := by
  have hp : Pix.ptI v := by unfold Pix.ptI; omega
  rcases h with ⟨h1, h2, h3⟩ | ⟨h1, h2, h3⟩
  · exact ⟨Pix.pxT_inj h2 hp h3, h1⟩
  · exact absurd rfl (h3 v hp)
theorem px_short {v : Int} (hv : -300000 ≤ v ∧ v ≤ 300000) : (Pix.pxT v).size ≤ 1048576 := by
  have hB : ∀ a : Int, 0 ≤ a → a ≤ 300000 → (Pix.pxB a).size ≤ 100 := fun a h0 h1 => by
    unfold Pix.pxB
    have e1 := Pix.dcB_size (n := a / 64) (by omega)
    have e2 := Pix.dcB_size (n := a % 64 / 10) (by omega)
    have e3 := Pix.dcB_size (n := a % 64 % 10) (by omega)
    simp only [ByteArray.size_append]
    have e4 : (⟨#[58]⟩ : ByteArray).size = 1 := rfl
    omega
  unfold Pix.pxT
  split
  · split
    · have h := hB (-v) (by omega) (by omega)
      rw [ByteArray.size_append]
      have e4 : (⟨#[45]⟩ : ByteArray).size = 1 := rfl
      omega
    · have h := hB v (by omega) (by omega)
      omega
  · exact Nat.zero_le _
theorem sc_yes {v s u : Int} (h : scI v s u) : scC v s u = 0 ∧ scT v s u = near (v * s * 64) u ∧ scK v s u = near (v * u) (s * 64) := by
  unfold scC scT scK; rw [if_pos h, if_pos h, if_pos h]; exact ⟨rfl, rfl, rfl⟩
theorem sc_no {v s u : Int} (h : ¬ scI v s u) : scC v s u = 2 := by unfold scC; rw [if_neg h]
theorem t_in {v S U : Int} (hv : -262144 ≤ v ∧ v ≤ 262144) (hS : 1 ≤ S ∧ S ≤ 128) (hU : 16 ≤ U ∧ U ≤ 16384) : -3000000000 ≤ near (v * S * 64) U ∧ near (v * S * 64) U ≤ 3000000000 := by
  have h1 := sc_b1 hv hS
  have h2 := near_bounds (p := v * S * 64) (d := U) (by omega)
  generalize near (v * S * 64) U = T at *
  generalize v * S = P at *
  constructor
  · rcases Int.lt_or_le T (-3000000000) with h | h
    · exfalso
      have : U * T ≤ 1 * T := Int.mul_le_mul_of_nonpos_right (by omega) (by omega)
      omega
    · exact h
  · rcases Int.lt_or_le 3000000000 T with h | h
    · exfalso
      have : 1 * T ≤ U * T := Int.mul_le_mul_of_nonneg_right (by omega) (by omega)
      omega
    · exact h
theorem i64w {n : Int} (h : -9223372036854775808 ≤ n ∧ n ≤ 9223372036854775807) : IntKind.i64.wrap n = n := IntWalk.i64_in _ h
set_option maxRecDepth 100000 in
set_option maxHeartbeats 25600000 in
theorem walk_Rounding (A B : Option Addr) (n c m d : Nat) (w : World) (rA : CodeR A n w w.heap.size) (rB : CodeR B m w w.heap.size) (hN : Nam.TabN Nam.stNm 0 w) (hT : Pix.Tabs w) (hM : Pix.MaxIs w) :
    Calls Tryd.prog 3 #[.slice A n c, .slice B m d] w fun e w' => e = .returned (.bool true) ∧ Below w.heap.size w w' := by
  have CL := Lib.hid (fun w => e8Long_any A B n c m d w)
  by_cases hlong : 1048576 < n ∨ 1048576 < m
  case pos =>
    clear rA rB hN hT hM
    go_enter Tryd.func3, Tryd.ntmps3
    go_wp2_with fail
    refine (CL.out _).mono ?_
    rw [decide_eq_true hlong]
    rintro e w0 ⟨rfl, rfl⟩
    go_wp2_with fail
    refine bodyPost_ret (v := .bool true) (by simp [results, Tryd.results3, go_sem]) rfl ⟨rfl, Below.refl _ _⟩
  case neg =>
    have hnn : n ≤ 1048576 := by omega
    have hmm : m ≤ 1048576 := by omega
    have CE := Lib.hid (e8Points_any A n c w hnn rA)
    have CA0 := Lib.hid (fun (w1 : World) (hb : Below w.heap.size w w1) => show Calls Tryd.prog 8 #[.slice B m d, .int .i64 0, .int .i64 6] w1 fun e w' => ∃ v : Int, e = .returned (.int .i64 v) ∧ (0 ≤ v ∧ v < 6) ∧ w1 = w' from e8At_any B m d 0 6 w1 hmm (by omega) ((rB.keep fun p hp => hb.cell hp).more hb.size))
    have CA1 := Lib.hid (fun (w1 : World) (hb : Below w.heap.size w w1) => show Calls Tryd.prog 8 #[.slice B m d, .int .i64 1, .int .i64 100] w1 fun e w' => ∃ v : Int, e = .returned (.int .i64 v) ∧ (0 ≤ v ∧ v < 100) ∧ w1 = w' from e8At_any B m d 1 100 w1 hmm (by omega) ((rB.keep fun p hp => hb.cell hp).more hb.size))
    have CA2 := Lib.hid (fun (w1 : World) (hb : Below w.heap.size w w1) => show Calls Tryd.prog 8 #[.slice B m d, .int .i64 2, .int .i64 128] w1 fun e w' => ∃ v : Int, e = .returned (.int .i64 v) ∧ (0 ≤ v ∧ v < 128) ∧ w1 = w' from e8At_any B m d 2 128 w1 hmm (by omega) ((rB.keep fun p hp => hb.cell hp).more hb.size))
    have CA3 := Lib.hid (fun (w1 : World) (hb : Below w.heap.size w w1) => show Calls Tryd.prog 8 #[.slice B m d, .int .i64 3, .int .i64 250] w1 fun e w' => ∃ v : Int, e = .returned (.int .i64 v) ∧ (0 ≤ v ∧ v < 250) ∧ w1 = w' from e8At_any B m d 3 250 w1 hmm (by omega) ((rB.keep fun p hp => hb.cell hp).more hb.size))
    have HNM := Lib.hid (fun (w1 : World) (hb : Below w.heap.size w w1) => Nam.TabN.below hN hb)
    have HTB := Lib.hid (fun (w1 : World) (hb : Below w.heap.size w w1) => Pix.Tabs.stay hT hb)
    have HMX := Lib.hid (fun (w1 : World) (hb : Below w.heap.size w w1) => Pix.MaxIs.stay hM hb)
    clear rA rB hN hT hM hnn hmm
    go_enter Tryd.func3, Tryd.ntmps3
    go_wp2_with fail
    refine (CL.out _).mono ?_
    rw [decide_eq_false hlong]
    rintro e w0 ⟨rfl, rfl⟩
    clear CL hlong
    go_wp2_with fail
    refine CE.out.mono ?_
    rintro e w1 ⟨x1, y1, x2, y2, x3, y3, x4, y4, rfl, hin, hb1⟩
    unfold ptV
    unfold inC at hin
    obtain ⟨⟨x1l, x1h⟩, ⟨y1l, y1h⟩, ⟨x2l, x2h⟩, ⟨y2l, y2h⟩⟩ := hin
    clear CE
    go_wp2_with fail
    generalize hV : World.alloc (World.alloc (World.alloc (World.alloc w1 _) _) _) _ = V
    have K := Lib.hid (show Blk V w1.heap.size 25 #[.int .i64 x1, .int .i64 y1] ∧ Blk V (w1.heap.size + 1) 25 #[.int .i64 x2, .int .i64 y2] ∧ Below w.heap.size w V by rw [← hV]; exact ⟨Blk.alloc (Blk.alloc (Blk.alloc (Blk.new _ _ _) _) _) _, Blk.alloc (Blk.alloc (Blk.newAt _ _ _ (by simp)) _) _, (((hb1.alloc hb1.size _).alloc (by have := hb1.size; simp; omega) _).alloc (by have := hb1.size; simp; omega) _).alloc (by have := hb1.size; simp; omega) _⟩)
    clear hV hb1
    refine (CA0.out V K.out.2.2).mono ?_
    rintro e v0 ⟨st, rfl, ⟨st0, st1⟩, rfl⟩
    clear CA0
    have y0V : V.cell? ⟨w1.heap.size, 0, none⟩ = some (.int .i64 x1) := K.out.1.cell 0 rfl
    have y1V : V.cell? ⟨w1.heap.size, 1, none⟩ = some (.int .i64 y1) := K.out.1.cell 1 rfl
    have y2V : V.cell? ⟨w1.heap.size + 1, 0, none⟩ = some (.int .i64 x2) := K.out.2.1.cell 0 rfl
    obtain ⟨X, hX⟩ : ∃ X, X = rdI x1 st := ⟨_, rfl⟩
    obtain ⟨Y, hY⟩ : ∃ Y, Y = rdI x2 st := ⟨_, rfl⟩
    have hXn := rd_near (v := x1) (s := st)
    rw [← hX] at hXn
    obtain ⟨hXn1, hXn2⟩ := hXn
    have hYn := rd_near (v := x2) (s := st)
    rw [← hY] at hYn
    obtain ⟨hYn1, hYn2⟩ := hYn
    have CX := Lib.hid (show ∀ w, Calls Tryd.prog 9 #[.int .i64 x1, .int .i64 st] w fun e w' => e = .returned (.int .i64 X) ∧ Below w.heap.size w w' from fun w => by have h := implRoundTo_any x1 st w (by omega) (by omega); rw [rt_is (by omega), ← hX] at h; exact h)
    have CY := Lib.hid (show ∀ w, Calls Tryd.prog 9 #[.int .i64 x2, .int .i64 st] w fun e w' => e = .returned (.int .i64 Y) ∧ Below w.heap.size w w' from fun w => by have h := implRoundTo_any x2 st w (by omega) (by omega); rw [rt_is (by omega), ← hY] at h; exact h)
    have CXX := Lib.hid (show ∀ w, Calls Tryd.prog 9 #[.int .i64 X, .int .i64 st] w fun e w' => e = .returned (.int .i64 X) ∧ Below w.heap.size w w' from fun w => by have h := implRoundTo_any X st w (by omega) (by omega); rw [rt_is (by omega), show rdI X st = X by rw [hX]; exact rd_twice] at h; exact h)
    have HX := Lib.hid hX
    have HY := Lib.hid hY
    clear hX hY
    go_wp2_with fail
    refine (CX.out _).mono ?_
    rintro e w2 ⟨rfl, hb⟩
    have K2 := Lib.hid (And.intro (K.out.1.carry hb) (And.intro (K.out.2.1.carry hb) (K.out.2.2.trans (hb.mono K.out.2.2.size))))
    clear y0V y1V y2V
    have y0w2 : w2.cell? ⟨w1.heap.size, 0, none⟩ = some (.int .i64 x1) := K2.out.1.cell 0 rfl
    have y1w2 : w2.cell? ⟨w1.heap.size, 1, none⟩ = some (.int .i64 y1) := K2.out.1.cell 1 rfl
    have y2w2 : w2.cell? ⟨w1.heap.size + 1, 0, none⟩ = some (.int .i64 x2) := K2.out.2.1.cell 0 rfl
    clear hb
    go_wp2_with fail
    refine (CY.out _).mono ?_
    rintro e w3 ⟨rfl, hb⟩
    have K3 := Lib.hid (And.intro (K2.out.1.carry hb) (And.intro (K2.out.2.1.carry hb) (K2.out.2.2.trans (hb.mono K2.out.2.2.size))))
    clear y0w2 y1w2 y2w2
    have y0w3 : w3.cell? ⟨w1.heap.size, 0, none⟩ = some (.int .i64 x1) := K3.out.1.cell 0 rfl
    have y1w3 : w3.cell? ⟨w1.heap.size, 1, none⟩ = some (.int .i64 y1) := K3.out.1.cell 1 rfl
    have y2w3 : w3.cell? ⟨w1.heap.size + 1, 0, none⟩ = some (.int .i64 x2) := K3.out.2.1.cell 0 rfl
    clear hb
    go_wp2_with fail
    refine (CXX.out _).mono ?_
    rintro e w4 ⟨rfl, hb⟩
    have K4 := Lib.hid (And.intro (K3.out.1.carry hb) (And.intro (K3.out.2.1.carry hb) (K3.out.2.2.trans (hb.mono K3.out.2.2.size))))
    clear y0w3 y1w3 y2w3
    have y0w4 : w4.cell? ⟨w1.heap.size, 0, none⟩ = some (.int .i64 x1) := K4.out.1.cell 0 rfl
    have y1w4 : w4.cell? ⟨w1.heap.size, 1, none⟩ = some (.int .i64 y1) := K4.out.1.cell 1 rfl
    have y2w4 : w4.cell? ⟨w1.heap.size + 1, 0, none⟩ = some (.int .i64 x2) := K4.out.2.1.cell 0 rfl
    clear hb
    clear CX CY CXX K K2 K3
    have e1 : (X != X) = false := by simp
    have hw1 : IntKind.i64.wrap (X - x1) = X - x1 := i64w (by omega)
    have hw2 : IntKind.i64.wrap (x1 - X) = x1 - X := i64w (by omega)
    have d3 : decide (64 ≤ X - x1) = false := decide_eq_false (by omega)
    have d4 : decide (64 ≤ x1 - X) = false := decide_eq_false (by omega)
    have e5 : (st != st) = false := by simp
    have CN := Lib.hid (fun (w9 : World) (hb : Below w.heap.size w w9) => Nam.implStateName_any st w9 (HNM.out w9 hb))
    have CM := Lib.hid (show ∀ (w9 : World) (hb : Below w.heap.size w w9), Calls Tryd.prog 10 #[.string (Nam.nmAt Nam.stNm st)] w9 fun e w' => e = .returned (.int .i64 st) ∧ Below w9.heap.size w9 w' from fun w9 hb => by have h := Nam.implStateNamed_any (Nam.nmAt Nam.stNm st) w9 (HNM.out w9 hb); rw [st_name ⟨st0, st1⟩] at h; exact h)
    generalize Nam.nmAt Nam.stNm st = nm at CN CM
    by_cases q : x1 ≤ x2
    case pos =>
      have hXY : X ≤ Y := by rw [HX.out, HY.out]; exact rd_mono q
      have d1 : decide (x1 ≤ x2) = true := decide_eq_true q
      have d2 : decide (Y < X) = false := decide_eq_false (by omega)
      clear q hXY
      go_wp2_with fail
      refine (CN.out _ K4.out.2.2).mono ?_
      rintro e w5 ⟨rfl, hb⟩
      have K5 := Lib.hid (And.intro (K4.out.1.carry hb) (And.intro (K4.out.2.1.carry hb) (K4.out.2.2.trans (hb.mono K4.out.2.2.size))))
      clear y0w4 y1w4 y2w4
      have y0w5 : w5.cell? ⟨w1.heap.size, 0, none⟩ = some (.int .i64 x1) := K5.out.1.cell 0 rfl
      have y1w5 : w5.cell? ⟨w1.heap.size, 1, none⟩ = some (.int .i64 y1) := K5.out.1.cell 1 rfl
      have y2w5 : w5.cell? ⟨w1.heap.size + 1, 0, none⟩ = some (.int .i64 x2) := K5.out.2.1.cell 0 rfl
      clear hb
      go_wp2_with fail
      refine (CM.out _ K5.out.2.2).mono ?_
      rintro e w6 ⟨rfl, hb⟩
      have K6 := Lib.hid (And.intro (K5.out.1.carry hb) (And.intro (K5.out.2.1.carry hb) (K5.out.2.2.trans (hb.mono K5.out.2.2.size))))
      clear y0w5 y1w5 y2w5
      have y0w6 : w6.cell? ⟨w1.heap.size, 0, none⟩ = some (.int .i64 x1) := K6.out.1.cell 0 rfl
      have y1w6 : w6.cell? ⟨w1.heap.size, 1, none⟩ = some (.int .i64 y1) := K6.out.1.cell 1 rfl
      have y2w6 : w6.cell? ⟨w1.heap.size + 1, 0, none⟩ = some (.int .i64 x2) := K6.out.2.1.cell 0 rfl
      clear hb
      clear CN CM K4 K5
      go_wp2_with fail
      refine (CA1.out w6 K6.out.2.2).mono ?_
      rintro e v1 ⟨l, rfl, ⟨l0, l1⟩, rfl⟩
      clear CA1
      obtain ⟨KV, hKV⟩ : ∃ k, k = kpI x1 st l := ⟨_, rfl⟩
      have hkin := kp_in (v := x1) (s := st) (l := l) (by omega) (by omega)
      rw [← hKV] at hkin
      obtain ⟨hk1, hk2⟩ := hkin
      have hkl := kp_least (v := x1) (s := st) (l := l) (by omega) (by omega)
      rw [← hKV] at hkl
      have CK := Lib.hid (show ∀ w, Calls Tryd.prog 12 #[.int .i64 x1, .int .i64 st, .int .i64 l] w fun e w' => e = .returned (.int .i64 KV) ∧ Below w.heap.size w w' from fun w => by have h := implKeepRound_any x1 st l w (by omega) (by omega) (by omega); rw [← hKV] at h; exact h)
      have CKn := Lib.hid (show 0 < x1 → ∀ w, Calls Tryd.prog 12 #[.int .i64 (-x1), .int .i64 st, .int .i64 l] w fun e w' => e = .returned (.int .i64 (-KV)) ∧ Below w.heap.size w w' from fun h0 w => by have h := implKeepRound_any (-x1) st l w (by omega) (by omega) (by omega); rw [show kpI (-x1) st l = -KV by rw [hKV, kp_neg (by omega) (by omega) h0]; simp] at h; exact h)
      clear hKV
      have hwn : IntKind.i64.wrap (-x1) = -x1 := i64w (by omega)
      have hwk : IntKind.i64.wrap (- -KV) = KV := (i64w (by omega)).trans (Int.neg_neg _)
      have hwk2 : IntKind.i64.wrap KV = KV := i64w (by omega)
      have hwl : IntKind.i64.wrap (-l) = -l := i64w (by omega)
      have e6 : (KV != KV) = false := by simp
      have hnn : - -KV = KV := Int.neg_neg _
      go_wp2_with fail
      refine (CK.out _).mono ?_
      rintro e w7 ⟨rfl, hb⟩
      have K7 := Lib.hid (And.intro (K6.out.1.carry hb) (And.intro (K6.out.2.1.carry hb) (K6.out.2.2.trans (hb.mono K6.out.2.2.size))))
      clear y0w6 y1w6 y2w6
      have y0w7 : w7.cell? ⟨w1.heap.size, 0, none⟩ = some (.int .i64 x1) := K7.out.1.cell 0 rfl
      have y1w7 : w7.cell? ⟨w1.heap.size, 1, none⟩ = some (.int .i64 y1) := K7.out.1.cell 1 rfl
      have y2w7 : w7.cell? ⟨w1.heap.size + 1, 0, none⟩ = some (.int .i64 x2) := K7.out.2.1.cell 0 rfl
      clear hb
      clear CK K6
      by_cases q0 : 0 < x1
      case pos =>
        have d6 : decide (0 < x1) = true := decide_eq_true q0
        have CK2 := Lib.hid (CKn.out q0)
        clear CKn
        go_wp2_with fail
        refine (CK2.out _).mono ?_
        rintro e w8 ⟨rfl, hb⟩
        have K8 := Lib.hid (And.intro (K7.out.1.carry hb) (And.intro (K7.out.2.1.carry hb) (K7.out.2.2.trans (hb.mono K7.out.2.2.size))))
        clear y0w7 y1w7 y2w7
        have y0w8 : w8.cell? ⟨w1.heap.size, 0, none⟩ = some (.int .i64 x1) := K8.out.1.cell 0 rfl
        have y1w8 : w8.cell? ⟨w1.heap.size, 1, none⟩ = some (.int .i64 y1) := K8.out.1.cell 1 rfl
        have y2w8 : w8.cell? ⟨w1.heap.size + 1, 0, none⟩ = some (.int .i64 x2) := K8.out.2.1.cell 0 rfl
        clear hb
        clear CK2 K7
        by_cases q1 : KV < l
        case pos =>
          have d7 : decide (KV < l) = true := decide_eq_true q1
          have d8 : decide (-l < KV) = false := decide_eq_false (by omega)
          clear q1 hkl
          go_wp2_with fail
          have CP := Lib.hid (fun (w9 : World) (hb : Below w.heap.size w w9) => Pix.implPixelsText_any x1 w9 (by omega) (HTB.out w9 hb).1)
          have CQ := Lib.hid (fun (w9 : World) (hb : Below w.heap.size w w9) => Pix.implReadPixels_any (Pix.pxT x1) w9 (px_short (by omega)) (HTB.out w9 hb) (HMX.out w9 hb))
          have HRP := Lib.hid (fun (n9 : Int) (b9 : Bool) (h : Pix.Rp (Pix.pxT x1) n9 b9) => Rp_pix (v := x1) (by omega) h)
          generalize Pix.pxT x1 = tx at CP CQ HRP
          refine (CP.out _ K8.out.2.2).mono ?_
          rintro e wa ⟨rfl, hb⟩
          have Ka := Lib.hid (And.intro (K8.out.1.carry hb) (And.intro (K8.out.2.1.carry hb) (K8.out.2.2.trans (hb.mono K8.out.2.2.size))))
          clear y0w8 y1w8 y2w8
          have y0wa : wa.cell? ⟨w1.heap.size, 0, none⟩ = some (.int .i64 x1) := Ka.out.1.cell 0 rfl
          have y1wa : wa.cell? ⟨w1.heap.size, 1, none⟩ = some (.int .i64 y1) := Ka.out.1.cell 1 rfl
          have y2wa : wa.cell? ⟨w1.heap.size + 1, 0, none⟩ = some (.int .i64 x2) := Ka.out.2.1.cell 0 rfl
          clear hb
          go_wp2_with fail
          refine (CQ.out _ Ka.out.2.2).mono ?_
          rintro e wb ⟨n9, b9, rfl, hrp, hb⟩
          have Kb := Lib.hid (And.intro (Ka.out.1.carry hb) (And.intro (Ka.out.2.1.carry hb) (Ka.out.2.2.trans (hb.mono Ka.out.2.2.size))))
          clear y0wa y1wa y2wa
          have y0wb : wb.cell? ⟨w1.heap.size, 0, none⟩ = some (.int .i64 x1) := Kb.out.1.cell 0 rfl
          have y1wb : wb.cell? ⟨w1.heap.size, 1, none⟩ = some (.int .i64 y1) := Kb.out.1.cell 1 rfl
          have y2wb : wb.cell? ⟨w1.heap.size + 1, 0, none⟩ = some (.int .i64 x2) := Kb.out.2.1.cell 0 rfl
          clear hb
          obtain ⟨h9, rfl⟩ := HRP.out _ _ hrp
          have h8 : x1 = n9 := h9.symm
          subst h8
          clear CP CQ HRP hrp Ka K8
          go_wp2_with fail
          refine (CA2.out wb Kb.out.2.2).mono ?_
          rintro e v2 ⟨s2, rfl, ⟨s20, s21⟩, rfl⟩
          clear CA2
          have hws : IntKind.i64.wrap (1 + s2) = 1 + s2 := i64w (by omega)
          go_wp2_with fail
          refine (CA3.out wb Kb.out.2.2).mono ?_
          rintro e v3 ⟨u2, rfl, ⟨u20, u21⟩, rfl⟩
          clear CA3
          have hwu : IntKind.i64.wrap (64 * u2) = 64 * u2 := i64w (by omega)
          have hwu2 : IntKind.i64.wrap (16 + 64 * u2) = 16 + 64 * u2 := i64w (by omega)
          have t1 := Int.lt_tmod_of_pos y1 (show 0 < (1000 : Int) by omega)
          have t2 := Int.tmod_lt_of_pos y1 (show 0 < (1000 : Int) by omega)
          have hwt : IntKind.i64.wrap (y1.tmod 1000) = y1.tmod 1000 := i64w (by omega)
          go_wp2_with fail
          generalize hv : y1.tmod 1000 = v at *
          obtain ⟨S, hS⟩ : ∃ S, S = 1 + s2 := ⟨_, rfl⟩
          obtain ⟨U, hU⟩ : ∃ U, U = 16 + 64 * u2 := ⟨_, rfl⟩
          rw [← hS, ← hU]
          have hS1 : 1 ≤ S ∧ S ≤ 128 := by omega
          have hU1 : 16 ≤ U ∧ U ≤ 16384 := by omega
          have hwS : IntKind.i64.wrap (S * 64) = S * 64 := i64w (by omega)
          have hsc : scI v S U := ⟨⟨by omega, by omega⟩, hS1.1, hS1.2, hU1.1, hU1.2⟩
          obtain ⟨h1, h2, -⟩ := sc_yes hsc
          have C1 := Lib.hid (fun w => implScaleTo_any v S U w (by omega) (by omega) (by omega))
          rw [h1, h2] at C1
          obtain ⟨T, hT⟩ : ∃ T, T = near (v * S * 64) U := ⟨_, rfl⟩
          rw [← hT] at C1
          have hTb := t_in (v := v) (S := S) (U := U) (by omega) hS1 hU1
          rw [← hT] at hTb
          have C2 := Lib.hid (fun w => implScaleBack_any T S U w (by omega) (by omega) (by omega))
          have hback : U ≤ S * 64 → near (T * U) (S * 64) = v := fun hle => by rw [hT, Int.mul_assoc]; exact back_is (by omega) (by omega) hle
          have hkk := fun hs : scI T S U => (sc_yes hs).2.2
          have hcc := fun hs : scI T S U => (sc_yes hs).1
          have hno := fun hs : ¬ scI T S U => sc_no hs
          clear h1 h2 hT hsc hS hU
          refine (C1.out _).mono ?_
          rintro e wc ⟨rfl, hb⟩
          have Kc := Lib.hid (And.intro (Kb.out.1.carry hb) (And.intro (Kb.out.2.1.carry hb) (Kb.out.2.2.trans (hb.mono Kb.out.2.2.size))))
          clear y0wb y1wb y2wb
          have y0wc : wc.cell? ⟨w1.heap.size, 0, none⟩ = some (.int .i64 x1) := Kc.out.1.cell 0 rfl
          have y1wc : wc.cell? ⟨w1.heap.size, 1, none⟩ = some (.int .i64 y1) := Kc.out.1.cell 1 rfl
          have y2wc : wc.cell? ⟨w1.heap.size + 1, 0, none⟩ = some (.int .i64 x2) := Kc.out.2.1.cell 0 rfl
          clear hb
          clear Kb C1
          go_wp2_with fail
          have e9 : (x1 != x1) = false := by simp
          by_cases hs : scI T S U
          case neg =>
            rw [hno hs] at C2
            clear hkk hcc hno hback hs
            generalize scK T S U = bk at C2
            refine (C2.out _).mono ?_
            rintro e wd ⟨rfl, hb⟩
            have Kd := Lib.hid (And.intro (Kc.out.1.carry hb) (And.intro (Kc.out.2.1.carry hb) (Kc.out.2.2.trans (hb.mono Kc.out.2.2.size))))
            clear y0wc y1wc y2wc
            have y0wd : wd.cell? ⟨w1.heap.size, 0, none⟩ = some (.int .i64 x1) := Kd.out.1.cell 0 rfl
            have y1wd : wd.cell? ⟨w1.heap.size, 1, none⟩ = some (.int .i64 y1) := Kd.out.1.cell 1 rfl
            have y2wd : wd.cell? ⟨w1.heap.size + 1, 0, none⟩ = some (.int .i64 x2) := Kd.out.2.1.cell 0 rfl
            clear hb
            clear C2 Kc
            go_wp2_with fail
            refine bodyPost_ret (v := .bool true) (by simp [results, Tryd.results3, go_sem]) rfl ⟨rfl, Kd.out.2.2⟩
          case pos =>
            rw [hcc hs, hkk hs] at C2
            clear hkk hcc hno hs
            by_cases hq : S * 64 < U
            case pos =>
              have dq : decide (S * 64 < U) = true := decide_eq_true hq
              clear hback hq
              generalize near (T * U) (S * 64) = bk at C2
              refine (C2.out _).mono ?_
              rintro e wd ⟨rfl, hb⟩
              have Kd := Lib.hid (And.intro (Kc.out.1.carry hb) (And.intro (Kc.out.2.1.carry hb) (Kc.out.2.2.trans (hb.mono Kc.out.2.2.size))))
              clear y0wc y1wc y2wc
              have y0wd : wd.cell? ⟨w1.heap.size, 0, none⟩ = some (.int .i64 x1) := Kd.out.1.cell 0 rfl
              have y1wd : wd.cell? ⟨w1.heap.size, 1, none⟩ = some (.int .i64 y1) := Kd.out.1.cell 1 rfl
              have y2wd : wd.cell? ⟨w1.heap.size + 1, 0, none⟩ = some (.int .i64 x2) := Kd.out.2.1.cell 0 rfl
              clear hb
              clear C2 Kc
              go_wp2_with fail
              refine bodyPost_ret (v := .bool true) (by simp [results, Tryd.results3, go_sem]) rfl ⟨rfl, Kd.out.2.2⟩
            case neg =>
              have dq : decide (S * 64 < U) = false := decide_eq_false hq
              rw [hback (by omega)] at C2
              have ev : (v == v) = true := by simp
              clear hback hq
              refine (C2.out _).mono ?_
              rintro e wd ⟨rfl, hb⟩
              have Kd := Lib.hid (And.intro (Kc.out.1.carry hb) (And.intro (Kc.out.2.1.carry hb) (Kc.out.2.2.trans (hb.mono Kc.out.2.2.size))))
              clear y0wc y1wc y2wc
              have y0wd : wd.cell? ⟨w1.heap.size, 0, none⟩ = some (.int .i64 x1) := Kd.out.1.cell 0 rfl
              have y1wd : wd.cell? ⟨w1.heap.size, 1, none⟩ = some (.int .i64 y1) := Kd.out.1.cell 1 rfl
              have y2wd : wd.cell? ⟨w1.heap.size + 1, 0, none⟩ = some (.int .i64 x2) := Kd.out.2.1.cell 0 rfl
              clear hb
              clear C2 Kc
              go_wp2_with fail
              refine bodyPost_ret (v := .bool true) (by simp [results, Tryd.results3, go_sem]) rfl ⟨rfl, Kd.out.2.2⟩
        case neg =>
          have d7 : decide (KV < l) = false := decide_eq_false q1
          clear q1 hkl
          go_wp2_with fail
          have CP := Lib.hid (fun (w9 : World) (hb : Below w.heap.size w w9) => Pix.implPixelsText_any x1 w9 (by omega) (HTB.out w9 hb).1)
          have CQ := Lib.hid (fun (w9 : World) (hb : Below w.heap.size w w9) => Pix.implReadPixels_any (Pix.pxT x1) w9 (px_short (by omega)) (HTB.out w9 hb) (HMX.out w9 hb))
          have HRP := Lib.hid (fun (n9 : Int) (b9 : Bool) (h : Pix.Rp (Pix.pxT x1) n9 b9) => Rp_pix (v := x1) (by omega) h)
          generalize Pix.pxT x1 = tx at CP CQ HRP
          refine (CP.out _ K8.out.2.2).mono ?_
          rintro e wa ⟨rfl, hb⟩
          have Ka := Lib.hid (And.intro (K8.out.1.carry hb) (And.intro (K8.out.2.1.carry hb) (K8.out.2.2.trans (hb.mono K8.out.2.2.size))))
          clear y0w8 y1w8 y2w8
          have y0wa : wa.cell? ⟨w1.heap.size, 0, none⟩ = some (.int .i64 x1) := Ka.out.1.cell 0 rfl
          have y1wa : wa.cell? ⟨w1.heap.size, 1, none⟩ = some (.int .i64 y1) := Ka.out.1.cell 1 rfl
          have y2wa : wa.cell? ⟨w1.heap.size + 1, 0, none⟩ = some (.int .i64 x2) := Ka.out.2.1.cell 0 rfl
          clear hb
          go_wp2_with fail
          refine (CQ.out _ Ka.out.2.2).mono ?_
          rintro e wb ⟨n9, b9, rfl, hrp, hb⟩
          have Kb := Lib.hid (And.intro (Ka.out.1.carry hb) (And.intro (Ka.out.2.1.carry hb) (Ka.out.2.2.trans (hb.mono Ka.out.2.2.size))))
          clear y0wa y1wa y2wa
          have y0wb : wb.cell? ⟨w1.heap.size, 0, none⟩ = some (.int .i64 x1) := Kb.out.1.cell 0 rfl
          have y1wb : wb.cell? ⟨w1.heap.size, 1, none⟩ = some (.int .i64 y1) := Kb.out.1.cell 1 rfl
          have y2wb : wb.cell? ⟨w1.heap.size + 1, 0, none⟩ = some (.int .i64 x2) := Kb.out.2.1.cell 0 rfl
          clear hb
          obtain ⟨h9, rfl⟩ := HRP.out _ _ hrp
          have h8 : x1 = n9 := h9.symm
          subst h8
          clear CP CQ HRP hrp Ka K8
          go_wp2_with fail
          refine (CA2.out wb Kb.out.2.2).mono ?_
          rintro e v2 ⟨s2, rfl, ⟨s20, s21⟩, rfl⟩
          clear CA2
          have hws : IntKind.i64.wrap (1 + s2) = 1 + s2 := i64w (by omega)
          go_wp2_with fail
          refine (CA3.out wb Kb.out.2.2).mono ?_
          rintro e v3 ⟨u2, rfl, ⟨u20, u21⟩, rfl⟩
          clear CA3
          have hwu : IntKind.i64.wrap (64 * u2) = 64 * u2 := i64w (by omega)
          have hwu2 : IntKind.i64.wrap (16 + 64 * u2) = 16 + 64 * u2 := i64w (by omega)
          have t1 := Int.lt_tmod_of_pos y1 (show 0 < (1000 : Int) by omega)
          have t2 := Int.tmod_lt_of_pos y1 (show 0 < (1000 : Int) by omega)
          have hwt : IntKind.i64.wrap (y1.tmod 1000) = y1.tmod 1000 := i64w (by omega)
          go_wp2_with fail
          generalize hv : y1.tmod 1000 = v at *
          obtain ⟨S, hS⟩ : ∃ S, S = 1 + s2 := ⟨_, rfl⟩
          obtain ⟨U, hU⟩ : ∃ U, U = 16 + 64 * u2 := ⟨_, rfl⟩
          rw [← hS, ← hU]
          have hS1 : 1 ≤ S ∧ S ≤ 128 := by omega
          have hU1 : 16 ≤ U ∧ U ≤ 16384 := by omega
          have hwS : IntKind.i64.wrap (S * 64) = S * 64 := i64w (by omega)
          have hsc : scI v S U := ⟨⟨by omega, by omega⟩, hS1.1, hS1.2, hU1.1, hU1.2⟩
          obtain ⟨h1, h2, -⟩ := sc_yes hsc
          have C1 := Lib.hid (fun w => implScaleTo_any v S U w (by omega) (by omega) (by omega))
          rw [h1, h2] at C1
          obtain ⟨T, hT⟩ : ∃ T, T = near (v * S * 64) U := ⟨_, rfl⟩
          rw [← hT] at C1
          have hTb := t_in (v := v) (S := S) (U := U) (by omega) hS1 hU1
          rw [← hT] at hTb
          have C2 := Lib.hid (fun w => implScaleBack_any T S U w (by omega) (by omega) (by omega))
          have hback : U ≤ S * 64 → near (T * U) (S * 64) = v := fun hle => by rw [hT, Int.mul_assoc]; exact back_is (by omega) (by omega) hle
          have hkk := fun hs : scI T S U => (sc_yes hs).2.2
          have hcc := fun hs : scI T S U => (sc_yes hs).1
          have hno := fun hs : ¬ scI T S U => sc_no hs
          clear h1 h2 hT hsc hS hU
          refine (C1.out _).mono ?_
          rintro e wc ⟨rfl, hb⟩
          have Kc := Lib.hid (And.intro (Kb.out.1.carry hb) (And.intro (Kb.out.2.1.carry hb) (Kb.out.2.2.trans (hb.mono Kb.out.2.2.size))))
          clear y0wb y1wb y2wb
          have y0wc : wc.cell? ⟨w1.heap.size, 0, none⟩ = some (.int .i64 x1) := Kc.out.1.cell 0 rfl
          have y1wc : wc.cell? ⟨w1.heap.size, 1, none⟩ = some (.int .i64 y1) := Kc.out.1.cell 1 rfl
          have y2wc : wc.cell? ⟨w1.heap.size + 1, 0, none⟩ = some (.int .i64 x2) := Kc.out.2.1.cell 0 rfl
          clear hb
          clear Kb C1
          go_wp2_with fail
          have e9 : (x1 != x1) = false := by simp
          by_cases hs : scI T S U
          case neg =>
            rw [hno hs] at C2
            clear hkk hcc hno hback hs
            generalize scK T S U = bk at C2
            refine (C2.out _).mono ?_
            rintro e wd ⟨rfl, hb⟩
            have Kd := Lib.hid (And.intro (Kc.out.1.carry hb) (And.intro (Kc.out.2.1.carry hb) (Kc.out.2.2.trans (hb.mono Kc.out.2.2.size))))
            clear y0wc y1wc y2wc
            have y0wd : wd.cell? ⟨w1.heap.size, 0, none⟩ = some (.int .i64 x1) := Kd.out.1.cell 0 rfl
            have y1wd : wd.cell? ⟨w1.heap.size, 1, none⟩ = some (.int .i64 y1) := Kd.out.1.cell 1 rfl
            have y2wd : wd.cell? ⟨w1.heap.size + 1, 0, none⟩ = some (.int .i64 x2) := Kd.out.2.1.cell 0 rfl
            clear hb
            clear C2 Kc
            go_wp2_with fail
            refine bodyPost_ret (v := .bool true) (by simp [results, Tryd.results3, go_sem]) rfl ⟨rfl, Kd.out.2.2⟩
          case pos =>
            rw [hcc hs, hkk hs] at C2
            clear hkk hcc hno hs
            by_cases hq : S * 64 < U
            case pos =>
              have dq : decide (S * 64 < U) = true := decide_eq_true hq
              clear hback hq
              generalize near (T * U) (S * 64) = bk at C2
              refine (C2.out _).mono ?_
              rintro e wd ⟨rfl, hb⟩
              have Kd := Lib.hid (And.intro (Kc.out.1.carry hb) (And.intro (Kc.out.2.1.carry hb) (Kc.out.2.2.trans (hb.mono Kc.out.2.2.size))))
              clear y0wc y1wc y2wc
              have y0wd : wd.cell? ⟨w1.heap.size, 0, none⟩ = some (.int .i64 x1) := Kd.out.1.cell 0 rfl
              have y1wd : wd.cell? ⟨w1.heap.size, 1, none⟩ = some (.int .i64 y1) := Kd.out.1.cell 1 rfl
              have y2wd : wd.cell? ⟨w1.heap.size + 1, 0, none⟩ = some (.int .i64 x2) := Kd.out.2.1.cell 0 rfl
              clear hb
              clear C2 Kc
              go_wp2_with fail
              refine bodyPost_ret (v := .bool true) (by simp [results, Tryd.results3, go_sem]) rfl ⟨rfl, Kd.out.2.2⟩
            case neg =>
              have dq : decide (S * 64 < U) = false := decide_eq_false hq
              rw [hback (by omega)] at C2
              have ev : (v == v) = true := by simp
              clear hback hq
              refine (C2.out _).mono ?_
              rintro e wd ⟨rfl, hb⟩
              have Kd := Lib.hid (And.intro (Kc.out.1.carry hb) (And.intro (Kc.out.2.1.carry hb) (Kc.out.2.2.trans (hb.mono Kc.out.2.2.size))))
              clear y0wc y1wc y2wc
              have y0wd : wd.cell? ⟨w1.heap.size, 0, none⟩ = some (.int .i64 x1) := Kd.out.1.cell 0 rfl
              have y1wd : wd.cell? ⟨w1.heap.size, 1, none⟩ = some (.int .i64 y1) := Kd.out.1.cell 1 rfl
              have y2wd : wd.cell? ⟨w1.heap.size + 1, 0, none⟩ = some (.int .i64 x2) := Kd.out.2.1.cell 0 rfl
              clear hb
              clear C2 Kc
              go_wp2_with fail
              refine bodyPost_ret (v := .bool true) (by simp [results, Tryd.results3, go_sem]) rfl ⟨rfl, Kd.out.2.2⟩
      case neg =>
        have d6 : decide (0 < x1) = false := decide_eq_false q0
        clear CKn
        by_cases q1 : KV < l
        case pos =>
          have d7 : decide (KV < l) = true := decide_eq_true q1
          have d8 : decide (-l < KV) = false := decide_eq_false (by omega)
          clear q1 hkl
          go_wp2_with fail
          have CP := Lib.hid (fun (w9 : World) (hb : Below w.heap.size w w9) => Pix.implPixelsText_any x1 w9 (by omega) (HTB.out w9 hb).1)
          have CQ := Lib.hid (fun (w9 : World) (hb : Below w.heap.size w w9) => Pix.implReadPixels_any (Pix.pxT x1) w9 (px_short (by omega)) (HTB.out w9 hb) (HMX.out w9 hb))
          have HRP := Lib.hid (fun (n9 : Int) (b9 : Bool) (h : Pix.Rp (Pix.pxT x1) n9 b9) => Rp_pix (v := x1) (by omega) h)
          generalize Pix.pxT x1 = tx at CP CQ HRP
          refine (CP.out _ K7.out.2.2).mono ?_
          rintro e wa ⟨rfl, hb⟩
          have Ka := Lib.hid (And.intro (K7.out.1.carry hb) (And.intro (K7.out.2.1.carry hb) (K7.out.2.2.trans (hb.mono K7.out.2.2.size))))
          clear y0w7 y1w7 y2w7
          have y0wa : wa.cell? ⟨w1.heap.size, 0, none⟩ = some (.int .i64 x1) := Ka.out.1.cell 0 rfl
          have y1wa : wa.cell? ⟨w1.heap.size, 1, none⟩ = some (.int .i64 y1) := Ka.out.1.cell 1 rfl
          have y2wa : wa.cell? ⟨w1.heap.size + 1, 0, none⟩ = some (.int .i64 x2) := Ka.out.2.1.cell 0 rfl
          clear hb
          go_wp2_with fail
          refine (CQ.out _ Ka.out.2.2).mono ?_
          rintro e wb ⟨n9, b9, rfl, hrp, hb⟩
          have Kb := Lib.hid (And.intro (Ka.out.1.carry hb) (And.intro (Ka.out.2.1.carry hb) (Ka.out.2.2.trans (hb.mono Ka.out.2.2.size))))
          clear y0wa y1wa y2wa
          have y0wb : wb.cell? ⟨w1.heap.size, 0, none⟩ = some (.int .i64 x1) := Kb.out.1.cell 0 rfl
          have y1wb : wb.cell? ⟨w1.heap.size, 1, none⟩ = some (.int .i64 y1) := Kb.out.1.cell 1 rfl
          have y2wb : wb.cell? ⟨w1.heap.size + 1, 0, none⟩ = some (.int .i64 x2) := Kb.out.2.1.cell 0 rfl
          clear hb
          obtain ⟨h9, rfl⟩ := HRP.out _ _ hrp
          have h8 : x1 = n9 := h9.symm
          subst h8
          clear CP CQ HRP hrp Ka K7
          go_wp2_with fail
          refine (CA2.out wb Kb.out.2.2).mono ?_
          rintro e v2 ⟨s2, rfl, ⟨s20, s21⟩, rfl⟩
          clear CA2
          have hws : IntKind.i64.wrap (1 + s2) = 1 + s2 := i64w (by omega)
          go_wp2_with fail
          refine (CA3.out wb Kb.out.2.2).mono ?_
          rintro e v3 ⟨u2, rfl, ⟨u20, u21⟩, rfl⟩
          clear CA3
          have hwu : IntKind.i64.wrap (64 * u2) = 64 * u2 := i64w (by omega)
          have hwu2 : IntKind.i64.wrap (16 + 64 * u2) = 16 + 64 * u2 := i64w (by omega)
          have t1 := Int.lt_tmod_of_pos y1 (show 0 < (1000 : Int) by omega)
          have t2 := Int.tmod_lt_of_pos y1 (show 0 < (1000 : Int) by omega)
          have hwt : IntKind.i64.wrap (y1.tmod 1000) = y1.tmod 1000 := i64w (by omega)
          go_wp2_with fail
          generalize hv : y1.tmod 1000 = v at *
          obtain ⟨S, hS⟩ : ∃ S, S = 1 + s2 := ⟨_, rfl⟩
          obtain ⟨U, hU⟩ : ∃ U, U = 16 + 64 * u2 := ⟨_, rfl⟩
          rw [← hS, ← hU]
          have hS1 : 1 ≤ S ∧ S ≤ 128 := by omega
          have hU1 : 16 ≤ U ∧ U ≤ 16384 := by omega
          have hwS : IntKind.i64.wrap (S * 64) = S * 64 := i64w (by omega)
          have hsc : scI v S U := ⟨⟨by omega, by omega⟩, hS1.1, hS1.2, hU1.1, hU1.2⟩
          obtain ⟨h1, h2, -⟩ := sc_yes hsc
          have C1 := Lib.hid (fun w => implScaleTo_any v S U w (by omega) (by omega) (by omega))
          rw [h1, h2] at C1
          obtain ⟨T, hT⟩ : ∃ T, T = near (v * S * 64) U := ⟨_, rfl⟩
          rw [← hT] at C1
          have hTb := t_in (v := v) (S := S) (U := U) (by omega) hS1 hU1
          rw [← hT] at hTb
          have C2 := Lib.hid (fun w => implScaleBack_any T S U w (by omega) (by omega) (by omega))
          have hback : U ≤ S * 64 → near (T * U) (S * 64) = v := fun hle => by rw [hT, Int.mul_assoc]; exact back_is (by omega) (by omega) hle
          have hkk := fun hs : scI T S U => (sc_yes hs).2.2
          have hcc := fun hs : scI T S U => (sc_yes hs).1
          have hno := fun hs : ¬ scI T S U => sc_no hs
          clear h1 h2 hT hsc hS hU
          refine (C1.out _).mono ?_
          rintro e wc ⟨rfl, hb⟩
          have Kc := Lib.hid (And.intro (Kb.out.1.carry hb) (And.intro (Kb.out.2.1.carry hb) (Kb.out.2.2.trans (hb.mono Kb.out.2.2.size))))
          clear y0wb y1wb y2wb
          have y0wc : wc.cell? ⟨w1.heap.size, 0, none⟩ = some (.int .i64 x1) := Kc.out.1.cell 0 rfl
          have y1wc : wc.cell? ⟨w1.heap.size, 1, none⟩ = some (.int .i64 y1) := Kc.out.1.cell 1 rfl
          have y2wc : wc.cell? ⟨w1.heap.size + 1, 0, none⟩ = some (.int .i64 x2) := Kc.out.2.1.cell 0 rfl
          clear hb
          clear Kb C1
          go_wp2_with fail
          have e9 : (x1 != x1) = false := by simp
          by_cases hs : scI T S U
          case neg =>
            rw [hno hs] at C2
            clear hkk hcc hno hback hs
            generalize scK T S U = bk at C2
            refine (C2.out _).mono ?_
            rintro e wd ⟨rfl, hb⟩
            have Kd := Lib.hid (And.intro (Kc.out.1.carry hb) (And.intro (Kc.out.2.1.carry hb) (Kc.out.2.2.trans (hb.mono Kc.out.2.2.size))))
            clear y0wc y1wc y2wc
            have y0wd : wd.cell? ⟨w1.heap.size, 0, none⟩ = some (.int .i64 x1) := Kd.out.1.cell 0 rfl
            have y1wd : wd.cell? ⟨w1.heap.size, 1, none⟩ = some (.int .i64 y1) := Kd.out.1.cell 1 rfl
            have y2wd : wd.cell? ⟨w1.heap.size + 1, 0, none⟩ = some (.int .i64 x2) := Kd.out.2.1.cell 0 rfl
            clear hb
            clear C2 Kc
            go_wp2_with fail
            refine bodyPost_ret (v := .bool true) (by simp [results, Tryd.results3, go_sem]) rfl ⟨rfl, Kd.out.2.2⟩
          case pos =>
            rw [hcc hs, hkk hs] at C2
            clear hkk hcc hno hs
            by_cases hq : S * 64 < U
            case pos =>
              have dq : decide (S * 64 < U) = true := decide_eq_true hq
              clear hback hq
              generalize near (T * U) (S * 64) = bk at C2
              refine (C2.out _).mono ?_
              rintro e wd ⟨rfl, hb⟩
              have Kd := Lib.hid (And.intro (Kc.out.1.carry hb) (And.intro (Kc.out.2.1.carry hb) (Kc.out.2.2.trans (hb.mono Kc.out.2.2.size))))
              clear y0wc y1wc y2wc
              have y0wd : wd.cell? ⟨w1.heap.size, 0, none⟩ = some (.int .i64 x1) := Kd.out.1.cell 0 rfl
              have y1wd : wd.cell? ⟨w1.heap.size, 1, none⟩ = some (.int .i64 y1) := Kd.out.1.cell 1 rfl
              have y2wd : wd.cell? ⟨w1.heap.size + 1, 0, none⟩ = some (.int .i64 x2) := Kd.out.2.1.cell 0 rfl
              clear hb
              clear C2 Kc
              go_wp2_with fail
              refine bodyPost_ret (v := .bool true) (by simp [results, Tryd.results3, go_sem]) rfl ⟨rfl, Kd.out.2.2⟩
            case neg =>
              have dq : decide (S * 64 < U) = false := decide_eq_false hq
              rw [hback (by omega)] at C2
              have ev : (v == v) = true := by simp
              clear hback hq
              refine (C2.out _).mono ?_
              rintro e wd ⟨rfl, hb⟩
              have Kd := Lib.hid (And.intro (Kc.out.1.carry hb) (And.intro (Kc.out.2.1.carry hb) (Kc.out.2.2.trans (hb.mono Kc.out.2.2.size))))
              clear y0wc y1wc y2wc
              have y0wd : wd.cell? ⟨w1.heap.size, 0, none⟩ = some (.int .i64 x1) := Kd.out.1.cell 0 rfl
              have y1wd : wd.cell? ⟨w1.heap.size, 1, none⟩ = some (.int .i64 y1) := Kd.out.1.cell 1 rfl
              have y2wd : wd.cell? ⟨w1.heap.size + 1, 0, none⟩ = some (.int .i64 x2) := Kd.out.2.1.cell 0 rfl
              clear hb
              clear C2 Kc
              go_wp2_with fail
              refine bodyPost_ret (v := .bool true) (by simp [results, Tryd.results3, go_sem]) rfl ⟨rfl, Kd.out.2.2⟩
        case neg =>
          have d7 : decide (KV < l) = false := decide_eq_false q1
          clear q1 hkl
          go_wp2_with fail
          have CP := Lib.hid (fun (w9 : World) (hb : Below w.heap.size w w9) => Pix.implPixelsText_any x1 w9 (by omega) (HTB.out w9 hb).1)
          have CQ := Lib.hid (fun (w9 : World) (hb : Below w.heap.size w w9) => Pix.implReadPixels_any (Pix.pxT x1) w9 (px_short (by omega)) (HTB.out w9 hb) (HMX.out w9 hb))
          have HRP := Lib.hid (fun (n9 : Int) (b9 : Bool) (h : Pix.Rp (Pix.pxT x1) n9 b9) => Rp_pix (v := x1) (by omega) h)
          generalize Pix.pxT x1 = tx at CP CQ HRP
          refine (CP.out _ K7.out.2.2).mono ?_
          rintro e wa ⟨rfl, hb⟩
          have Ka := Lib.hid (And.intro (K7.out.1.carry hb) (And.intro (K7.out.2.1.carry hb) (K7.out.2.2.trans (hb.mono K7.out.2.2.size))))
          clear y0w7 y1w7 y2w7
          have y0wa : wa.cell? ⟨w1.heap.size, 0, none⟩ = some (.int .i64 x1) := Ka.out.1.cell 0 rfl
          have y1wa : wa.cell? ⟨w1.heap.size, 1, none⟩ = some (.int .i64 y1) := Ka.out.1.cell 1 rfl
          have y2wa : wa.cell? ⟨w1.heap.size + 1, 0, none⟩ = some (.int .i64 x2) := Ka.out.2.1.cell 0 rfl
          clear hb
          go_wp2_with fail
          refine (CQ.out _ Ka.out.2.2).mono ?_
          rintro e wb ⟨n9, b9, rfl, hrp, hb⟩
          have Kb := Lib.hid (And.intro (Ka.out.1.carry hb) (And.intro (Ka.out.2.1.carry hb) (Ka.out.2.2.trans (hb.mono Ka.out.2.2.size))))
          clear y0wa y1wa y2wa
          have y0wb : wb.cell? ⟨w1.heap.size, 0, none⟩ = some (.int .i64 x1) := Kb.out.1.cell 0 rfl
          have y1wb : wb.cell? ⟨w1.heap.size, 1, none⟩ = some (.int .i64 y1) := Kb.out.1.cell 1 rfl
          have y2wb : wb.cell? ⟨w1.heap.size + 1, 0, none⟩ = some (.int .i64 x2) := Kb.out.2.1.cell 0 rfl
          clear hb
          obtain ⟨h9, rfl⟩ := HRP.out _ _ hrp
          have h8 : x1 = n9 := h9.symm
          subst h8
          clear CP CQ HRP hrp Ka K7
          go_wp2_with fail
          refine (CA2.out wb Kb.out.2.2).mono ?_
          rintro e v2 ⟨s2, rfl, ⟨s20, s21⟩, rfl⟩
          clear CA2
          have hws : IntKind.i64.wrap (1 + s2) = 1 + s2 := i64w (by omega)
          go_wp2_with fail
          refine (CA3.out wb Kb.out.2.2).mono ?_
          rintro e v3 ⟨u2, rfl, ⟨u20, u21⟩, rfl⟩
          clear CA3
          have hwu : IntKind.i64.wrap (64 * u2) = 64 * u2 := i64w (by omega)
          have hwu2 : IntKind.i64.wrap (16 + 64 * u2) = 16 + 64 * u2 := i64w (by omega)
          have t1 := Int.lt_tmod_of_pos y1 (show 0 < (1000 : Int) by omega)
          have t2 := Int.tmod_lt_of_pos y1 (show 0 < (1000 : Int) by omega)
          have hwt : IntKind.i64.wrap (y1.tmod 1000) = y1.tmod 1000 := i64w (by omega)
          go_wp2_with fail
          generalize hv : y1.tmod 1000 = v at *
          obtain ⟨S, hS⟩ : ∃ S, S = 1 + s2 := ⟨_, rfl⟩
          obtain ⟨U, hU⟩ : ∃ U, U = 16 + 64 * u2 := ⟨_, rfl⟩
          rw [← hS, ← hU]
          have hS1 : 1 ≤ S ∧ S ≤ 128 := by omega
          have hU1 : 16 ≤ U ∧ U ≤ 16384 := by omega
          have hwS : IntKind.i64.wrap (S * 64) = S * 64 := i64w (by omega)
          have hsc : scI v S U := ⟨⟨by omega, by omega⟩, hS1.1, hS1.2, hU1.1, hU1.2⟩
          obtain ⟨h1, h2, -⟩ := sc_yes hsc
          have C1 := Lib.hid (fun w => implScaleTo_any v S U w (by omega) (by omega) (by omega))
          rw [h1, h2] at C1
          obtain ⟨T, hT⟩ : ∃ T, T = near (v * S * 64) U := ⟨_, rfl⟩
          rw [← hT] at C1
          have hTb := t_in (v := v) (S := S) (U := U) (by omega) hS1 hU1
          rw [← hT] at hTb
          have C2 := Lib.hid (fun w => implScaleBack_any T S U w (by omega) (by omega) (by omega))
          have hback : U ≤ S * 64 → near (T * U) (S * 64) = v := fun hle => by rw [hT, Int.mul_assoc]; exact back_is (by omega) (by omega) hle
          have hkk := fun hs : scI T S U => (sc_yes hs).2.2
          have hcc := fun hs : scI T S U => (sc_yes hs).1
          have hno := fun hs : ¬ scI T S U => sc_no hs
          clear h1 h2 hT hsc hS hU
          refine (C1.out _).mono ?_
          rintro e wc ⟨rfl, hb⟩
          have Kc := Lib.hid (And.intro (Kb.out.1.carry hb) (And.intro (Kb.out.2.1.carry hb) (Kb.out.2.2.trans (hb.mono Kb.out.2.2.size))))
          clear y0wb y1wb y2wb
          have y0wc : wc.cell? ⟨w1.heap.size, 0, none⟩ = some (.int .i64 x1) := Kc.out.1.cell 0 rfl
          have y1wc : wc.cell? ⟨w1.heap.size, 1, none⟩ = some (.int .i64 y1) := Kc.out.1.cell 1 rfl
          have y2wc : wc.cell? ⟨w1.heap.size + 1, 0, none⟩ = some (.int .i64 x2) := Kc.out.2.1.cell 0 rfl
          clear hb
          clear Kb C1
          go_wp2_with fail
          have e9 : (x1 != x1) = false := by simp
          by_cases hs : scI T S U
          case neg =>
            rw [hno hs] at C2
            clear hkk hcc hno hback hs
            generalize scK T S U = bk at C2
            refine (C2.out _).mono ?_
            rintro e wd ⟨rfl, hb⟩
            have Kd := Lib.hid (And.intro (Kc.out.1.carry hb) (And.intro (Kc.out.2.1.carry hb) (Kc.out.2.2.trans (hb.mono Kc.out.2.2.size))))
            clear y0wc y1wc y2wc
            have y0wd : wd.cell? ⟨w1.heap.size, 0, none⟩ = some (.int .i64 x1) := Kd.out.1.cell 0 rfl
            have y1wd : wd.cell? ⟨w1.heap.size, 1, none⟩ = some (.int .i64 y1) := Kd.out.1.cell 1 rfl
            have y2wd : wd.cell? ⟨w1.heap.size + 1, 0, none⟩ = some (.int .i64 x2) := Kd.out.2.1.cell 0 rfl
            clear hb
            clear C2 Kc
            go_wp2_with fail
            refine bodyPost_ret (v := .bool true) (by simp [results, Tryd.results3, go_sem]) rfl ⟨rfl, Kd.out.2.2⟩
          case pos =>
            rw [hcc hs, hkk hs] at C2
            clear hkk hcc hno hs
            by_cases hq : S * 64 < U
            case pos =>
              have dq : decide (S * 64 < U) = true := decide_eq_true hq
              clear hback hq
              generalize near (T * U) (S * 64) = bk at C2
              refine (C2.out _).mono ?_
              rintro e wd ⟨rfl, hb⟩
              have Kd := Lib.hid (And.intro (Kc.out.1.carry hb) (And.intro (Kc.out.2.1.carry hb) (Kc.out.2.2.trans (hb.mono Kc.out.2.2.size))))
              clear y0wc y1wc y2wc
              have y0wd : wd.cell? ⟨w1.heap.size, 0, none⟩ = some (.int .i64 x1) := Kd.out.1.cell 0 rfl
              have y1wd : wd.cell? ⟨w1.heap.size, 1, none⟩ = some (.int .i64 y1) := Kd.out.1.cell 1 rfl
              have y2wd : wd.cell? ⟨w1.heap.size + 1, 0, none⟩ = some (.int .i64 x2) := Kd.out.2.1.cell 0 rfl
              clear hb
              clear C2 Kc
              go_wp2_with fail
              refine bodyPost_ret (v := .bool true) (by simp [results, Tryd.results3, go_sem]) rfl ⟨rfl, Kd.out.2.2⟩
            case neg =>
              have dq : decide (S * 64 < U) = false := decide_eq_false hq
              rw [hback (by omega)] at C2
              have ev : (v == v) = true := by simp
              clear hback hq
              refine (C2.out _).mono ?_
              rintro e wd ⟨rfl, hb⟩
              have Kd := Lib.hid (And.intro (Kc.out.1.carry hb) (And.intro (Kc.out.2.1.carry hb) (Kc.out.2.2.trans (hb.mono Kc.out.2.2.size))))
              clear y0wc y1wc y2wc
              have y0wd : wd.cell? ⟨w1.heap.size, 0, none⟩ = some (.int .i64 x1) := Kd.out.1.cell 0 rfl
              have y1wd : wd.cell? ⟨w1.heap.size, 1, none⟩ = some (.int .i64 y1) := Kd.out.1.cell 1 rfl
              have y2wd : wd.cell? ⟨w1.heap.size + 1, 0, none⟩ = some (.int .i64 x2) := Kd.out.2.1.cell 0 rfl
              clear hb
              clear C2 Kc
              go_wp2_with fail
              refine bodyPost_ret (v := .bool true) (by simp [results, Tryd.results3, go_sem]) rfl ⟨rfl, Kd.out.2.2⟩
    case neg =>
      have d1 : decide (x1 ≤ x2) = false := decide_eq_false q
      clear q
      go_wp2_with fail
      refine (CN.out _ K4.out.2.2).mono ?_
      rintro e w5 ⟨rfl, hb⟩
      have K5 := Lib.hid (And.intro (K4.out.1.carry hb) (And.intro (K4.out.2.1.carry hb) (K4.out.2.2.trans (hb.mono K4.out.2.2.size))))
      clear y0w4 y1w4 y2w4
      have y0w5 : w5.cell? ⟨w1.heap.size, 0, none⟩ = some (.int .i64 x1) := K5.out.1.cell 0 rfl
      have y1w5 : w5.cell? ⟨w1.heap.size, 1, none⟩ = some (.int .i64 y1) := K5.out.1.cell 1 rfl
      have y2w5 : w5.cell? ⟨w1.heap.size + 1, 0, none⟩ = some (.int .i64 x2) := K5.out.2.1.cell 0 rfl
      clear hb
      go_wp2_with fail
      refine (CM.out _ K5.out.2.2).mono ?_
      rintro e w6 ⟨rfl, hb⟩
      have K6 := Lib.hid (And.intro (K5.out.1.carry hb) (And.intro (K5.out.2.1.carry hb) (K5.out.2.2.trans (hb.mono K5.out.2.2.size))))
      clear y0w5 y1w5 y2w5
      have y0w6 : w6.cell? ⟨w1.heap.size, 0, none⟩ = some (.int .i64 x1) := K6.out.1.cell 0 rfl
      have y1w6 : w6.cell? ⟨w1.heap.size, 1, none⟩ = some (.int .i64 y1) := K6.out.1.cell 1 rfl
      have y2w6 : w6.cell? ⟨w1.heap.size + 1, 0, none⟩ = some (.int .i64 x2) := K6.out.2.1.cell 0 rfl
      clear hb
      clear CN CM K4 K5
      go_wp2_with fail
      refine (CA1.out w6 K6.out.2.2).mono ?_
      rintro e v1 ⟨l, rfl, ⟨l0, l1⟩, rfl⟩
      clear CA1
      obtain ⟨KV, hKV⟩ : ∃ k, k = kpI x1 st l := ⟨_, rfl⟩
      have hkin := kp_in (v := x1) (s := st) (l := l) (by omega) (by omega)
      rw [← hKV] at hkin
      obtain ⟨hk1, hk2⟩ := hkin
      have hkl := kp_least (v := x1) (s := st) (l := l) (by omega) (by omega)
      rw [← hKV] at hkl
      have CK := Lib.hid (show ∀ w, Calls Tryd.prog 12 #[.int .i64 x1, .int .i64 st, .int .i64 l] w fun e w' => e = .returned (.int .i64 KV) ∧ Below w.heap.size w w' from fun w => by have h := implKeepRound_any x1 st l w (by omega) (by omega) (by omega); rw [← hKV] at h; exact h)
      have CKn := Lib.hid (show 0 < x1 → ∀ w, Calls Tryd.prog 12 #[.int .i64 (-x1), .int .i64 st, .int .i64 l] w fun e w' => e = .returned (.int .i64 (-KV)) ∧ Below w.heap.size w w' from fun h0 w => by have h := implKeepRound_any (-x1) st l w (by omega) (by omega) (by omega); rw [show kpI (-x1) st l = -KV by rw [hKV, kp_neg (by omega) (by omega) h0]; simp] at h; exact h)
      clear hKV
      have hwn : IntKind.i64.wrap (-x1) = -x1 := i64w (by omega)
      have hwk : IntKind.i64.wrap (- -KV) = KV := (i64w (by omega)).trans (Int.neg_neg _)
      have hwk2 : IntKind.i64.wrap KV = KV := i64w (by omega)
      have hwl : IntKind.i64.wrap (-l) = -l := i64w (by omega)
      have e6 : (KV != KV) = false := by simp
      have hnn : - -KV = KV := Int.neg_neg _
      go_wp2_with fail
      refine (CK.out _).mono ?_
      rintro e w7 ⟨rfl, hb⟩
      have K7 := Lib.hid (And.intro (K6.out.1.carry hb) (And.intro (K6.out.2.1.carry hb) (K6.out.2.2.trans (hb.mono K6.out.2.2.size))))
      clear y0w6 y1w6 y2w6
      have y0w7 : w7.cell? ⟨w1.heap.size, 0, none⟩ = some (.int .i64 x1) := K7.out.1.cell 0 rfl
      have y1w7 : w7.cell? ⟨w1.heap.size, 1, none⟩ = some (.int .i64 y1) := K7.out.1.cell 1 rfl
      have y2w7 : w7.cell? ⟨w1.heap.size + 1, 0, none⟩ = some (.int .i64 x2) := K7.out.2.1.cell 0 rfl
      clear hb
      clear CK K6
      by_cases q0 : 0 < x1
      case pos =>
        have d6 : decide (0 < x1) = true := decide_eq_true q0
        have CK2 := Lib.hid (CKn.out q0)
        clear CKn
        go_wp2_with fail
        refine (CK2.out _).mono ?_
        rintro e w8 ⟨rfl, hb⟩
        have K8 := Lib.hid (And.intro (K7.out.1.carry hb) (And.intro (K7.out.2.1.carry hb) (K7.out.2.2.trans (hb.mono K7.out.2.2.size))))
        clear y0w7 y1w7 y2w7
        have y0w8 : w8.cell? ⟨w1.heap.size, 0, none⟩ = some (.int .i64 x1) := K8.out.1.cell 0 rfl
        have y1w8 : w8.cell? ⟨w1.heap.size, 1, none⟩ = some (.int .i64 y1) := K8.out.1.cell 1 rfl
        have y2w8 : w8.cell? ⟨w1.heap.size + 1, 0, none⟩ = some (.int .i64 x2) := K8.out.2.1.cell 0 rfl
        clear hb
        clear CK2 K7
        by_cases q1 : KV < l
        case pos =>
          have d7 : decide (KV < l) = true := decide_eq_true q1
          have d8 : decide (-l < KV) = false := decide_eq_false (by omega)
          clear q1 hkl
          go_wp2_with fail
          have CP := Lib.hid (fun (w9 : World) (hb : Below w.heap.size w w9) => Pix.implPixelsText_any x1 w9 (by omega) (HTB.out w9 hb).1)
          have CQ := Lib.hid (fun (w9 : World) (hb : Below w.heap.size w w9) => Pix.implReadPixels_any (Pix.pxT x1) w9 (px_short (by omega)) (HTB.out w9 hb) (HMX.out w9 hb))
          have HRP := Lib.hid (fun (n9 : Int) (b9 : Bool) (h : Pix.Rp (Pix.pxT x1) n9 b9) => Rp_pix (v := x1) (by omega) h)
          generalize Pix.pxT x1 = tx at CP CQ HRP
          refine (CP.out _ K8.out.2.2).mono ?_
          rintro e wa ⟨rfl, hb⟩
          have Ka := Lib.hid (And.intro (K8.out.1.carry hb) (And.intro (K8.out.2.1.carry hb) (K8.out.2.2.trans (hb.mono K8.out.2.2.size))))
          clear y0w8 y1w8 y2w8
          have y0wa : wa.cell? ⟨w1.heap.size, 0, none⟩ = some (.int .i64 x1) := Ka.out.1.cell 0 rfl
          have y1wa : wa.cell? ⟨w1.heap.size, 1, none⟩ = some (.int .i64 y1) := Ka.out.1.cell 1 rfl
          have y2wa : wa.cell? ⟨w1.heap.size + 1, 0, none⟩ = some (.int .i64 x2) := Ka.out.2.1.cell 0 rfl
          clear hb
          go_wp2_with fail
          refine (CQ.out _ Ka.out.2.2).mono ?_
          rintro e wb ⟨n9, b9, rfl, hrp, hb⟩
          have Kb := Lib.hid (And.intro (Ka.out.1.carry hb) (And.intro (Ka.out.2.1.carry hb) (Ka.out.2.2.trans (hb.mono Ka.out.2.2.size))))
          clear y0wa y1wa y2wa
          have y0wb : wb.cell? ⟨w1.heap.size, 0, none⟩ = some (.int .i64 x1) := Kb.out.1.cell 0 rfl
          have y1wb : wb.cell? ⟨w1.heap.size, 1, none⟩ = some (.int .i64 y1) := Kb.out.1.cell 1 rfl
          have y2wb : wb.cell? ⟨w1.heap.size + 1, 0, none⟩ = some (.int .i64 x2) := Kb.out.2.1.cell 0 rfl
          clear hb
          obtain ⟨h9, rfl⟩ := HRP.out _ _ hrp
          have h8 : x1 = n9 := h9.symm
          subst h8
          clear CP CQ HRP hrp Ka K8
          go_wp2_with fail
          refine (CA2.out wb Kb.out.2.2).mono ?_
          rintro e v2 ⟨s2, rfl, ⟨s20, s21⟩, rfl⟩
          clear CA2
          have hws : IntKind.i64.wrap (1 + s2) = 1 + s2 := i64w (by omega)
          go_wp2_with fail
          refine (CA3.out wb Kb.out.2.2).mono ?_
          rintro e v3 ⟨u2, rfl, ⟨u20, u21⟩, rfl⟩
          clear CA3
          have hwu : IntKind.i64.wrap (64 * u2) = 64 * u2 := i64w (by omega)
          have hwu2 : IntKind.i64.wrap (16 + 64 * u2) = 16 + 64 * u2 := i64w (by omega)
          have t1 := Int.lt_tmod_of_pos y1 (show 0 < (1000 : Int) by omega)
          have t2 := Int.tmod_lt_of_pos y1 (show 0 < (1000 : Int) by omega)
          have hwt : IntKind.i64.wrap (y1.tmod 1000) = y1.tmod 1000 := i64w (by omega)
          go_wp2_with fail
          generalize hv : y1.tmod 1000 = v at *
          obtain ⟨S, hS⟩ : ∃ S, S = 1 + s2 := ⟨_, rfl⟩
          obtain ⟨U, hU⟩ : ∃ U, U = 16 + 64 * u2 := ⟨_, rfl⟩
          rw [← hS, ← hU]
          have hS1 : 1 ≤ S ∧ S ≤ 128 := by omega
          have hU1 : 16 ≤ U ∧ U ≤ 16384 := by omega
          have hwS : IntKind.i64.wrap (S * 64) = S * 64 := i64w (by omega)
          have hsc : scI v S U := ⟨⟨by omega, by omega⟩, hS1.1, hS1.2, hU1.1, hU1.2⟩
          obtain ⟨h1, h2, -⟩ := sc_yes hsc
          have C1 := Lib.hid (fun w => implScaleTo_any v S U w (by omega) (by omega) (by omega))
          rw [h1, h2] at C1
          obtain ⟨T, hT⟩ : ∃ T, T = near (v * S * 64) U := ⟨_, rfl⟩
          rw [← hT] at C1
          have hTb := t_in (v := v) (S := S) (U := U) (by omega) hS1 hU1
          rw [← hT] at hTb
          have C2 := Lib.hid (fun w => implScaleBack_any T S U w (by omega) (by omega) (by omega))
          have hback : U ≤ S * 64 → near (T * U) (S * 64) = v := fun hle => by rw [hT, Int.mul_assoc]; exact back_is (by omega) (by omega) hle
          have hkk := fun hs : scI T S U => (sc_yes hs).2.2
          have hcc := fun hs : scI T S U => (sc_yes hs).1
          have hno := fun hs : ¬ scI T S U => sc_no hs
          clear h1 h2 hT hsc hS hU
          refine (C1.out _).mono ?_
          rintro e wc ⟨rfl, hb⟩
          have Kc := Lib.hid (And.intro (Kb.out.1.carry hb) (And.intro (Kb.out.2.1.carry hb) (Kb.out.2.2.trans (hb.mono Kb.out.2.2.size))))
          clear y0wb y1wb y2wb
          have y0wc : wc.cell? ⟨w1.heap.size, 0, none⟩ = some (.int .i64 x1) := Kc.out.1.cell 0 rfl
          have y1wc : wc.cell? ⟨w1.heap.size, 1, none⟩ = some (.int .i64 y1) := Kc.out.1.cell 1 rfl
          have y2wc : wc.cell? ⟨w1.heap.size + 1, 0, none⟩ = some (.int .i64 x2) := Kc.out.2.1.cell 0 rfl
          clear hb
          clear Kb C1
          go_wp2_with fail
          have e9 : (x1 != x1) = false := by simp
          by_cases hs : scI T S U
          case neg =>
            rw [hno hs] at C2
            clear hkk hcc hno hback hs
            generalize scK T S U = bk at C2
            refine (C2.out _).mono ?_
            rintro e wd ⟨rfl, hb⟩
            have Kd := Lib.hid (And.intro (Kc.out.1.carry hb) (And.intro (Kc.out.2.1.carry hb) (Kc.out.2.2.trans (hb.mono Kc.out.2.2.size))))
            clear y0wc y1wc y2wc
            have y0wd : wd.cell? ⟨w1.heap.size, 0, none⟩ = some (.int .i64 x1) := Kd.out.1.cell 0 rfl
            have y1wd : wd.cell? ⟨w1.heap.size, 1, none⟩ = some (.int .i64 y1) := Kd.out.1.cell 1 rfl
            have y2wd : wd.cell? ⟨w1.heap.size + 1, 0, none⟩ = some (.int .i64 x2) := Kd.out.2.1.cell 0 rfl
            clear hb
            clear C2 Kc
            go_wp2_with fail
            refine bodyPost_ret (v := .bool true) (by simp [results, Tryd.results3, go_sem]) rfl ⟨rfl, Kd.out.2.2⟩
          case pos =>
            rw [hcc hs, hkk hs] at C2
            clear hkk hcc hno hs
            by_cases hq : S * 64 < U
            case pos =>
              have dq : decide (S * 64 < U) = true := decide_eq_true hq
              clear hback hq
              generalize near (T * U) (S * 64) = bk at C2
              refine (C2.out _).mono ?_
              rintro e wd ⟨rfl, hb⟩
              have Kd := Lib.hid (And.intro (Kc.out.1.carry hb) (And.intro (Kc.out.2.1.carry hb) (Kc.out.2.2.trans (hb.mono Kc.out.2.2.size))))
              clear y0wc y1wc y2wc
              have y0wd : wd.cell? ⟨w1.heap.size, 0, none⟩ = some (.int .i64 x1) := Kd.out.1.cell 0 rfl
              have y1wd : wd.cell? ⟨w1.heap.size, 1, none⟩ = some (.int .i64 y1) := Kd.out.1.cell 1 rfl
              have y2wd : wd.cell? ⟨w1.heap.size + 1, 0, none⟩ = some (.int .i64 x2) := Kd.out.2.1.cell 0 rfl
              clear hb
              clear C2 Kc
              go_wp2_with fail
              refine bodyPost_ret (v := .bool true) (by simp [results, Tryd.results3, go_sem]) rfl ⟨rfl, Kd.out.2.2⟩
            case neg =>
              have dq : decide (S * 64 < U) = false := decide_eq_false hq
              rw [hback (by omega)] at C2
              have ev : (v == v) = true := by simp
              clear hback hq
              refine (C2.out _).mono ?_
              rintro e wd ⟨rfl, hb⟩
              have Kd := Lib.hid (And.intro (Kc.out.1.carry hb) (And.intro (Kc.out.2.1.carry hb) (Kc.out.2.2.trans (hb.mono Kc.out.2.2.size))))
              clear y0wc y1wc y2wc
              have y0wd : wd.cell? ⟨w1.heap.size, 0, none⟩ = some (.int .i64 x1) := Kd.out.1.cell 0 rfl
              have y1wd : wd.cell? ⟨w1.heap.size, 1, none⟩ = some (.int .i64 y1) := Kd.out.1.cell 1 rfl
              have y2wd : wd.cell? ⟨w1.heap.size + 1, 0, none⟩ = some (.int .i64 x2) := Kd.out.2.1.cell 0 rfl
              clear hb
              clear C2 Kc
              go_wp2_with fail
              refine bodyPost_ret (v := .bool true) (by simp [results, Tryd.results3, go_sem]) rfl ⟨rfl, Kd.out.2.2⟩
        case neg =>
          have d7 : decide (KV < l) = false := decide_eq_false q1
          clear q1 hkl
          go_wp2_with fail
          have CP := Lib.hid (fun (w9 : World) (hb : Below w.heap.size w w9) => Pix.implPixelsText_any x1 w9 (by omega) (HTB.out w9 hb).1)
          have CQ := Lib.hid (fun (w9 : World) (hb : Below w.heap.size w w9) => Pix.implReadPixels_any (Pix.pxT x1) w9 (px_short (by omega)) (HTB.out w9 hb) (HMX.out w9 hb))
          have HRP := Lib.hid (fun (n9 : Int) (b9 : Bool) (h : Pix.Rp (Pix.pxT x1) n9 b9) => Rp_pix (v := x1) (by omega) h)
          generalize Pix.pxT x1 = tx at CP CQ HRP
          refine (CP.out _ K8.out.2.2).mono ?_
          rintro e wa ⟨rfl, hb⟩
          have Ka := Lib.hid (And.intro (K8.out.1.carry hb) (And.intro (K8.out.2.1.carry hb) (K8.out.2.2.trans (hb.mono K8.out.2.2.size))))
          clear y0w8 y1w8 y2w8
          have y0wa : wa.cell? ⟨w1.heap.size, 0, none⟩ = some (.int .i64 x1) := Ka.out.1.cell 0 rfl
          have y1wa : wa.cell? ⟨w1.heap.size, 1, none⟩ = some (.int .i64 y1) := Ka.out.1.cell 1 rfl
          have y2wa : wa.cell? ⟨w1.heap.size + 1, 0, none⟩ = some (.int .i64 x2) := Ka.out.2.1.cell 0 rfl
          clear hb
          go_wp2_with fail
          refine (CQ.out _ Ka.out.2.2).mono ?_
          rintro e wb ⟨n9, b9, rfl, hrp, hb⟩
          have Kb := Lib.hid (And.intro (Ka.out.1.carry hb) (And.intro (Ka.out.2.1.carry hb) (Ka.out.2.2.trans (hb.mono Ka.out.2.2.size))))
          clear y0wa y1wa y2wa
          have y0wb : wb.cell? ⟨w1.heap.size, 0, none⟩ = some (.int .i64 x1) := Kb.out.1.cell 0 rfl
          have y1wb : wb.cell? ⟨w1.heap.size, 1, none⟩ = some (.int .i64 y1) := Kb.out.1.cell 1 rfl
          have y2wb : wb.cell? ⟨w1.heap.size + 1, 0, none⟩ = some (.int .i64 x2) := Kb.out.2.1.cell 0 rfl
          clear hb
          obtain ⟨h9, rfl⟩ := HRP.out _ _ hrp
          have h8 : x1 = n9 := h9.symm
          subst h8
          clear CP CQ HRP hrp Ka K8
          go_wp2_with fail
          refine (CA2.out wb Kb.out.2.2).mono ?_
          rintro e v2 ⟨s2, rfl, ⟨s20, s21⟩, rfl⟩
          clear CA2
          have hws : IntKind.i64.wrap (1 + s2) = 1 + s2 := i64w (by omega)
          go_wp2_with fail
          refine (CA3.out wb Kb.out.2.2).mono ?_
          rintro e v3 ⟨u2, rfl, ⟨u20, u21⟩, rfl⟩
          clear CA3
          have hwu : IntKind.i64.wrap (64 * u2) = 64 * u2 := i64w (by omega)
          have hwu2 : IntKind.i64.wrap (16 + 64 * u2) = 16 + 64 * u2 := i64w (by omega)
          have t1 := Int.lt_tmod_of_pos y1 (show 0 < (1000 : Int) by omega)
          have t2 := Int.tmod_lt_of_pos y1 (show 0 < (1000 : Int) by omega)
          have hwt : IntKind.i64.wrap (y1.tmod 1000) = y1.tmod 1000 := i64w (by omega)
          go_wp2_with fail
          generalize hv : y1.tmod 1000 = v at *
          obtain ⟨S, hS⟩ : ∃ S, S = 1 + s2 := ⟨_, rfl⟩
          obtain ⟨U, hU⟩ : ∃ U, U = 16 + 64 * u2 := ⟨_, rfl⟩
          rw [← hS, ← hU]
          have hS1 : 1 ≤ S ∧ S ≤ 128 := by omega
          have hU1 : 16 ≤ U ∧ U ≤ 16384 := by omega
          have hwS : IntKind.i64.wrap (S * 64) = S * 64 := i64w (by omega)
          have hsc : scI v S U := ⟨⟨by omega, by omega⟩, hS1.1, hS1.2, hU1.1, hU1.2⟩
          obtain ⟨h1, h2, -⟩ := sc_yes hsc
          have C1 := Lib.hid (fun w => implScaleTo_any v S U w (by omega) (by omega) (by omega))
          rw [h1, h2] at C1
          obtain ⟨T, hT⟩ : ∃ T, T = near (v * S * 64) U := ⟨_, rfl⟩
          rw [← hT] at C1
          have hTb := t_in (v := v) (S := S) (U := U) (by omega) hS1 hU1
          rw [← hT] at hTb
          have C2 := Lib.hid (fun w => implScaleBack_any T S U w (by omega) (by omega) (by omega))
          have hback : U ≤ S * 64 → near (T * U) (S * 64) = v := fun hle => by rw [hT, Int.mul_assoc]; exact back_is (by omega) (by omega) hle
          have hkk := fun hs : scI T S U => (sc_yes hs).2.2
          have hcc := fun hs : scI T S U => (sc_yes hs).1
          have hno := fun hs : ¬ scI T S U => sc_no hs
          clear h1 h2 hT hsc hS hU
          refine (C1.out _).mono ?_
          rintro e wc ⟨rfl, hb⟩
          have Kc := Lib.hid (And.intro (Kb.out.1.carry hb) (And.intro (Kb.out.2.1.carry hb) (Kb.out.2.2.trans (hb.mono Kb.out.2.2.size))))
          clear y0wb y1wb y2wb
          have y0wc : wc.cell? ⟨w1.heap.size, 0, none⟩ = some (.int .i64 x1) := Kc.out.1.cell 0 rfl
          have y1wc : wc.cell? ⟨w1.heap.size, 1, none⟩ = some (.int .i64 y1) := Kc.out.1.cell 1 rfl
          have y2wc : wc.cell? ⟨w1.heap.size + 1, 0, none⟩ = some (.int .i64 x2) := Kc.out.2.1.cell 0 rfl
          clear hb
          clear Kb C1
          go_wp2_with fail
          have e9 : (x1 != x1) = false := by simp
          by_cases hs : scI T S U
          case neg =>
            rw [hno hs] at C2
            clear hkk hcc hno hback hs
            generalize scK T S U = bk at C2
            refine (C2.out _).mono ?_
            rintro e wd ⟨rfl, hb⟩
            have Kd := Lib.hid (And.intro (Kc.out.1.carry hb) (And.intro (Kc.out.2.1.carry hb) (Kc.out.2.2.trans (hb.mono Kc.out.2.2.size))))
            clear y0wc y1wc y2wc
            have y0wd : wd.cell? ⟨w1.heap.size, 0, none⟩ = some (.int .i64 x1) := Kd.out.1.cell 0 rfl
            have y1wd : wd.cell? ⟨w1.heap.size, 1, none⟩ = some (.int .i64 y1) := Kd.out.1.cell 1 rfl
            have y2wd : wd.cell? ⟨w1.heap.size + 1, 0, none⟩ = some (.int .i64 x2) := Kd.out.2.1.cell 0 rfl
            clear hb
            clear C2 Kc
            go_wp2_with fail
            refine bodyPost_ret (v := .bool true) (by simp [results, Tryd.results3, go_sem]) rfl ⟨rfl, Kd.out.2.2⟩
          case pos =>
            rw [hcc hs, hkk hs] at C2
            clear hkk hcc hno hs
            by_cases hq : S * 64 < U
            case pos =>
              have dq : decide (S * 64 < U) = true := decide_eq_true hq
              clear hback hq
              generalize near (T * U) (S * 64) = bk at C2
              refine (C2.out _).mono ?_
              rintro e wd ⟨rfl, hb⟩
              have Kd := Lib.hid (And.intro (Kc.out.1.carry hb) (And.intro (Kc.out.2.1.carry hb) (Kc.out.2.2.trans (hb.mono Kc.out.2.2.size))))
              clear y0wc y1wc y2wc
              have y0wd : wd.cell? ⟨w1.heap.size, 0, none⟩ = some (.int .i64 x1) := Kd.out.1.cell 0 rfl
              have y1wd : wd.cell? ⟨w1.heap.size, 1, none⟩ = some (.int .i64 y1) := Kd.out.1.cell 1 rfl
              have y2wd : wd.cell? ⟨w1.heap.size + 1, 0, none⟩ = some (.int .i64 x2) := Kd.out.2.1.cell 0 rfl
              clear hb
              clear C2 Kc
              go_wp2_with fail
              refine bodyPost_ret (v := .bool true) (by simp [results, Tryd.results3, go_sem]) rfl ⟨rfl, Kd.out.2.2⟩
            case neg =>
              have dq : decide (S * 64 < U) = false := decide_eq_false hq
              rw [hback (by omega)] at C2
              have ev : (v == v) = true := by simp
              clear hback hq
              refine (C2.out _).mono ?_
              rintro e wd ⟨rfl, hb⟩
              have Kd := Lib.hid (And.intro (Kc.out.1.carry hb) (And.intro (Kc.out.2.1.carry hb) (Kc.out.2.2.trans (hb.mono Kc.out.2.2.size))))
              clear y0wc y1wc y2wc
              have y0wd : wd.cell? ⟨w1.heap.size, 0, none⟩ = some (.int .i64 x1) := Kd.out.1.cell 0 rfl
              have y1wd : wd.cell? ⟨w1.heap.size, 1, none⟩ = some (.int .i64 y1) := Kd.out.1.cell 1 rfl
              have y2wd : wd.cell? ⟨w1.heap.size + 1, 0, none⟩ = some (.int .i64 x2) := Kd.out.2.1.cell 0 rfl
              clear hb
              clear C2 Kc
              go_wp2_with fail
              refine bodyPost_ret (v := .bool true) (by simp [results, Tryd.results3, go_sem]) rfl ⟨rfl, Kd.out.2.2⟩
      case neg =>
        have d6 : decide (0 < x1) = false := decide_eq_false q0
        clear CKn
        by_cases q1 : KV < l
        case pos =>
          have d7 : decide (KV < l) = true := decide_eq_true q1
          have d8 : decide (-l < KV) = false := decide_eq_false (by omega)
          clear q1 hkl
          go_wp2_with fail
          have CP := Lib.hid (fun (w9 : World) (hb : Below w.heap.size w w9) => Pix.implPixelsText_any x1 w9 (by omega) (HTB.out w9 hb).1)
          have CQ := Lib.hid (fun (w9 : World) (hb : Below w.heap.size w w9) => Pix.implReadPixels_any (Pix.pxT x1) w9 (px_short (by omega)) (HTB.out w9 hb) (HMX.out w9 hb))
          have HRP := Lib.hid (fun (n9 : Int) (b9 : Bool) (h : Pix.Rp (Pix.pxT x1) n9 b9) => Rp_pix (v := x1) (by omega) h)
          generalize Pix.pxT x1 = tx at CP CQ HRP
          refine (CP.out _ K7.out.2.2).mono ?_
          rintro e wa ⟨rfl, hb⟩
          have Ka := Lib.hid (And.intro (K7.out.1.carry hb) (And.intro (K7.out.2.1.carry hb) (K7.out.2.2.trans (hb.mono K7.out.2.2.size))))
          clear y0w7 y1w7 y2w7
          have y0wa : wa.cell? ⟨w1.heap.size, 0, none⟩ = some (.int .i64 x1) := Ka.out.1.cell 0 rfl
          have y1wa : wa.cell? ⟨w1.heap.size, 1, none⟩ = some (.int .i64 y1) := Ka.out.1.cell 1 rfl
          have y2wa : wa.cell? ⟨w1.heap.size + 1, 0, none⟩ = some (.int .i64 x2) := Ka.out.2.1.cell 0 rfl
          clear hb
          go_wp2_with fail
          refine (CQ.out _ Ka.out.2.2).mono ?_
          rintro e wb ⟨n9, b9, rfl, hrp, hb⟩
          have Kb := Lib.hid (And.intro (Ka.out.1.carry hb) (And.intro (Ka.out.2.1.carry hb) (Ka.out.2.2.trans (hb.mono Ka.out.2.2.size))))
          clear y0wa y1wa y2wa
          have y0wb : wb.cell? ⟨w1.heap.size, 0, none⟩ = some (.int .i64 x1) := Kb.out.1.cell 0 rfl
          have y1wb : wb.cell? ⟨w1.heap.size, 1, none⟩ = some (.int .i64 y1) := Kb.out.1.cell 1 rfl
          have y2wb : wb.cell? ⟨w1.heap.size + 1, 0, none⟩ = some (.int .i64 x2) := Kb.out.2.1.cell 0 rfl
          clear hb
          obtain ⟨h9, rfl⟩ := HRP.out _ _ hrp
          have h8 : x1 = n9 := h9.symm
          subst h8
          clear CP CQ HRP hrp Ka K7
          go_wp2_with fail
          refine (CA2.out wb Kb.out.2.2).mono ?_
          rintro e v2 ⟨s2, rfl, ⟨s20, s21⟩, rfl⟩
          clear CA2
          have hws : IntKind.i64.wrap (1 + s2) = 1 + s2 := i64w (by omega)
          go_wp2_with fail
          refine (CA3.out wb Kb.out.2.2).mono ?_
          rintro e v3 ⟨u2, rfl, ⟨u20, u21⟩, rfl⟩
          clear CA3
          have hwu : IntKind.i64.wrap (64 * u2) = 64 * u2 := i64w (by omega)
          have hwu2 : IntKind.i64.wrap (16 + 64 * u2) = 16 + 64 * u2 := i64w (by omega)
          have t1 := Int.lt_tmod_of_pos y1 (show 0 < (1000 : Int) by omega)
          have t2 := Int.tmod_lt_of_pos y1 (show 0 < (1000 : Int) by omega)
          have hwt : IntKind.i64.wrap (y1.tmod 1000) = y1.tmod 1000 := i64w (by omega)
          go_wp2_with fail
          generalize hv : y1.tmod 1000 = v at *
          obtain ⟨S, hS⟩ : ∃ S, S = 1 + s2 := ⟨_, rfl⟩
          obtain ⟨U, hU⟩ : ∃ U, U = 16 + 64 * u2 := ⟨_, rfl⟩
          rw [← hS, ← hU]
          have hS1 : 1 ≤ S ∧ S ≤ 128 := by omega
          have hU1 : 16 ≤ U ∧ U ≤ 16384 := by omega
          have hwS : IntKind.i64.wrap (S * 64) = S * 64 := i64w (by omega)
          have hsc : scI v S U := ⟨⟨by omega, by omega⟩, hS1.1, hS1.2, hU1.1, hU1.2⟩
          obtain ⟨h1, h2, -⟩ := sc_yes hsc
          have C1 := Lib.hid (fun w => implScaleTo_any v S U w (by omega) (by omega) (by omega))
          rw [h1, h2] at C1
          obtain ⟨T, hT⟩ : ∃ T, T = near (v * S * 64) U := ⟨_, rfl⟩
          rw [← hT] at C1
          have hTb := t_in (v := v) (S := S) (U := U) (by omega) hS1 hU1
          rw [← hT] at hTb
          have C2 := Lib.hid (fun w => implScaleBack_any T S U w (by omega) (by omega) (by omega))
          have hback : U ≤ S * 64 → near (T * U) (S * 64) = v := fun hle => by rw [hT, Int.mul_assoc]; exact back_is (by omega) (by omega) hle
          have hkk := fun hs : scI T S U => (sc_yes hs).2.2
          have hcc := fun hs : scI T S U => (sc_yes hs).1
          have hno := fun hs : ¬ scI T S U => sc_no hs
          clear h1 h2 hT hsc hS hU
          refine (C1.out _).mono ?_
          rintro e wc ⟨rfl, hb⟩
          have Kc := Lib.hid (And.intro (Kb.out.1.carry hb) (And.intro (Kb.out.2.1.carry hb) (Kb.out.2.2.trans (hb.mono Kb.out.2.2.size))))
          clear y0wb y1wb y2wb
          have y0wc : wc.cell? ⟨w1.heap.size, 0, none⟩ = some (.int .i64 x1) := Kc.out.1.cell 0 rfl
          have y1wc : wc.cell? ⟨w1.heap.size, 1, none⟩ = some (.int .i64 y1) := Kc.out.1.cell 1 rfl
          have y2wc : wc.cell? ⟨w1.heap.size + 1, 0, none⟩ = some (.int .i64 x2) := Kc.out.2.1.cell 0 rfl
          clear hb
          clear Kb C1
          go_wp2_with fail
          have e9 : (x1 != x1) = false := by simp
          by_cases hs : scI T S U
          case neg =>
            rw [hno hs] at C2
            clear hkk hcc hno hback hs
            generalize scK T S U = bk at C2
            refine (C2.out _).mono ?_
            rintro e wd ⟨rfl, hb⟩
            have Kd := Lib.hid (And.intro (Kc.out.1.carry hb) (And.intro (Kc.out.2.1.carry hb) (Kc.out.2.2.trans (hb.mono Kc.out.2.2.size))))
            clear y0wc y1wc y2wc
            have y0wd : wd.cell? ⟨w1.heap.size, 0, none⟩ = some (.int .i64 x1) := Kd.out.1.cell 0 rfl
            have y1wd : wd.cell? ⟨w1.heap.size, 1, none⟩ = some (.int .i64 y1) := Kd.out.1.cell 1 rfl
            have y2wd : wd.cell? ⟨w1.heap.size + 1, 0, none⟩ = some (.int .i64 x2) := Kd.out.2.1.cell 0 rfl
            clear hb
            clear C2 Kc
            go_wp2_with fail
            refine bodyPost_ret (v := .bool true) (by simp [results, Tryd.results3, go_sem]) rfl ⟨rfl, Kd.out.2.2⟩
          case pos =>
            rw [hcc hs, hkk hs] at C2
            clear hkk hcc hno hs
            by_cases hq : S * 64 < U
            case pos =>
              have dq : decide (S * 64 < U) = true := decide_eq_true hq
              clear hback hq
              generalize near (T * U) (S * 64) = bk at C2
              refine (C2.out _).mono ?_
              rintro e wd ⟨rfl, hb⟩
              have Kd := Lib.hid (And.intro (Kc.out.1.carry hb) (And.intro (Kc.out.2.1.carry hb) (Kc.out.2.2.trans (hb.mono Kc.out.2.2.size))))
              clear y0wc y1wc y2wc
              have y0wd : wd.cell? ⟨w1.heap.size, 0, none⟩ = some (.int .i64 x1) := Kd.out.1.cell 0 rfl
              have y1wd : wd.cell? ⟨w1.heap.size, 1, none⟩ = some (.int .i64 y1) := Kd.out.1.cell 1 rfl
              have y2wd : wd.cell? ⟨w1.heap.size + 1, 0, none⟩ = some (.int .i64 x2) := Kd.out.2.1.cell 0 rfl
              clear hb
              clear C2 Kc
              go_wp2_with fail
              refine bodyPost_ret (v := .bool true) (by simp [results, Tryd.results3, go_sem]) rfl ⟨rfl, Kd.out.2.2⟩
            case neg =>
              have dq : decide (S * 64 < U) = false := decide_eq_false hq
              rw [hback (by omega)] at C2
              have ev : (v == v) = true := by simp
              clear hback hq
              refine (C2.out _).mono ?_
              rintro e wd ⟨rfl, hb⟩
              have Kd := Lib.hid (And.intro (Kc.out.1.carry hb) (And.intro (Kc.out.2.1.carry hb) (Kc.out.2.2.trans (hb.mono Kc.out.2.2.size))))
              clear y0wc y1wc y2wc
              have y0wd : wd.cell? ⟨w1.heap.size, 0, none⟩ = some (.int .i64 x1) := Kd.out.1.cell 0 rfl
              have y1wd : wd.cell? ⟨w1.heap.size, 1, none⟩ = some (.int .i64 y1) := Kd.out.1.cell 1 rfl
              have y2wd : wd.cell? ⟨w1.heap.size + 1, 0, none⟩ = some (.int .i64 x2) := Kd.out.2.1.cell 0 rfl
              clear hb
              clear C2 Kc
              go_wp2_with fail
              refine bodyPost_ret (v := .bool true) (by simp [results, Tryd.results3, go_sem]) rfl ⟨rfl, Kd.out.2.2⟩
        case neg =>
          have d7 : decide (KV < l) = false := decide_eq_false q1
          clear q1 hkl
          go_wp2_with fail
          have CP := Lib.hid (fun (w9 : World) (hb : Below w.heap.size w w9) => Pix.implPixelsText_any x1 w9 (by omega) (HTB.out w9 hb).1)
          have CQ := Lib.hid (fun (w9 : World) (hb : Below w.heap.size w w9) => Pix.implReadPixels_any (Pix.pxT x1) w9 (px_short (by omega)) (HTB.out w9 hb) (HMX.out w9 hb))
          have HRP := Lib.hid (fun (n9 : Int) (b9 : Bool) (h : Pix.Rp (Pix.pxT x1) n9 b9) => Rp_pix (v := x1) (by omega) h)
          generalize Pix.pxT x1 = tx at CP CQ HRP
          refine (CP.out _ K7.out.2.2).mono ?_
          rintro e wa ⟨rfl, hb⟩
          have Ka := Lib.hid (And.intro (K7.out.1.carry hb) (And.intro (K7.out.2.1.carry hb) (K7.out.2.2.trans (hb.mono K7.out.2.2.size))))
          clear y0w7 y1w7 y2w7
          have y0wa : wa.cell? ⟨w1.heap.size, 0, none⟩ = some (.int .i64 x1) := Ka.out.1.cell 0 rfl
          have y1wa : wa.cell? ⟨w1.heap.size, 1, none⟩ = some (.int .i64 y1) := Ka.out.1.cell 1 rfl
          have y2wa : wa.cell? ⟨w1.heap.size + 1, 0, none⟩ = some (.int .i64 x2) := Ka.out.2.1.cell 0 rfl
          clear hb
          go_wp2_with fail
          refine (CQ.out _ Ka.out.2.2).mono ?_
          rintro e wb ⟨n9, b9, rfl, hrp, hb⟩
          have Kb := Lib.hid (And.intro (Ka.out.1.carry hb) (And.intro (Ka.out.2.1.carry hb) (Ka.out.2.2.trans (hb.mono Ka.out.2.2.size))))
          clear y0wa y1wa y2wa
          have y0wb : wb.cell? ⟨w1.heap.size, 0, none⟩ = some (.int .i64 x1) := Kb.out.1.cell 0 rfl
          have y1wb : wb.cell? ⟨w1.heap.size, 1, none⟩ = some (.int .i64 y1) := Kb.out.1.cell 1 rfl
          have y2wb : wb.cell? ⟨w1.heap.size + 1, 0, none⟩ = some (.int .i64 x2) := Kb.out.2.1.cell 0 rfl
          clear hb
          obtain ⟨h9, rfl⟩ := HRP.out _ _ hrp
          have h8 : x1 = n9 := h9.symm
          subst h8
          clear CP CQ HRP hrp Ka K7
          go_wp2_with fail
          refine (CA2.out wb Kb.out.2.2).mono ?_
          rintro e v2 ⟨s2, rfl, ⟨s20, s21⟩, rfl⟩
          clear CA2
          have hws : IntKind.i64.wrap (1 + s2) = 1 + s2 := i64w (by omega)
          go_wp2_with fail
          refine (CA3.out wb Kb.out.2.2).mono ?_
          rintro e v3 ⟨u2, rfl, ⟨u20, u21⟩, rfl⟩
          clear CA3
          have hwu : IntKind.i64.wrap (64 * u2) = 64 * u2 := i64w (by omega)
          have hwu2 : IntKind.i64.wrap (16 + 64 * u2) = 16 + 64 * u2 := i64w (by omega)
          have t1 := Int.lt_tmod_of_pos y1 (show 0 < (1000 : Int) by omega)
          have t2 := Int.tmod_lt_of_pos y1 (show 0 < (1000 : Int) by omega)
          have hwt : IntKind.i64.wrap (y1.tmod 1000) = y1.tmod 1000 := i64w (by omega)
          go_wp2_with fail
          generalize hv : y1.tmod 1000 = v at *
          obtain ⟨S, hS⟩ : ∃ S, S = 1 + s2 := ⟨_, rfl⟩
          obtain ⟨U, hU⟩ : ∃ U, U = 16 + 64 * u2 := ⟨_, rfl⟩
          rw [← hS, ← hU]
          have hS1 : 1 ≤ S ∧ S ≤ 128 := by omega
          have hU1 : 16 ≤ U ∧ U ≤ 16384 := by omega
          have hwS : IntKind.i64.wrap (S * 64) = S * 64 := i64w (by omega)
          have hsc : scI v S U := ⟨⟨by omega, by omega⟩, hS1.1, hS1.2, hU1.1, hU1.2⟩
          obtain ⟨h1, h2, -⟩ := sc_yes hsc
          have C1 := Lib.hid (fun w => implScaleTo_any v S U w (by omega) (by omega) (by omega))
          rw [h1, h2] at C1
          obtain ⟨T, hT⟩ : ∃ T, T = near (v * S * 64) U := ⟨_, rfl⟩
          rw [← hT] at C1
          have hTb := t_in (v := v) (S := S) (U := U) (by omega) hS1 hU1
          rw [← hT] at hTb
          have C2 := Lib.hid (fun w => implScaleBack_any T S U w (by omega) (by omega) (by omega))
          have hback : U ≤ S * 64 → near (T * U) (S * 64) = v := fun hle => by rw [hT, Int.mul_assoc]; exact back_is (by omega) (by omega) hle
          have hkk := fun hs : scI T S U => (sc_yes hs).2.2
          have hcc := fun hs : scI T S U => (sc_yes hs).1
          have hno := fun hs : ¬ scI T S U => sc_no hs
          clear h1 h2 hT hsc hS hU
          refine (C1.out _).mono ?_
          rintro e wc ⟨rfl, hb⟩
          have Kc := Lib.hid (And.intro (Kb.out.1.carry hb) (And.intro (Kb.out.2.1.carry hb) (Kb.out.2.2.trans (hb.mono Kb.out.2.2.size))))
          clear y0wb y1wb y2wb
          have y0wc : wc.cell? ⟨w1.heap.size, 0, none⟩ = some (.int .i64 x1) := Kc.out.1.cell 0 rfl
          have y1wc : wc.cell? ⟨w1.heap.size, 1, none⟩ = some (.int .i64 y1) := Kc.out.1.cell 1 rfl
          have y2wc : wc.cell? ⟨w1.heap.size + 1, 0, none⟩ = some (.int .i64 x2) := Kc.out.2.1.cell 0 rfl
          clear hb
          clear Kb C1
          go_wp2_with fail
          have e9 : (x1 != x1) = false := by simp
          by_cases hs : scI T S U
          case neg =>
            rw [hno hs] at C2
            clear hkk hcc hno hback hs
            generalize scK T S U = bk at C2
            refine (C2.out _).mono ?_
            rintro e wd ⟨rfl, hb⟩
            have Kd := Lib.hid (And.intro (Kc.out.1.carry hb) (And.intro (Kc.out.2.1.carry hb) (Kc.out.2.2.trans (hb.mono Kc.out.2.2.size))))
            clear y0wc y1wc y2wc
            have y0wd : wd.cell? ⟨w1.heap.size, 0, none⟩ = some (.int .i64 x1) := Kd.out.1.cell 0 rfl
            have y1wd : wd.cell? ⟨w1.heap.size, 1, none⟩ = some (.int .i64 y1) := Kd.out.1.cell 1 rfl
            have y2wd : wd.cell? ⟨w1.heap.size + 1, 0, none⟩ = some (.int .i64 x2) := Kd.out.2.1.cell 0 rfl
            clear hb
            clear C2 Kc
            go_wp2_with fail
            refine bodyPost_ret (v := .bool true) (by simp [results, Tryd.results3, go_sem]) rfl ⟨rfl, Kd.out.2.2⟩
          case pos =>
            rw [hcc hs, hkk hs] at C2
            clear hkk hcc hno hs
            by_cases hq : S * 64 < U
            case pos =>
              have dq : decide (S * 64 < U) = true := decide_eq_true hq
              clear hback hq
              generalize near (T * U) (S * 64) = bk at C2
              refine (C2.out _).mono ?_
              rintro e wd ⟨rfl, hb⟩
              have Kd := Lib.hid (And.intro (Kc.out.1.carry hb) (And.intro (Kc.out.2.1.carry hb) (Kc.out.2.2.trans (hb.mono Kc.out.2.2.size))))
              clear y0wc y1wc y2wc
              have y0wd : wd.cell? ⟨w1.heap.size, 0, none⟩ = some (.int .i64 x1) := Kd.out.1.cell 0 rfl
              have y1wd : wd.cell? ⟨w1.heap.size, 1, none⟩ = some (.int .i64 y1) := Kd.out.1.cell 1 rfl
              have y2wd : wd.cell? ⟨w1.heap.size + 1, 0, none⟩ = some (.int .i64 x2) := Kd.out.2.1.cell 0 rfl
              clear hb
              clear C2 Kc
              go_wp2_with fail
              refine bodyPost_ret (v := .bool true) (by simp [results, Tryd.results3, go_sem]) rfl ⟨rfl, Kd.out.2.2⟩
            case neg =>
              have dq : decide (S * 64 < U) = false := decide_eq_false hq
              rw [hback (by omega)] at C2
              have ev : (v == v) = true := by simp
              clear hback hq
              refine (C2.out _).mono ?_
              rintro e wd ⟨rfl, hb⟩
              have Kd := Lib.hid (And.intro (Kc.out.1.carry hb) (And.intro (Kc.out.2.1.carry hb) (Kc.out.2.2.trans (hb.mono Kc.out.2.2.size))))
              clear y0wc y1wc y2wc
              have y0wd : wd.cell? ⟨w1.heap.size, 0, none⟩ = some (.int .i64 x1) := Kd.out.1.cell 0 rfl
              have y1wd : wd.cell? ⟨w1.heap.size, 1, none⟩ = some (.int .i64 y1) := Kd.out.1.cell 1 rfl
              have y2wd : wd.cell? ⟨w1.heap.size + 1, 0, none⟩ = some (.int .i64 x2) := Kd.out.2.1.cell 0 rfl
              clear hb
              clear C2 Kc
              go_wp2_with fail
              refine bodyPost_ret (v := .bool true) (by simp [results, Tryd.results3, go_sem]) rfl ⟨rfl, Kd.out.2.2⟩
end Go.Proofs.YtdikenapnncmfaaDoor
