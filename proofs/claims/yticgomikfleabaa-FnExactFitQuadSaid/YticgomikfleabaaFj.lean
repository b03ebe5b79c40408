/- Walks: a quadratic is flattened, the reference's side. -/
import Derived.Test.YticgomikfleabaaFi
import Derived.Test.YticgomikfleabaaFo
import Derived.Test.YticgomikfleabaaQa1
import Derived.Test.YticgomikfleabaaQb1
import Derived.Test.YticgomikfleabaaCg
namespace Go.Proofs.Yticgomikfleabaa
open Go.RowKit Go.Shelf
set_option linter.unusedVariables false
def pwN (lv : Int) : Nat := 2 ^ lv.toNat
theorem shl_one {lv : Int} (h0 : 0 ≤ lv) (h6 : lv ≤ 6) : 1 ≤ pwN lv ∧ pwN lv ≤ 64 ∧ (∀ w, (Go.Op.shift .shl .i64 1 .i64 lv).run Try.prog w = .ok (.int .i64 (pwN lv : Int)) w) ∧ wrap64 (2 ^ lv.toNat) = (pwN lv : Int) := by
  rcases seven h0 h6 with rfl | rfl | rfl | rfl | rfl | rfl | rfl
  all_goals exact ⟨by decide, by decide, fun _ => rfl, by kernel_rfl⟩
theorem levV_in (B t : Int) : 0 ≤ levV B t ∧ levV B t ≤ 6 := by unfold levV; (repeat' split) <;> omega
theorem levC_yes {B t : Int} (h : B ≤ 16384 * t) : levC B t = 0 := if_pos h
theorem levC_no {B t : Int} (h : ¬ B ≤ 16384 * t) : levC B t = 5 := if_neg h
def crvQ (m0 m1 m2 m3 m4 m5 n : Int) (k : Nat) : APt := (near (mix2 m0 m2 m4 k n) (n * n), near (mix2 m1 m3 m5 k n) (n * n))
def szQ (m0 m1 m2 m3 m4 m5 : Int) : Int := szI (secI m0 m2 m4) (secI m1 m3 m5)
def FlRet (l : List APt) (c : Value) (w : World) (e : Ending) (w' : World) : Prop :=
  ∃ (A : Option Addr) (k : Nat), e = .returned (.tuple #[.slice A l.length k, c]) ∧ w'.ownsRow w.heap.size 29 2 (.slice A l.length k) l.length (cellsF cPt l) ∧ Below w.heap.size w w'
theorem FlRet.nil {c : Value} {w w' : World} (hb : Below w.heap.size w w') : FlRet [] c w (.returned (.tuple #[.slice none 0 0, c])) w' := ⟨none, 0, rfl, World.ownsRow_nil _ _ _ _, hb⟩
theorem okQ_parts {m0 m1 m2 m3 m4 m5 : Int} (h : okQ m0 m1 m2 m3 m4 m5 = true) : okB m0 m1 = true ∧ okB m2 m3 = true ∧ okB m4 m5 = true := by
  unfold okQ at h; simp only [Bool.and_eq_true] at h; exact ⟨h.1.1, h.1.2, h.2⟩
theorem szQ_bound {m0 m1 m2 m3 m4 m5 : Int} (h : okQ m0 m1 m2 m3 m4 m5 = true) : 0 ≤ szQ m0 m1 m2 m3 m4 m5 ∧ szQ m0 m1 m2 m3 m4 m5 ≤ 2097152 := by
  obtain ⟨h0, h1, h2⟩ := okQ_parts h
  obtain ⟨a1, a2, a3, a4⟩ := okB_bounds h0
  obtain ⟨b1, b2, b3, b4⟩ := okB_bounds h1
  obtain ⟨c1, c2, c3, c4⟩ := okB_bounds h2
  exact szI_bound (secI_bound (by omega) (by omega) (by omega) (by omega) (by omega) (by omega)) (secI_bound (by omega) (by omega) (by omega) (by omega) (by omega) (by omega))
def lvB (B t : Int) : Bool := decide (B ≤ 16384 * t)
def L10Ret (B t : Int) (w : World) (e : Ending) (w' : World) : Prop := e = .returned (.tuple #[.int .i64 (levV B t), .bool (lvB B t)]) ∧ Below w.heap.size w w'
theorem L10Ret.mk {B t a : Int} {c : Bool} {w w' : World} (h1 : a = levV B t) (h2 : c = lvB B t) (hb : Below w.heap.size w w') : L10Ret B t w (.returned (.tuple #[.int .i64 a, .bool c])) w' := by subst h1 h2; exact ⟨rfl, hb⟩
theorem lvB_of {B t : Int} : (0 = levC B t → true = lvB B t) ∧ (5 = levC B t → false = lvB B t) := by
  unfold levC lvB; split <;> simp_all
set_option maxHeartbeats 3200000 in
theorem l10Level_any (m0 m1 m2 m3 m4 m5 t : Int) (b : Nat) (w : World) (hb : b < w.heap.size) (c0 : w.cell? ⟨b, 0, none⟩ = some (.int .i64 m0)) (c1 : w.cell? ⟨b, 1, none⟩ = some (.int .i64 m1)) (c2 : w.cell? ⟨b, 2, none⟩ = some (.int .i64 m2)) (c3 : w.cell? ⟨b, 3, none⟩ = some (.int .i64 m3)) (c4 : w.cell? ⟨b, 4, none⟩ = some (.int .i64 m4)) (c5 : w.cell? ⟨b, 5, none⟩ = some (.int .i64 m5)) (hok : okQ m0 m1 m2 m3 m4 m5 = true) (t1 : 1 ≤ t) (t2 : t ≤ 262144) :
    Calls Try.prog 63 #[.pointer (some ⟨b, 0, none⟩), .int .i64 t] w (L10Ret (szQ m0 m1 m2 m3 m4 m5) t w) := by
  obtain ⟨h0, h1, h2⟩ := okQ_parts hok
  have HH0 := Lib.hid h0
  have HH1 := Lib.hid h1
  have HH2 := Lib.hid h2
  obtain ⟨b1, b2⟩ := szQ_bound hok
  obtain ⟨z01, z02, z03, z04⟩ := okB_bounds h0
  obtain ⟨z11, z12, z13, z14⟩ := okB_bounds h1
  obtain ⟨z21, z22, z23, z24⟩ := okB_bounds h2
  clear h0 h1 h2 hok
  have C2 := Lib.hid (fun w => l09Size_any (secI m0 m2 m4) (secI m1 m3 m5) w (secI_bound (by omega) (by omega) (by omega) (by omega) (by omega) (by omega)) (secI_bound (by omega) (by omega) (by omega) (by omega) (by omega) (by omega)))
  have C1 := Lib.hid (fun w => l09Second_any m0 m1 m2 m3 m4 m5 w HH0.out HH1.out HH2.out)
  rw [show m0 - 2 * m2 + m4 = secI m0 m2 m4 from rfl, show m1 - 2 * m3 + m5 = secI m1 m3 m5 from rfl] at C1
  rw [show szI (secI m0 m2 m4) (secI m1 m3 m5) = szQ m0 m1 m2 m3 m4 m5 from rfl] at C2
  clear z01 z02 z03 z04 z11 z12 z13 z14 z21 z22 z23 z24 HH0 HH1 HH2
  generalize secI m0 m2 m4 = s1 at C1 C2
  generalize secI m1 m3 m5 = s2 at C1 C2
  generalize szQ m0 m1 m2 m3 m4 m5 = B at *
  go_enter Try.func63, Try.ntmps63
  go_wp2_with fail
  go_region_held3 (fun w' => w'.cell? ⟨b, 0, none⟩ = some (.int .i64 m0) ∧ w'.cell? ⟨b, 1, none⟩ = some (.int .i64 m1) ∧ w'.cell? ⟨b, 2, none⟩ = some (.int .i64 m2) ∧ w'.cell? ⟨b, 3, none⟩ = some (.int .i64 m3) ∧ w'.cell? ⟨b, 4, none⟩ = some (.int .i64 m4) ∧ w'.cell? ⟨b, 5, none⟩ = some (.int .i64 m5) ∧ b < w'.heap.size)
    (first | ((try dsimp only); (repeat' apply And.intro); all_goals (first | assumption | omega | (simp (disch := omega) [*]; done) | (simp; omega))) | fail)
    (first
      | (go_at_call 94; (with_reducible refine (C1.out _).mono ?_); rintro e wA ⟨rfl, hbwA⟩; obtain ⟨hcwA, hfwA⟩ := bcell hbwA; have hzwA := hbwA.size; (try simp only [World.size_drew] at hcwA hfwA hzwA))
      | (go_at_call 93; (with_reducible refine (C2.out _).mono ?_); rintro e wC ⟨rfl, hbwC⟩; obtain ⟨hcwC, hfwC⟩ := bcell hbwC; have hzwC := hbwC.size; (try simp only [World.size_drew] at hcwC hfwC hzwC)))
  all_goals
    go_wp2_with fail
    have bB : Below w.heap.size w wC := by repeat' (first | with_reducible assumption | with_reducible exact Below.refl _ _ | (with_reducible refine Below.setCell ?_ ?_ _) | (with_reducible refine Below.alloc ?_ ?_ _) | (with_reducible refine Below.drew ?_) | (with_reducible refine below_dr ?_ _) | (with_reducible refine Below.trans ?_ (Below.mono (by with_reducible assumption) ?_)) | omega | (simp; done) | (simp; omega))
    clear hbwA hbwC hcwA hfwA hcwC hfwC c0 c1 c2 c3 c4 c5
    go_loopw [7] (fun i wr => ∃ k : Nat, k ≤ 7 ∧ i = .int .i64 k ∧ LV B t k ∧ wC = wr) (fun i _ => 7 - (intOf i).toNat)
    case atStart => exact ⟨0, by omega, rfl, trivial, rfl⟩
    case round =>
      obtain ⟨k, hk, rfl, hl, rfl⟩ := hrel
      by_cases hlt : k < 7
      · rcases (by omega : k = 0 ∨ k = 1 ∨ k = 2 ∨ k = 3 ∨ k = 4 ∨ k = 5 ∨ k = 6) with rfl | rfl | rfl | rfl | rfl | rfl | rfl
        · clear hk hlt
          have hl' := Lib.hid hl
          clear hl
          by_cases hle : B ≤ 4 * t
          · have H := Lib.hid (lev_at0 t1  hle)
            go_wp2
            refine bodyPost_ret (v := .tuple #[.int .i64 0, .bool true]) (by simp [results, Try.results63, go_sem]) rfl (L10Ret.mk H.out.1 (lvB_of.1 H.out.2) bB)
          · have hge : 4 * t < B := by omega
            have hd : decide (B ≤ 4 * t) = false := by simpa using hle
            clear hle
            go_wp2
            go_roundw
            case rel => exact ⟨1, by omega, by go_num, hge, by first | trivial | rfl⟩
            case measure => simp [intOf]
        · clear hk hlt
          have hl' := Lib.hid hl
          clear hl
          by_cases hle : B ≤ 16 * t
          · have H := Lib.hid (lev_at1 t1 hl'.out hle)
            go_wp2
            refine bodyPost_ret (v := .tuple #[.int .i64 1, .bool true]) (by simp [results, Try.results63, go_sem]) rfl (L10Ret.mk H.out.1 (lvB_of.1 H.out.2) bB)
          · have hge : 16 * t < B := by omega
            have hd : decide (B ≤ 16 * t) = false := by simpa using hle
            clear hle
            go_wp2
            go_roundw
            case rel => exact ⟨2, by omega, by go_num, hge, by first | trivial | rfl⟩
            case measure => simp [intOf]
        · clear hk hlt
          have hl' := Lib.hid hl
          clear hl
          by_cases hle : B ≤ 64 * t
          · have H := Lib.hid (lev_at2 t1 hl'.out hle)
            go_wp2
            refine bodyPost_ret (v := .tuple #[.int .i64 2, .bool true]) (by simp [results, Try.results63, go_sem]) rfl (L10Ret.mk H.out.1 (lvB_of.1 H.out.2) bB)
          · have hge : 64 * t < B := by omega
            have hd : decide (B ≤ 64 * t) = false := by simpa using hle
            clear hle
            go_wp2
            go_roundw
            case rel => exact ⟨3, by omega, by go_num, hge, by first | trivial | rfl⟩
            case measure => simp [intOf]
        · clear hk hlt
          have hl' := Lib.hid hl
          clear hl
          by_cases hle : B ≤ 256 * t
          · have H := Lib.hid (lev_at3 t1 hl'.out hle)
            go_wp2
            refine bodyPost_ret (v := .tuple #[.int .i64 3, .bool true]) (by simp [results, Try.results63, go_sem]) rfl (L10Ret.mk H.out.1 (lvB_of.1 H.out.2) bB)
          · have hge : 256 * t < B := by omega
            have hd : decide (B ≤ 256 * t) = false := by simpa using hle
            clear hle
            go_wp2
            go_roundw
            case rel => exact ⟨4, by omega, by go_num, hge, by first | trivial | rfl⟩
            case measure => simp [intOf]
        · clear hk hlt
          have hl' := Lib.hid hl
          clear hl
          by_cases hle : B ≤ 1024 * t
          · have H := Lib.hid (lev_at4 t1 hl'.out hle)
            go_wp2
            refine bodyPost_ret (v := .tuple #[.int .i64 4, .bool true]) (by simp [results, Try.results63, go_sem]) rfl (L10Ret.mk H.out.1 (lvB_of.1 H.out.2) bB)
          · have hge : 1024 * t < B := by omega
            have hd : decide (B ≤ 1024 * t) = false := by simpa using hle
            clear hle
            go_wp2
            go_roundw
            case rel => exact ⟨5, by omega, by go_num, hge, by first | trivial | rfl⟩
            case measure => simp [intOf]
        · clear hk hlt
          have hl' := Lib.hid hl
          clear hl
          by_cases hle : B ≤ 4096 * t
          · have H := Lib.hid (lev_at5 t1 hl'.out hle)
            go_wp2
            refine bodyPost_ret (v := .tuple #[.int .i64 5, .bool true]) (by simp [results, Try.results63, go_sem]) rfl (L10Ret.mk H.out.1 (lvB_of.1 H.out.2) bB)
          · have hge : 4096 * t < B := by omega
            have hd : decide (B ≤ 4096 * t) = false := by simpa using hle
            clear hle
            go_wp2
            go_roundw
            case rel => exact ⟨6, by omega, by go_num, hge, by first | trivial | rfl⟩
            case measure => simp [intOf]
        · clear hk hlt
          have hl' := Lib.hid hl
          clear hl
          by_cases hle : B ≤ 16384 * t
          · have H := Lib.hid (lev_at6 t1 hl'.out hle)
            go_wp2
            refine bodyPost_ret (v := .tuple #[.int .i64 6, .bool true]) (by simp [results, Try.results63, go_sem]) rfl (L10Ret.mk H.out.1 (lvB_of.1 H.out.2) bB)
          · have hge : 16384 * t < B := by omega
            have hd : decide (B ≤ 16384 * t) = false := by simpa using hle
            clear hle
            go_wp2
            go_roundw
            case rel => exact ⟨7, by omega, by go_num, hge, by first | trivial | rfl⟩
            case measure => simp [intOf]
      · obtain rfl : k = 7 := by omega
        have H := Lib.hid (lev_no t1 hl)
        clear hl hk hlt
        go_wp2
        refine bodyPost_ret (v := .tuple #[.int .i64 0, .bool false]) (by simp [results, Try.results63, go_sem]) rfl (L10Ret.mk H.out.1 (lvB_of.2 H.out.2) bB)
end Go.Proofs.Yticgomikfleabaa
