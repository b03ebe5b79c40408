/- Walks: the instructions that a string's bytes stand for, the program's side. -/
import Derived.Test.YtdikenapnncmfaaDoorVhc
namespace Go.Proofs.YtdikenapnncmfaaDoor
open Go.RowKit
set_option linter.unusedVariables false
def OwH (t : TypeId) (w : World) (base : Nat) (A : Option Addr) (n c : Nat) (es : List AHint) : Prop := n = es.length ∧ w.ownsRow base t 2 (.slice A n c) n (cellsF cHint es)
section
variable {t : TypeId} {w w' : World} {base n c : Nat} {A : Option Addr} {es : List AHint}
theorem OwH.stays (h : OwH t w base A n c es) (hb : Below w.heap.size w w') : OwH t w' base A n c es := ⟨h.1, eown_stays h.2 hb⟩
theorem OwH.drew (h : OwH t w base A n c es) : OwH t w.drew base A n c es := h
theorem OwH.alloc (h : OwH t w base A n c es) (o : Obj) : OwH t (w.alloc o) base A n c es := ⟨h.1, h.2.alloc o⟩
theorem OwH.block (h : OwH t w base A n c es) : ∀ q, (Value.slice A n c).ownBlock = some q → base ≤ q ∧ q < w.heap.size := fun q hq => own_block h.2 hq
theorem OwH.base_ {base' : Nat} (h : OwH t w base A n c es) (hb : base' ≤ base) : OwH t w base' A n c es := ⟨h.1, eown_base h.2 hb⟩
theorem OwH.nil (w : World) (base : Nat) : OwH t w base none 0 0 [] := ⟨rfl, World.ownsRow_nil _ _ _ _⟩
theorem OwH.new (w : World) (base : Nat) (hb : base ≤ w.heap.size) : OwH t (w.alloc (.cells #[] t)) base (some ⟨w.heap.size, 0, none⟩) 0 0 [] :=
  ⟨rfl, rfl, .inr ⟨w.heap.size, 0, #[], rfl, hb, Blk.new w t #[], by omega, by unfold maxLen; omega, rfl, rfl⟩⟩
theorem OwH.grown {n2 c2 : Nat} {A2 : Option Addr} {vs : List AHint} (hn : n2 = es.length + vs.length) (h : w'.ownsRow base t 2 (.slice A2 n2 c2) n2 (cellsF cHint es ++ cellsF cHint vs)) : OwH t w' base A2 n2 c2 (es ++ vs) := by
  refine ⟨by rw [List.length_append]; exact hn, ?_⟩
  have : cellsF cHint (es ++ vs) = cellsF cHint es ++ cellsF cHint vs := by unfold cellsF; exact List.flatMap_append
  rw [this]; exact h
theorem OwH.rd (h : OwH t w base A n c es) {B : Nat} (hB : w.heap.size ≤ B) : Rd cHint 2 w B A es := Rd.of_own (fun a => cHint_len a) (by omega) h.2 hB
theorem OwH.reads (h : OwH t w base A n c es) : Reads w w.heap.size 2 A n (cellsF cHint es) := by
  obtain ⟨rfl, ho⟩ := h
  refine ⟨by rw [cellsF_len (fun a => cHint_len a)], fun hn => ?_⟩
  obtain ⟨g, cap, hv, _, hlt⟩ := ho.form hn
  obtain ⟨rfl, rfl⟩ : A = some ⟨g, 0, none⟩ ∧ c = cap := by injection hv with a b c; exact ⟨a, c⟩
  refine ⟨_, rfl, hlt, fun j u hu => ?_⟩
  have hj : j < es.length * 2 := by
    rcases Nat.lt_or_ge j (es.length * 2) with q | q
    · exact q
    · rw [List.getElem?_eq_none (by rw [cellsF_len (fun a => cHint_len a)]; exact q)] at hu; cases hu
  have h2 := ho.cellAt j hj
  rw [Addr.add_lit, Nat.zero_add]
  exact h2.trans hu
end
theorem hreads_new (w : World) (x y : Int) (t : TypeId) : Reads (w.alloc (.cells #[.int .i64 x, .int .i64 y] t)) (w.alloc (.cells #[.int .i64 x, .int .i64 y] t)).heap.size 2 (some ⟨w.heap.size, 0, none⟩) 1 [.int .i64 x, .int .i64 y] := by
  refine ⟨rfl, fun _ => ⟨_, rfl, by simp, fun j z hz => ?_⟩⟩
  rw [Addr.add_lit]
  have := (AtL.new w [.int .i64 x, .int .i64 y] t).cell j hz
  simpa using this
theorem hreads_at (w : World) (x y : Int) (t : TypeId) (g : Nat) (hg : w.heap.size = g) : Reads (w.alloc (.cells #[.int .i64 x, .int .i64 y] t)) (w.alloc (.cells #[.int .i64 x, .int .i64 y] t)).heap.size 2 (some ⟨g, 0, none⟩) 1 [.int .i64 x, .int .i64 y] := by
  subst hg; exact hreads_new w x y t
theorem one_h (x y : Int) : ∀ z ∈ ([.int .i64 x, .int .i64 y] : List Value), z.oneCell' = true := cHint_one (x, y)
theorem gv1 (s : ByteArray) (a : Nat) (h : a + 1 < s.size) : (getV s (a + 1) 1 : Int) = iOf s[a + 1] := by
  show ((256 * 0 + byteAt s (a + 1) : Nat) : Int) = _
  rw [byteAt_eq s _ h]; unfold iOf; omega
theorem gv2 (s : ByteArray) (a : Nat) (h : a + 2 < s.size) : (getV s (a + 1) 2 : Int) = 256 * iOf s[a + 1] + iOf s[a + 2] := by
  show ((256 * (256 * 0 + byteAt s (a + 1)) + byteAt s (a + 2) : Nat) : Int) = _
  rw [byteAt_eq s _ (show a + 1 < s.size by omega), byteAt_eq s (a + 2) h]; unfold iOf; omega
/-- What the word behind the code at a place is, and the number that is meant. -/
def WordIs (p : ByteArray) (a : Nat) (b V : Int) (X : Int) : Prop :=
  (∃ q : Bool, ∀ w, Calls Tryd.prog 61 #[.string p, .int .i64 ((a : Int) + 1), .int .i64 b] w fun e w' => e = .returned (.tuple #[.int .i64 V, .bool q]) ∧ w = w') ∧
  (∀ w, Calls Tryd.prog 62 #[.int .i64 V, .int .i64 b] w fun e w' => e = .returned (.int .i64 X) ∧ w = w')
theorem word_is (p : ByteArray) (a : Nat) (hp : p.size ≤ 1048576) (h : a < p.size) : ∃ V, WordIs p a (fmB (iOf p[a])) V (opV p[a] (p.data.toList.drop (a + 1))) := by
  have hno : ∀ b : Int, ¬ GetOk p ((a : Int) + 1) b → ∃ q : Bool, ∀ w, Calls Tryd.prog 61 #[.string p, .int .i64 ((a : Int) + 1), .int .i64 b] w fun e w' => e = .returned (.tuple #[.int .i64 0, .bool q]) ∧ w = w' :=
    fun b hb => ⟨false, fun w => implGet_no p ((a : Int) + 1) b w hp hb (by omega) (by omega)⟩
  rcases fmB_cases (iOf p[a]) with e | e | e
  · refine ⟨0, ?_⟩
    rw [opV_0 p a h e, e]
    exact ⟨hno 0 (by unfold GetOk; omega), fun w => signed_0 w⟩
  · by_cases h1 : a + 1 < p.size
    · refine ⟨(getV p (a + 1) 1 : Int), ?_⟩
      rw [opV_1 p a h e h1, e]
      refine ⟨⟨true, fun w => implGet_yes p (a + 1) 1 w hp (by omega) (by omega) (by omega)⟩, fun w => ?_⟩
      have := iOf_lt p[a + 1]
      rw [gv1 p a h1]
      exact signed_1 _ w this.1 this.2
    · refine ⟨0, ?_⟩
      rw [opV_short p a h (by omega), e]
      exact ⟨hno 1 (by unfold GetOk; omega), fun w => signed_1 0 w (by omega) (by omega)⟩
  · by_cases h1 : a + 2 < p.size
    · refine ⟨(getV p (a + 1) 2 : Int), ?_⟩
      rw [opV_2 p a h e h1, e]
      refine ⟨⟨true, fun w => implGet_yes p (a + 1) 2 w hp (by omega) (by omega) (by omega)⟩, fun w => ?_⟩
      have := iOf_lt p[a + 1]
      have := iOf_lt p[a + 2]
      rw [gv2 p a h1]
      exact signed_2 _ w (by omega) (by omega)
    · refine ⟨0, ?_⟩
      rw [opV_short p a h (by omega), e]
      exact ⟨hno 2 (by unfold GetOk; omega), fun w => signed_2 0 w (by omega) (by omega)⟩
/-- What comes of decoded. -/
def HinRet (l : List AHint) (w : World) (e : Ending) (w' : World) : Prop := ∃ (A : Option Addr) (k : Nat), e = .returned (.slice A l.length k) ∧ OwH 68 w' w.heap.size A l.length k l ∧ Below w.heap.size w w'
set_option maxRecDepth 100000 in
set_option maxHeartbeats 12800000 in
theorem decoded_any (p : ByteArray) (w : World) (hp : p.size ≤ 1048576) : Calls Tryd.prog 40 #[.string p] w (HinRet (decW p.data.toList) w) := by
  obtain ⟨D, hD⟩ : ∃ D, D = decW p.data.toList := ⟨_, rfl⟩
  rw [← hD]
  have HD := Lib.hid hD
  clear hD
  unfold HinRet
  obtain ⟨i0, hi0, hz0', hz1', hz2'⟩ := oinfo_parts infoHint
  have HI0 := Lib.hid hi0
  have HZ0 := Lib.hid hz0'
  have HZ1 := Lib.hid hz1'
  have HZ2 := Lib.hid hz2'
  clear hi0 hz0' hz1' hz2'
  go_enter Tryd.func40, Tryd.ntmps40
  go_wp2_with fail
  go_loopw [3, 4] (fun s i wr => ∃ (a N : Nat) (A' : Option Addr) (c' : Nat) (es : List AHint), a ≤ p.size + 2 ∧ N ≤ a ∧ i = .int .i64 (a : Int) ∧ s = .slice A' N c' ∧ es ++ decW (p.data.toList.drop a) = D ∧ OwH 68 wr w.heap.size A' N c' es ∧ Below w.heap.size w wr) (fun _ i _ => p.size - (intOf i).toNat)
  case atStart => exact ⟨0, 0, none, 0, [], by omega, by omega, rfl, rfl, by rw [HD.out]; rfl, OwH.nil _ _, by repeat' (first | with_reducible assumption | with_reducible exact Below.refl _ _ | (with_reducible refine Below.setCell ?_ ?_ _) | (with_reducible refine Below.alloc ?_ ?_ _) | (with_reducible refine Below.drew ?_) | (with_reducible refine below_dr ?_ _) | (with_reducible refine Below.trans ?_ (Below.mono (by with_reducible assumption) ?_)) | omega | (simp; done) | (simp; omega))⟩
  case round =>
    obtain ⟨a, N, A', c', es, hap, hNa, rfl, rfl, he, ow, hbl⟩ := hrel
    have HE := Lib.hid he
    have HOW := Lib.hid ow
    clear he ow
    have zr := hbl.size
    by_cases hlt : a < p.size
    case neg =>
      have hle : (p.size : Int) ≤ (a : Int) := by omega
      have HX : es = D := by have h := HE.out; rw [List.drop_eq_nil_of_le (by rw [size_list]; omega), decW_nil, List.append_nil] at h; exact h
      have OWF := Lib.hid (show ∃ (A : Option Addr) (k : Nat), (Value.slice A' N c') = .slice A D.length k ∧ OwH 68 wr w.heap.size A D.length k D from ⟨A', c', by rw [← HX, ← HOW.out.1], by rw [← HX, ← HOW.out.1]; exact HOW.out⟩)
      clear HX
      go_wp2_with fail
      refine bodyPost_ret (v := .slice A' N c') (by simp [results, Tryd.results40, go_sem]) rfl ?_
      obtain ⟨A9, k9, e9, o9⟩ := OWF.out
      exact ⟨A9, k9, by rw [e9], o9, hbl⟩
    case pos =>
      have hki : (a : Int) < (p.size : Int) := by omega
      have hu : (p[a].toNat : Int) ≤ 255 := by have := p[a].toNat_lt; omega
      obtain ⟨V, hW⟩ := word_is p a hp hlt
      have hdec := decW_at p a hlt
      have hnb := nbO_int p[a]
      have hfc := fmB_cases (iOf p[a])
      obtain ⟨X, hX⟩ : ∃ X, X = opV p[a] (p.data.toList.drop (a + 1)) := ⟨_, rfl⟩
      rw [← hX] at hW hdec
      have CF := fun w => form_any (iOf p[a]) 0 w
      generalize fmL (iOf p[a]) = fl at CF
      generalize fmG (iOf p[a]) = fg at CF
      obtain ⟨b, hb⟩ : ∃ b, b = nbO p[a] := ⟨_, rfl⟩
      rw [← hnb, ← hb] at hW CF hfc
      rw [← hb] at hdec
      have hb2 : b ≤ 2 := by omega
      obtain ⟨⟨q, hG⟩, hS⟩ := hW
      have CG := Lib.hid hG
      have CS := Lib.hid hS
      have CFH := Lib.hid CF
      have HDEC := Lib.hid hdec
      clear hX hdec hnb hfc hb CF hG hS
      unfold iOf at CFH
      generalize hc : (p[a].toNat : Int) = C at *
      have HC := Lib.hid hc
      have hbw : IntKind.i64.wrap (1 + (b : Int)) = 1 + (b : Int) := IntWalk.i64_in _ (by omega)
      have haw : IntKind.i64.wrap ((a : Int) + (1 + (b : Int))) = (a : Int) + (1 + (b : Int)) := IntWalk.i64_in _ (by omega)
      have hfd : ∀ W, (Instr.field 81 (.agg #[.int .i64 b, .int .i64 fl, .int .i64 fg]) 0).run Tryd.prog W = .ok (.int .i64 b) W := fun _ => by kernel_rfl
      go_wp2_with fail
      have kB : Blk (wr.alloc (.cells #[.int .i64 C, .int .i64 0] 68)) wr.heap.size 68 #[.int .i64 C, .int .i64 0] := Blk.new _ _ _
      refine (CFH.out _).mono ?_
      rintro e w1 ⟨rfl, hb1⟩
      have k1 := kB.carry hb1
      have z0 : w1.cell? ⟨wr.heap.size, 0, none⟩ = some (.int .i64 C) := k1.cell 0 rfl
      have z1 : w1.cell? ⟨wr.heap.size, 1, none⟩ = some (.int .i64 0) := k1.cell 1 rfl
      have zf : w1.frozen? ⟨wr.heap.size, 1, none⟩ = false := k1.frozen 1
      have qz : wr.heap.size < w1.heap.size := k1.lt
      have ow1 := (HOW.out.alloc (.cells #[.int .i64 C, .int .i64 0] 68)).stays hb1
      have bl1 : Below w.heap.size w w1 := by repeat' (first | with_reducible assumption | with_reducible exact Below.refl _ _ | (with_reducible refine Below.setCell ?_ ?_ _) | (with_reducible refine Below.alloc ?_ ?_ _) | (with_reducible refine Below.drew ?_) | (with_reducible refine below_dr ?_ _) | (with_reducible refine Below.trans ?_ (Below.mono (by with_reducible assumption) ?_)) | omega | (simp; done) | (simp; omega))
      have ow2 : OwH 68 (w1.setCell ⟨wr.heap.size, 1, none⟩ (.int .i64 X)) w.heap.size A' N c' es := ⟨ow1.1, own_keep ow1.2 (fun q hq => by have := HOW.out.block q hq; simp only; omega) _⟩
      have bl2 : Below w.heap.size w (w1.setCell ⟨wr.heap.size, 1, none⟩ (.int .i64 X)) := by repeat' (first | with_reducible assumption | with_reducible exact Below.refl _ _ | (with_reducible refine Below.setCell ?_ ?_ _) | (with_reducible refine Below.alloc ?_ ?_ _) | (with_reducible refine Below.drew ?_) | (with_reducible refine below_dr ?_ _) | (with_reducible refine Below.trans ?_ (Below.mono (by with_reducible assumption) ?_)) | omega | (simp; done) | (simp; omega))
      have HMX := Lib.hid (show N + 1 ≤ maxLen by unfold maxLen; omega)
      have HBY := Lib.hid (show (N + 1) * 16 ≤ 140737488355328 by omega)
      have HRD := Lib.hid (hreads_at (w1.setCell ⟨wr.heap.size, 1, none⟩ (.int .i64 X)) C X 68 w1.heap.size (by simp))
      have HOW9 := Lib.hid (show (World.alloc (w1.setCell ⟨wr.heap.size, 1, none⟩ (.int .i64 X)) (.cells #[.int .i64 C, .int .i64 X] 68)).ownsRow w.heap.size 68 2 (.slice A' N c') N _ from (ow2.alloc _).2)
      have HRB := Lib.hid HOW.out.block
      have HBS := Lib.hid (show w.heap.size ≤ (World.alloc (w1.setCell ⟨wr.heap.size, 1, none⟩ (.int .i64 X)) (.cells #[.int .i64 C, .int .i64 X] 68)).heap.size by simp; omega)
      have HGA := Lib.hid (show Below w.heap.size w (World.alloc (w1.setCell ⟨wr.heap.size, 1, none⟩ (.int .i64 X)) (.cells #[.int .i64 C, .int .i64 X] 68)) by repeat' (first | with_reducible assumption | with_reducible exact Below.refl _ _ | (with_reducible refine Below.setCell ?_ ?_ _) | (with_reducible refine Below.alloc ?_ ?_ _) | (with_reducible refine Below.drew ?_) | (with_reducible refine below_dr ?_ _) | (with_reducible refine Below.trans ?_ (Below.mono (by with_reducible assumption) ?_)) | omega | (simp; done) | (simp; omega)))
      clear k1 kB ow1 ow2 hb1 bl1 bl2
      go_wp2_with (first | (go_at_call 61; refine (CG.out _).mono ?_; rintro e w2 ⟨rfl, rfl⟩) | (go_at_call 62; refine (CS.out _).mono ?_; rintro e w2 ⟨rfl, rfl⟩) | (at_builtin; refine wpList_append_any _ rfl (.tmp 33) (.tmp 35) _ rfl w.heap.size 68 i0 _ 2 16 Tryd.underlying37 HI0.out HZ0.out HZ1.out HZ2.out rfl (by omega) (.slice A' N c') N _ rfl HOW9.out _ (some ⟨w1.heap.size, 0, none⟩) 1 1 [.int .i64 C, .int .i64 X] rfl HRD.out (one_h C X) HMX.out HBY.out HBS.out ?_; intro v9 w9 hown9 hg9 hat9; obtain ⟨g9, cap9, rfl, _, _⟩ := hown9.form (by omega); have HOWN9 := Lib.hid hown9; have HG9 := Lib.hid hg9; clear hown9 hg9 hat9))
      have g9b : Below w.heap.size w w9 := below_of_grown HGA.out HG9.out (by simp; omega) (fun q hq => by have := HRB.out q hq; omega)
      have ow9 : OwH 68 w9 w.heap.size (some ⟨g9, 0, none⟩) (N + 1) cap9 (es ++ [(C, X)]) := OwH.grown (by have := HOW.out.1; simp only [List.length_cons, List.length_nil]; omega) HOWN9.out
      have HF := Lib.hid (show (es ++ [(C, X)]) ++ decW (p.data.toList.drop (a + 1 + b)) = D by rw [List.append_assoc]; show es ++ ((C, X) :: decW (p.data.toList.drop (a + 1 + b))) = D; rw [← HE.out, HDEC.out]; unfold iOf; rw [HC.out])
      go_roundw
      case rel => exact ⟨a + 1 + b, N + 1, _, _, es ++ [(C, X)], by omega, by omega, by congr 1; omega, rfl, HF.out, ow9, g9b⟩
      case measure => simp [intOf]; omega
end Go.Proofs.YtdikenapnncmfaaDoor
