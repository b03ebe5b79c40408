/- Parts of a pixel read from a text: the values of both sides. -/
import Derived.Test.YtdikenapnncmfaaDoorRxaq
namespace Go.Proofs.YtdikenapnncmfaaDoor.Pix
open Go.RowKit
set_option linter.unusedVariables false
abbrev w64 (n : Int) : Int := IntKind.i64.wrap n
theorem w64_in {n : Int} (h : -9223372036854775808 ≤ n ∧ n ≤ 9223372036854775807) : w64 n = n := IntWalk.i64_in _ h
def cA (s : ByteArray) : ByteArray := ⟨(Lib.cut (unL s.data.toList) [58]).1.toArray⟩
def cB (s : ByteArray) : ByteArray := ⟨(Lib.cut (unL s.data.toList) [58]).2.1.toArray⟩
def unB (s : ByteArray) : ByteArray := ⟨(unL s.data.toList).toArray⟩
def ngB (s : ByteArray) : Bool := Lib.hasPrefix s.data.toList [45]
def vW (s : ByteArray) : Int := w64 (w64 (w64 (n0 (cA s).data.toList * 64) + n0 (49 :: (cB s).data.toList)) - 100)
def vF (s : ByteArray) : Int := if ngB s then w64 (-(vW s)) else vW s
theorem unL_len (l : List UInt8) : (unL l).length ≤ l.length := by
  unfold unL Lib.trimPrefix
  split <;> simp
theorem unB_size (s : ByteArray) : (unB s).size ≤ s.size := by
  have := unL_len s.data.toList
  rw [len_list] at this
  have h2 : (unB s).size = (unL s.data.toList).length := by simp [unB, ByteArray.size]
  omega
theorem cA_size (s : ByteArray) : (cA s).size ≤ s.size := by
  have h1 := unL_len s.data.toList
  have h2 := (cut_lens58 (unL s.data.toList)).1
  rw [len_list] at h1
  have : (cA s).size = (Lib.cut (unL s.data.toList) [58]).1.length := by simp [cA, ByteArray.size]
  omega
theorem cB_size (s : ByteArray) : (cB s).size ≤ s.size := by
  have h1 := unL_len s.data.toList
  have h2 := (cut_lens58 (unL s.data.toList)).2
  rw [len_list] at h1
  have : (cB s).size = (Lib.cut (unL s.data.toList) [58]).2.1.length := by simp [cB, ByteArray.size]
  omega
theorem rd_val {s : ByteArray} {a : Nat} (ha : a ≤ 1099511627776) (h : unL s.data.toList = Lib.decDigits (a / 64) ++ 58 :: dg (a % 64)) : vW s = (a : Int) := by
  obtain ⟨r1, r2, r3⟩ := read_a ha
  have h1 : (cA s).data.toList = Lib.decDigits (a / 64) := by simp [cA, h, r1]
  have h2 : (cB s).data.toList = dg (a % 64) := by simp [cB, h, r1]
  unfold vW
  rw [h1, h2, r2, r3]
  rw [w64_in (n := ((a / 64 : Nat) : Int) * 64) (by omega), w64_in (n := ((a / 64 : Nat) : Int) * 64 + (100 + ((a % 64 : Nat) : Int))) (by omega), w64_in (by omega)]
  omega
theorem rd_right {s : ByteArray} {m : Int} (hm : ptI m) (h : pxT m = s) : vF s = m := by
  obtain ⟨a, ha, hA⟩ := pxT_cases hm (congrArg (fun x : ByteArray => x.data.toList) h)
  rcases hA with ⟨rfl, l⟩ | ⟨rfl, l⟩
  · obtain ⟨u1, u2⟩ := unL_no (l := s.data.toList) (by rw [show s.data.toList = _ from l]; exact dig_head _ _)
    unfold vF ngB
    rw [u2, rd_val ha (u1.trans l)]
    simp
  · obtain ⟨u1, u2⟩ := unL_neg (Lib.decDigits (a / 64) ++ 58 :: dg (a % 64))
    have l' : s.data.toList = 45 :: (Lib.decDigits (a / 64) ++ 58 :: dg (a % 64)) := l
    unfold vF ngB
    rw [l', u2, rd_val ha (by rw [l', u1]), if_pos rfl]
    exact w64_in (by omega)
theorem rd_nil : vF ⟨#[]⟩ = -99 := by decide +kernel
theorem Rp_yes {s : ByteArray} (h : pxT (vF s) = s) : Rp s (vF s) true := by
  by_cases hp : ptI (vF s)
  · exact .inl ⟨rfl, hp, h⟩
  · have hs : s = ⟨#[]⟩ := h.symm.trans (pxT_out hp)
    rw [hs, rd_nil] at hp
    exact absurd hp (by decide)
theorem Rp_no {s : ByteArray} (h : ¬ pxT (vF s) = s) : Rp s 0 false := by
  refine .inr ⟨rfl, rfl, fun m hm e => h ?_⟩
  rw [rd_right hm e]; exact e
/-- The reference's number. -/
def nS (s p q : ByteArray) (c0 c1 : Int) : Int := (if ngB s then -1 else 1) * (64 * hB p.data.toList + 10 * (c0 - 48) + c1 - 48)
theorem sp_parts {s : ByteArray} {m : Int} (hm : ptI m) (h : pxT m = s) : ∃ a : Nat, a ≤ 1099511627776 ∧ m = (if ngB s then -1 else 1) * (a : Int) ∧ (partsc (unB s) 58).map (·.data.toList) = [Lib.decDigits (a / 64), dg (a % 64)] := by
  obtain ⟨a, ha, hA⟩ := pxT_cases hm (congrArg (fun x : ByteArray => x.data.toList) h)
  have key : unL s.data.toList = Lib.decDigits (a / 64) ++ 58 :: dg (a % 64) → (partsc (unB s) 58).map (·.data.toList) = [Lib.decDigits (a / 64), dg (a % 64)] := by
    intro u
    rw [partsc_split, show (unB s).data.toList = unL s.data.toList by simp [unB], u, split_a ha]
  rcases hA with ⟨e, l⟩ | ⟨e, l⟩
  · obtain ⟨u1, u2⟩ := unL_no (l := s.data.toList) (by rw [show s.data.toList = _ from l]; exact dig_head _ _)
    exact ⟨a, ha, by unfold ngB; rw [u2]; simpa using e, key (u1.trans l)⟩
  · obtain ⟨u1, u2⟩ := unL_neg (Lib.decDigits (a / 64) ++ 58 :: dg (a % 64))
    have l' : s.data.toList = 45 :: (Lib.decDigits (a / 64) ++ 58 :: dg (a % 64)) := l
    exact ⟨a, ha, by unfold ngB; rw [l', u2]; simp [e], key (by rw [l', u1])⟩
theorem sp_len {s : ByteArray} (h : ¬ (partsc (unB s) 58).length = 2) : Rp s 0 false := by
  refine .inr ⟨rfl, rfl, fun m hm e => h ?_⟩
  obtain ⟨a, _, _, h3⟩ := sp_parts hm e
  have := congrArg List.length h3
  simpa using this
theorem two_ofB {P : List ByteArray} (h : P.length = 2) : ∃ p q, P = [p, q] := by
  match P, h with
  | [p, q], _ => exact ⟨p, q, rfl⟩
theorem sp_q {s p q : ByteArray} (h : partsc (unB s) 58 = [p, q]) (hq : ¬ q.size = 2) : Rp s 0 false := by
  refine .inr ⟨rfl, rfl, fun m hm e => hq ?_⟩
  obtain ⟨a, ha, _, h3⟩ := sp_parts hm e
  rw [h] at h3
  have : q.data.toList = dg (a % 64) := by simpa using (List.cons.inj (List.cons.inj h3).2).1
  rw [← len_list, this]; rfl
theorem sp_p {s p q : ByteArray} (h : partsc (unB s) 58 = [p, q]) (hp : ¬ p.size ≤ 12) : Rp s 0 false := by
  refine .inr ⟨rfl, rfl, fun m hm e => hp ?_⟩
  obtain ⟨a, ha, _, h3⟩ := sp_parts hm e
  rw [h] at h3
  have : p.data.toList = Lib.decDigits (a / 64) := by simpa using (List.cons.inj h3).1
  rw [← len_list, this]; exact (len_a ha).1
theorem sp_n {s p q : ByteArray} (h : partsc (unB s) 58 = [p, q]) {m : Int} (hm : ptI m) (e : pxT m = s) (h2 : q.size = 2) : nS s p q q[0].toNat q[1].toNat = m := by
  obtain ⟨a, ha, hv, h3⟩ := sp_parts hm e
  rw [h] at h3
  have h4 : p.data.toList = Lib.decDigits (a / 64) := by simpa using (List.cons.inj h3).1
  have h5 : q.data.toList = dg (a % 64) := by simpa using (List.cons.inj (List.cons.inj h3).2).1
  have g0 : q[0] = UInt8.ofNat (48 + a % 64 / 10) := by
    have : q[0] = q.data.toList[0]'(by rw [len_list]; omega) := rfl
    rw [this]; simp [h5, dg]
  have g1 : q[1] = UInt8.ofNat (48 + a % 64 % 10) := by
    have : q[1] = q.data.toList[1]'(by rw [len_list]; omega) := rfl
    rw [this]; simp [h5, dg]
  have hd := dg_num (r := a % 64) (by omega)
  unfold nS
  rw [h4, hB_dec, g0, g1, hd.1, hd.2, hv]
  congr 1
  omega
theorem Rp_spec {s p q : ByteArray} (h : partsc (unB s) 58 = [p, q]) (h2 : q.size = 2) (e : ¬ pxT (nS s p q q[0].toNat q[1].toNat) = s) : Rp s 0 false := by
  refine .inr ⟨rfl, rfl, fun m hm hs => e ?_⟩
  rw [sp_n h hm hs h2]; exact hs
theorem Rp_nil {s : ByteArray} (h : s = ⟨#[]⟩) : Rp s 0 false := .inr ⟨rfl, rfl, fun m hm e => px_ne hm (e.trans h)⟩
theorem Rp_spec_yes {s : ByteArray} {n : Int} (h : pxT n = s) (h2 : ¬ s = ⟨#[]⟩) : Rp s n true := by
  by_cases hp : ptI n
  · exact .inl ⟨rfl, hp, h⟩
  · exact absurd (h.symm.trans (pxT_out hp)) h2
/-- The sign taken off. -/
theorem un_yes {s : ByteArray} (h0 : 0 < s.size) (hh : s[0].toNat = 45) : unB s = s.extract 1 s.size ∧ ngB s = true ∧ s.size - 1 < s.size := by
  have e : s[0] = s.data.toList[0]'(by rw [len_list]; exact h0) := rfl
  obtain ⟨b, l, hl⟩ : ∃ b l, s.data.toList = b :: l := by
    cases h : s.data.toList with
    | nil => have := len_list s; rw [h] at this; simp at this; omega
    | cons b l => exact ⟨b, l, rfl⟩
  have hb : b = 45 := by
    have : s[0] = b := by rw [e]; simp [hl]
    exact UInt8.toNat_inj.1 (by rw [← this]; exact hh)
  subst hb
  obtain ⟨u1, u2⟩ := unL_neg l
  refine ⟨?_, by unfold ngB; rw [hl, u2], by omega⟩
  apply ByteArray.ext
  apply Array.toList_inj.1
  rw [ext_list, List.take_of_length_le (by rw [len_list]; omega)]
  unfold unB
  rw [hl, u1]; simp
theorem un_no {s : ByteArray} (h : s.size = 0 ∨ ∃ h0 : 0 < s.size, ¬ s[0].toNat = 45) : unB s = s ∧ ngB s = false := by
  have hd : ¬ s.data.toList.head? = some 45 := by
    rcases h with h | ⟨h0, hh⟩
    · rw [List.eq_nil_of_length_eq_zero ((len_list s).trans h)]; simp
    · intro e
      apply hh
      have e1 : s[0] = s.data.toList[0]'(by rw [len_list]; exact h0) := rfl
      rw [List.head?_eq_getElem?, List.getElem?_eq_getElem (by rw [len_list]; exact h0)] at e
      rw [e1, Option.some.inj e]; rfl
  obtain ⟨u1, u2⟩ := unL_no hd
  refine ⟨?_, u2⟩
  unfold unB
  rw [u1]
end Go.Proofs.YtdikenapnncmfaaDoor.Pix
