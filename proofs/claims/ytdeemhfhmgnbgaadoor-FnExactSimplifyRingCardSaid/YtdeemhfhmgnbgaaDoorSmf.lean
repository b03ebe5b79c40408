/- Walks: slices.Delete of one point: the library's function. -/
import Derived.Test.YtdeemhfhmgnbgaaDoorSme
import Derived.Shelf.RegionOpenPlain
import Derived.Deep.LoopGhost
namespace Go.Proofs.YtdeemhfhmgnbgaaDoor
open Go.RowKit Go.Lib
set_option linter.unusedVariables false
theorem cells_at {w : World} {g : Nat} {l : List APt} {m : Nat} {cur : Array Value} (hb : Blk w g 52 cur) (htk : cur.toList.take (m * 2) = cellsF cPt l) {i : Nat} {u : Value} (h : (cellsF cPt l)[i]? = some u) : w.cell? ⟨g, i, none⟩ = some u := by
  refine hb.cell i ?_
  rw [← htk, List.getElem?_take] at h
  split at h
  · rw [← Array.getElem?_toList]; exact h
  · cases h
set_option maxHeartbeats 4000000 in
set_option maxRecDepth 1000000 in
theorem delete_any (l : List APt) (g c m k : Nat) (cur : Array Value) (w : World) (hm : m = l.length) (hk : k < m) (hcap : m ≤ c) (hc63 : c ≤ 9223372036854775807) (hm4 : m ≤ 1000) (hb : Blk w g 52 cur) (hsz : cur.size = c * 2) (htk : cur.toList.take (m * 2) = cellsF cPt l) :
    Calls Tryd.prog 35 #[.slice (some ⟨g, 0, none⟩) m c, .int .i64 (k : Int), .int .i64 ((k : Int) + 1)] w fun e w' => e = .returned (.slice (some ⟨g, 0, none⟩) (m - 1) c) ∧
      ∃ cur', Blk w' g 52 cur' ∧ cur'.size = c * 2 ∧ cur'.toList.take ((m - 1) * 2) = cellsF cPt (l.eraseIdx k) ∧ RowKit.Below g w w' := by
  obtain ⟨i0, hi0, hz0', hz1', hz2'⟩ := info_parts infoPt
  have HI0 := Lib.hid hi0
  have HZ1 := Lib.hid hz1'
  clear hi0 hz0' hz1' hz2'
  obtain ⟨news, hnews⟩ : ∃ news, news = cellsF cPt (l.drop (k + 1)) := ⟨_, rfl⟩
  have hlen : news.length = (m - (k + 1)) * 2 := by rw [hnews, cellsF_len (fun a => cPt_len a), List.length_drop, ← hm]
  have hget : ∀ (t : Nat) (u : Value), news[t]? = some u → w.cell? ⟨g, (k + 1) * 2 + t, none⟩ = some u := by
    intro t u hu
    refine cells_at hb htk ?_
    have e : cellsF cPt l = cellsF cPt (l.take (k + 1)) ++ cellsF cPt (l.drop (k + 1)) := by rw [cells_app, List.take_append_drop]
    have l1 : (cellsF cPt (l.take (k + 1))).length = (k + 1) * 2 := by rw [cellsF_len (fun a => cPt_len a), List.length_take]; omega
    rw [e, List.getElem?_append_right (by omega), l1, show (k + 1) * 2 + t - (k + 1) * 2 = t by omega, ← hnews]; exact hu
  obtain ⟨A, hA, hsrc⟩ : ∃ A : Addr, (if c = k + 1 then some (⟨g, 0, none⟩ : Addr) else some ⟨g, (k + 1) * 2, none⟩) = some A ∧ Hid (∀ t u, news[t]? = some u → w.drew.cell? (A.add t) = some u) := by
    by_cases h : c = k + 1
    · refine ⟨⟨g, 0, none⟩, by simp [h], fun t u hu => ?_⟩
      have h0 : news.length = 0 := by rw [hlen]; omega
      rw [List.length_eq_zero_iff.1 h0] at hu
      simp at hu
    · refine ⟨⟨g, (k + 1) * 2, none⟩, by simp [h], fun t u hu => ?_⟩
      rw [Addr.add_lit]
      exact hget t u hu
  have s1 : Hid (news.length = (m - (k + 1)) * 2) := hlen
  have s2 : Hid (∀ u ∈ news, u.oneCell' = true) := fun u hu => by rw [hnews] at hu; exact pall_one _ u hu
  have s3 : Hid (∀ t, t < news.length → (w.drew.cell? ⟨g, 0 + k * 2 + t, none⟩).isSome = true ∧ w.drew.frozen? ⟨g, 0 + k * 2 + t, none⟩ = false) := fun t ht => by
    rw [hlen] at ht
    exact frozen_blk (w := w) hb (by rw [hsz]; omega)
  obtain ⟨W1, hW1⟩ : ∃ W1, W1 = w.drew.setCells g (0 + k * 2) news := ⟨_, rfl⟩
  have hB1 : Blk W1 g 52 (lay cur (k * 2) news) := by rw [hW1, Nat.zero_add]; exact blk_sets news _ _ _ (show Blk w.drew g _ cur from hb)
  have hs1 : (lay cur (k * 2) news).size = c * 2 := by rw [lay_size]; exact hsz
  have hbw1 : RowKit.Below g w W1 := by rw [hW1]; exact below_sets (Nat.le_refl _) _ _ _ ((RowKit.Below.refl _ _).drew)
  have hcl : ∀ ty, (Builtin.clear_ #[26] ty #[.slice (some ⟨g, (m - 1) * 2, none⟩) 1 (c - (m - 1))]).run Tryd.prog W1 = .ok (.tuple #[]) (W1.setCells g ((m - 1) * 2) [.int .i64 0, .int .i64 0]) :=
    fun ty => run_clear_pt W1 ty g ((m - 1) * 2) (c - (m - 1)) (fun j hj => (frozen_blk hB1 (by rw [hs1]; omega)).1) (fun j hj => (frozen_blk hB1 (by rw [hs1]; omega)).2)
  have HB2 := Lib.hid (blk_sets [.int .i64 0, .int .i64 0] ((m - 1) * 2) W1 _ hB1)
  have HS2 := Lib.hid (show (lay (lay cur (k * 2) news) ((m - 1) * 2) [.int .i64 0, .int .i64 0]).size = c * 2 by rw [lay_size]; exact hs1)
  have HT2 := Lib.hid (del_arr hm hk hcap hsz htk hnews)
  have HBW := Lib.hid (below_sets (Nat.le_refl g) [.int .i64 0, .int .i64 0] ((m - 1) * 2) _ hbw1)
  generalize lay (lay cur (k * 2) news) ((m - 1) * 2) [.int .i64 0, .int .i64 0] = cur2 at *
  have hW : Hid (W1 = w.drew.setCells g (0 + k * 2) news) := hW1
  have hic : k ≤ c := by omega
  have hjc : k + 1 ≤ c := by omega
  have hjm : k + 1 ≤ m := by omega
  have hji : (k : Int) + 1 ≤ (m : Int) := by omega
  have hki : (k : Int) ≤ (k : Int) + 1 := by omega
  have hmi : (m : Int) ≤ (c : Int) := by omega
  have eb1 : ((k : Int) + 1).toNat = k + 1 := by omega
  have eb2 : (0 : Int) ≤ (k : Int) + 1 := by omega
  have e1 : k + (m - (k + 1)) = m - 1 := by omega
  have e2 : m - (m - 1) = 1 := by omega
  have e3 : ((k : Int) == (k : Int) + 1) = false := by simp; omega
  have e4 : ¬ (k : Int) = (k : Int) + 1 := by omega
  have mixed : Tryd.prog.follows Departure.mixedOrders = true := by kernel_rfl
  clear hW1 hB1 hs1 hbw1 hget hnews hlen hb hsz htk hm
  go_enter Tryd.func35, Tryd.ntmps35
  go_wp2_with fail
  go_region_law_o (refine step_append_room rfl (.tmp 22) (.tmp 25) 26 rfl 52 i0 2 Tryd.underlying26 HI0.out HZ1.out g 0 k c (by simp [Act.eval, Act.put]) A (m - (k + 1)) (c - (k + 1)) news (by simp [Act.eval, Act.put]) s1.out hsrc.out s2.out (by omega) s3.out ?_; rw [← hW.out])
  go_wp2
  go_ret
  exact ⟨rfl, cur2, HB2.out, HS2.out, HT2.out, HBW.out⟩
end Go.Proofs.YtdeemhfhmgnbgaaDoor
