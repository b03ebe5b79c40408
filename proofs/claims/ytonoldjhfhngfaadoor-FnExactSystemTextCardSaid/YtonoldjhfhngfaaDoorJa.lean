/- Texts joined: plain facts. -/
import Derived.Test.YtonoldjhfhngfaaDoorMem
import Derived.Lib.Join
import Derived.Lib.Strings
namespace Go.Proofs.YtonoldjhfhngfaaDoor
open Go.RowKit
theorem data_app (a b : ByteArray) : (a ++ b).data.toList = a.data.toList ++ b.data.toList := by
  simp [ByteArray.data_append]
theorem byt_ext {a b : ByteArray} (h : a.data.toList = b.data.toList) : a = b := by
  cases a; cases b; simp at h; rw [h]
/-- Texts one behind the other, something between them. -/
def joinF (s : ByteArray) (x : ByteArray) (r : List ByteArray) : ByteArray := r.foldl (fun a y => a ++ s ++ y) x
def joinB (s : ByteArray) : List ByteArray → ByteArray
  | [] => ⟨#[]⟩
  | x :: r => joinF s x r
theorem joinF_list (s x : ByteArray) (r : List ByteArray) : (joinF s x r).data.toList = x.data.toList ++ Lib.joinTail s.data.toList (r.map (·.data.toList)) := by
  induction r generalizing x with
  | nil => simp [joinF, Lib.joinTail]
  | cons y r ih =>
    show (joinF s (x ++ s ++ y) r).data.toList = _
    rw [ih, data_app, data_app]
    simp [Lib.joinTail]
theorem joinB_is (s : ByteArray) (xs : List ByteArray) : (⟨(Lib.join (xs.map (·.data.toList)) s.data.toList).toArray⟩ : ByteArray) = joinB s xs := by
  apply byt_ext
  cases xs with
  | nil => rfl
  | cons x r =>
    show _ = (joinF s x r).data.toList
    rw [joinF_list, List.map_cons, Lib.join_cons]
theorem joinB_snoc (s : ByteArray) {xs : List ByteArray} (h : 0 < xs.length) (y : ByteArray) : joinB s (xs ++ [y]) = joinB s xs ++ s ++ y := by
  match xs, h with
  | x :: r, _ =>
    show joinF s x (r ++ [y]) = joinF s x r ++ s ++ y
    unfold joinF
    rw [List.foldl_append]
    rfl
theorem joinB_one (s x : ByteArray) : joinB s [x] = x := rfl
theorem size_app (a b : ByteArray) : (a ++ b).size = a.size + b.size := by simp
theorem joinF_size (s x : ByteArray) (r : List ByteArray) (m : Nat) (hr : ∀ y, y ∈ r → y.size ≤ m) : (joinF s x r).size ≤ x.size + r.length * (s.size + m) := by
  induction r generalizing x with
  | nil => simp [joinF]
  | cons y r ih =>
    show (joinF s (x ++ s ++ y) r).size ≤ _
    have h1 := ih (x ++ s ++ y) (fun z hz => hr z (List.mem_cons_of_mem _ hz))
    have h2 := hr y (by simp)
    rw [size_app, size_app] at h1
    rw [List.length_cons, Nat.succ_mul]
    omega
theorem joinB_size (s : ByteArray) (xs : List ByteArray) (m : Nat) (hr : ∀ y, y ∈ xs → y.size ≤ m) : (joinB s xs).size ≤ xs.length * (s.size + m) := by
  cases xs with
  | nil => exact Nat.zero_le _
  | cons x r =>
    have h1 := joinF_size s x r m (fun z hz => hr z (List.mem_cons_of_mem _ hz))
    have h2 := hr x (by simp)
    show (joinF s x r).size ≤ _
    rw [List.length_cons, Nat.succ_mul]
    omega
theorem join_len (s : ByteArray) (xs : List ByteArray) (m : Nat) (hr : ∀ y, y ∈ xs → y.size ≤ m) : (Lib.join (xs.map (·.data.toList)) s.data.toList).length ≤ xs.length * (s.size + m) := by
  have h := joinB_size s xs m hr
  rw [← joinB_is] at h
  rw [Lib.size_eq] at h
  simpa using h
end Go.Proofs.YtonoldjhfhngfaaDoor
