/- pointsAround and ValueAt of the program. -/
import Derived.Test.YtngmpimoebggdaaVal
import Derived.RegionTactic
import Derived.Deep.DeepCutAuto
import Derived.Laws.StructEq
namespace Go.Proofs.Ytngmpimoebggdaa.C1
open Go.ChangeShapes Go.WideShapes Go.ChangeAt Go.RowKit
set_option linter.unusedVariables false
theorem new_at {w : World} {o : Obj} {b : Nat} (h : b = w.heap.size) : (w.alloc o).heap[b]? = some o := by subst h; exact heap_alloc_new w o
theorem new_at_d {w : World} {o : Obj} {b : Nat} (h : b = w.heap.size) : (w.alloc o).drew.heap[b]? = some o := new_at h
theorem old_at_d {w : World} {o : Obj} {b : Nat} (h : b < w.heap.size) : (w.alloc o).drew.heap[b]? = w.heap[b]? := Below.heap_alloc w o b h
def loI (n : Nat) (X : Nat → Int) (x : Int) : Nat := if x ≤ X 0 then 0 else if X (n - 1) ≤ x then n - 1 else cntLe X x n - 1
def hiI (n : Nat) (X : Nat → Int) (x : Int) : Nat := if x ≤ X 0 then 0 else if X (n - 1) ≤ x then n - 1 else cntLe X x n
def arr4 (X Y : Nat → Int) (i j : Nat) : Value := .agg #[.int .i64 (X i), .int .i64 (Y i), .int .i64 (X j), .int .i64 (Y j)]
theorem row2 {w : World} {b : Nat} {t : TypeId} {u v : Int} (h : w.heap[b]? = some (.cells #[.int .i64 u, .int .i64 v] t (0, 0))) : w.rowIs b t 2 (fun j => if j = 0 then .int .i64 u else .int .i64 v) :=
  ⟨_, h, rfl, fun i hi => by
    have : i = 0 ∨ i = 1 := by omega
    rcases this with rfl | rfl <;> rfl⟩
theorem lo_case {n : Nat} {X Y : Nat → Int} {x : Int} (h : x ≤ X 0) : arr4 X Y (loI n X x) (hiI n X x) = .agg #[.int .i64 (X 0), .int .i64 (Y 0), .int .i64 (X 0), .int .i64 (Y 0)] := by
  unfold loI hiI; rw [if_pos h, if_pos h]; rfl
theorem hi_case {n : Nat} {X Y : Nat → Int} {x : Int} (h : ¬ x ≤ X 0) (h' : X (n - 1) ≤ x) : arr4 X Y (loI n X x) (hiI n X x) = .agg #[.int .i64 (X (n - 1)), .int .i64 (Y (n - 1)), .int .i64 (X (n - 1)), .int .i64 (Y (n - 1))] := by
  unfold loI hiI; rw [if_neg h, if_neg h, if_pos h', if_pos h']; rfl
theorem mid_case {n : Nat} {X Y : Nat → Int} {x : Int} {k : Nat} (T : TabP n X Y) (h0 : X 0 < x) (h9 : x < X (n - 1)) (hk : k + 1 < n) (h1 : X k ≤ x) (h2 : x < X (k + 1)) :
    arr4 X Y (loI n X x) (hiI n X x) = .agg #[.int .i64 (X k), .int .i64 (Y k), .int .i64 (X (k + 1)), .int .i64 (Y (k + 1))] := by
  have h : ¬ x ≤ X 0 := by omega
  have h' : ¬ X (n - 1) ≤ x := by omega
  unfold loI hiI; rw [if_neg h, if_neg h, if_neg h', if_neg h', cntLe_of T hk h1 h2]; rfl
theorem find_seg {n : Nat} {X : Nat → Int} {x : Int} (h0 : X 0 < x) : ∀ m, m < n → x < X m → ∃ k, k + 1 ≤ m ∧ X k ≤ x ∧ x < X (k + 1) := by
  intro m
  induction m with
  | zero => intro _ h; omega
  | succ m ih =>
    intro hm hx
    by_cases h : X m ≤ x
    · exact ⟨m, by omega, h, hx⟩
    · obtain ⟨k, h1, h2, h3⟩ := ih (by omega) (by omega)
      exact ⟨k, by omega, h2, h3⟩
theorem around_cases {n : Nat} {X Y : Nat → Int} {x : Int} (ht : tabOk n X Y = true) :
    (∃ i, i < n ∧ arr4 X Y (loI n X x) (hiI n X x) = .agg #[.int .i64 (X i), .int .i64 (Y i), .int .i64 (X i), .int .i64 (Y i)] ∧ valZ n X Y x = Y i) ∨
    (∃ k, k + 1 < n ∧ X k ≤ x ∧ x < X (k + 1) ∧ arr4 X Y (loI n X x) (hiI n X x) = .agg #[.int .i64 (X k), .int .i64 (Y k), .int .i64 (X (k + 1)), .int .i64 (Y (k + 1))] ∧ valZ n X Y x = midZ X Y x k) := by
  have T := tabP_of ht
  by_cases hlo : x ≤ X 0
  · exact .inl ⟨0, by have := T.two; omega, lo_case hlo, valZ_low ht hlo⟩
  by_cases hhi : X (n - 1) ≤ x
  · exact .inl ⟨n - 1, by have := T.two; omega, hi_case hlo hhi, valZ_high ht (by omega) hhi⟩
  obtain ⟨k, h1, h2, h3⟩ := find_seg (n := n) (x := x) (X := X) (by omega) (n - 1) (by have := T.two; omega) (by omega)
  have := T.two
  exact .inr ⟨k, by omega, h2, h3, mid_case T (by omega) (by omega) (by omega) h2 h3, valZ_mid ht (by omega) (by omega) (by omega) h2 h3⟩
end Go.Proofs.Ytngmpimoebggdaa.C1
