/- Whether a boat is valid: of the program. -/
import Derived.Test.YtngmpimoebggdaaBtO
import Derived.Test.YtngmpimoebggdaaDraw
import Derived.Deep.RegionHeld3
import Derived.Laws.StructEq
namespace Go.Proofs.Ytngmpimoebggdaa.C1
open Go.ChangeShapes Go.WideShapes Go.ChangeAt Go.RowKit
set_option linter.unusedVariables false

theorem eql_b (b C : Bt) (q : Bool) (W : World) (hq : (q = true ∧ b.i = C.i ∧ b.l = C.l ∧ b.w = C.w ∧ b.d = C.d ∧ b.s = C.s ∧ b.c = C.c) ∨ (q = false ∧ (b.i ≠ C.i ∨ (b.i = C.i ∧ b.l ≠ C.l) ∨ (b.i = C.i ∧ b.l = C.l ∧ b.w ≠ C.w) ∨ (b.i = C.i ∧ b.l = C.l ∧ b.w = C.w ∧ b.d ≠ C.d) ∨ (b.i = C.i ∧ b.l = C.l ∧ b.w = C.w ∧ b.d = C.d ∧ b.s ≠ C.s) ∨ (b.i = C.i ∧ b.l = C.l ∧ b.w = C.w ∧ b.d = C.d ∧ b.s = C.s ∧ b.c ≠ C.c)))) :
    (binOp .eql 177 (.agg #[.int .i64 b.i, .int .i64 b.l, .int .i64 b.w, .int .i64 b.d, .int .i64 b.s, .int .i64 b.c]) (.agg #[.int .i64 C.i, .int .i64 C.l, .int .i64 C.w, .int .i64 C.d, .int .i64 C.s, .int .i64 C.c])).run Try.prog W = .ok (.bool q) W := by
  obtain ⟨i, l, x, d, s, c⟩ := b
  obtain ⟨i1, l1, x1, d1, s1, c1⟩ := C
  dsimp only at hq ⊢
  rcases hq with ⟨rfl, e0, e1, e2, e3, e4, e5⟩ | ⟨rfl, e0 | ⟨e0, e1⟩ | ⟨e0, e1, e2⟩ | ⟨e0, e1, e2, e3⟩ | ⟨e0, e1, e2, e3, e4⟩ | ⟨e0, e1, e2, e3, e4, e5⟩⟩
  all_goals
    try subst e0
    try subst e1
    try subst e2
    try subst e3
    try subst e4
    try subst e5
    simp [go_sem, *]
set_option maxRecDepth 100000 in
set_option maxHeartbeats 1000000 in
theorem bok_impl (b : Bt) (w : World) : Calls Try.prog 144 #[.agg #[.int .i64 b.i, .int .i64 b.l, .int .i64 b.w, .int .i64 b.d, .int .i64 b.s, .int .i64 b.c]] w fun e w' => e = .returned (.bool (bOk b)) ∧ Below w.heap.size w w' := by
  obtain ⟨C, hC⟩ : ∃ C, C = cB b := ⟨_, rfl⟩
  have HC := vl hC
  have hq : (bOk b = true ∧ b.i = C.i ∧ b.l = C.l ∧ b.w = C.w ∧ b.d = C.d ∧ b.s = C.s ∧ b.c = C.c) ∨ (bOk b = false ∧ (b.i ≠ C.i ∨ (b.i = C.i ∧ b.l ≠ C.l) ∨ (b.i = C.i ∧ b.l = C.l ∧ b.w ≠ C.w) ∨ (b.i = C.i ∧ b.l = C.l ∧ b.w = C.w ∧ b.d ≠ C.d) ∨ (b.i = C.i ∧ b.l = C.l ∧ b.w = C.w ∧ b.d = C.d ∧ b.s ≠ C.s) ∨ (b.i = C.i ∧ b.l = C.l ∧ b.w = C.w ∧ b.d = C.d ∧ b.s = C.s ∧ b.c ≠ C.c))) := by
    cases hw : bOk b with
    | true => have e := hC.trans (cB_id hw); exact Or.inl ⟨rfl, by rw [e], by rw [e], by rw [e], by rw [e], by rw [e], by rw [e]⟩
    | false => exact Or.inr ⟨rfl, diff_b fun h => cB_ne hw (h.trans hC)⟩
  clear hC
  go_enter Try.func144, Try.ntmps144
  go_wp2
  generalize hW : w.alloc (.cells #[.int .i64 b.i, .int .i64 b.l, .int .i64 b.w, .int .i64 b.d, .int .i64 b.s, .int .i64 b.c] 177) = W
  have x0 : W.cell? ⟨w.heap.size, 0, none⟩ = some (.int .i64 b.i) := by rw [← hW]; simp
  have x1 : W.cell? ⟨w.heap.size, 1, none⟩ = some (.int .i64 b.l) := by rw [← hW]; simp
  have x2 : W.cell? ⟨w.heap.size, 2, none⟩ = some (.int .i64 b.w) := by rw [← hW]; simp
  have x3 : W.cell? ⟨w.heap.size, 3, none⟩ = some (.int .i64 b.d) := by rw [← hW]; simp
  have x4 : W.cell? ⟨w.heap.size, 4, none⟩ = some (.int .i64 b.s) := by rw [← hW]; simp
  have x5 : W.cell? ⟨w.heap.size, 5, none⟩ = some (.int .i64 b.c) := by rw [← hW]; simp
  have HB := vl (show Below w.heap.size w W by rw [← hW]; exact (Below.refl _ _).alloc (Nat.le_refl _) _)
  clear hW
  have he : ∀ W, (binOp .eql 177 (.agg #[.int .i64 b.i, .int .i64 b.l, .int .i64 b.w, .int .i64 b.d, .int .i64 b.s, .int .i64 b.c]) (.agg #[.int .i64 C.i, .int .i64 C.l, .int .i64 C.w, .int .i64 C.d, .int .i64 C.s, .int .i64 C.c])).run Try.prog W = .ok (.bool (bOk b)) W := fun W => eql_b b C _ W hq
  clear hq
  go_region_held3 (fun w' => w'.cell? ⟨w.heap.size, 0, none⟩ = some (.int .i64 b.i) ∧ w'.cell? ⟨w.heap.size, 1, none⟩ = some (.int .i64 b.l) ∧ w'.cell? ⟨w.heap.size, 2, none⟩ = some (.int .i64 b.w) ∧ w'.cell? ⟨w.heap.size, 3, none⟩ = some (.int .i64 b.d) ∧ w'.cell? ⟨w.heap.size, 4, none⟩ = some (.int .i64 b.s) ∧ w'.cell? ⟨w.heap.size, 5, none⟩ = some (.int .i64 b.c))
    (first | exact ⟨x0, x1, x2, x3, x4, x5⟩ | assumption)
    (first
      | (go_at_call 191
         refine (bounded_b b _).mono ?_
         rintro e w1 ⟨rfl, hb1⟩
         rw [← HC.out]
         have S1 := And.intro ((hb1.cell (cell_lt' x0)).trans x0) (And.intro ((hb1.cell (cell_lt' x1)).trans x1) (And.intro ((hb1.cell (cell_lt' x2)).trans x2) (And.intro ((hb1.cell (cell_lt' x3)).trans x3) (And.intro ((hb1.cell (cell_lt' x4)).trans x4) ((hb1.cell (cell_lt' x5)).trans x5)))))
         have HB1 := vl (HB.out.drew.trans (hb1.mono HB.out.size))
         clear hb1))
  go_wp2
  go_ret
  exact ⟨rfl, HB1.out⟩
end Go.Proofs.Ytngmpimoebggdaa.C1
