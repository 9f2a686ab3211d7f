/- What FnOneWay needs: the functions on stretches, at given values. -/
import Derived.Test.YtaacgajpjkfplaaTsG
import Derived.Test.YtaacgajpjkfplaaCur
namespace Go.Proofs.Ytaacgajpjkfplaa.C1
open Go.ChangeShapes Go.WideShapes Go.ChangeAt Go.RowKit
set_option linter.unusedVariables false

theorem btoi_law (b : Bool) (z : Int) (h : z = if b = true then 1 else 0) (w : World) : Calls Try.prog 19 #[.bool b] w fun e w' => e = .returned (.int .i64 z) ∧ w = w' := by
  subst h
  cases b
  all_goals
    go_enter Try.func19, Try.ntmps19
    go_wp2
    go_ret
    exact ⟨rfl, rfl⟩
theorem srok_at {S : Sr} {b : Bool} (h : srOk S = b) (w : World) : Calls Try.prog 20 #[.agg #[.bool S.u, .int .i64 S.i, .int .i64 S.r, .int .i64 S.l]] w (GivesB w b) := by rw [← h]; exact srok_impl S w
theorem may_at {S : Sr} {up o b : Bool} (h : mayP S up o = b) (w : World) : Calls Try.prog 17 #[.agg #[.bool S.u, .int .i64 S.i, .int .i64 S.r, .int .i64 S.l], .bool up, .bool o] w (GivesB w b) := by rw [← h]; exact may_impl S up o w
theorem enter_at {S S' : Sr} {up : Bool} (h : enterS S up = S') (w : World) : Calls Try.prog 18 #[.agg #[.bool S.u, .int .i64 S.i, .int .i64 S.r, .int .i64 S.l], .bool up] w (GivesSr w S') := by rw [← h]; exact enter_impl S up w
theorem leave_at {S S' : Sr} (h : leaveS S = S') (w : World) : Calls Try.prog 16 #[.agg #[.bool S.u, .int .i64 S.i, .int .i64 S.r, .int .i64 S.l]] w (GivesSr w S') := by rw [← h]; exact leave_impl S w
theorem mayP_parts {S : Sr} {up o : Bool} (h : mayP S up o = true) : mayP S up false = true ∧ (up = S.u → o = true → S.r < S.l) ∧ (up ≠ S.u → S.i = 0) := by
  unfold mayP at h ⊢
  rw [Bool.and_eq_true] at h ⊢
  obtain ⟨h1, h2⟩ := h
  by_cases hu : up = S.u
  · rw [if_pos hu] at h2 ⊢
    refine ⟨⟨h1, by simp⟩, fun _ ho => ?_, fun hn => absurd hu hn⟩
    subst ho
    simpa using h2
  · rw [if_neg hu] at h2 ⊢
    exact ⟨⟨h1, h2⟩, fun he => absurd he hu, fun _ => by simpa using h2⟩
end Go.Proofs.Ytaacgajpjkfplaa.C1
