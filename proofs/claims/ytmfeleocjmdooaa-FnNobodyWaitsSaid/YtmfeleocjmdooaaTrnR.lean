/- The mathematics of ReformTrain: boats put into rows of at most a width. -/
import Derived.Test.YtmfeleocjmdooaaTrnM
namespace Go.Proofs.Ytmfeleocjmdooaa.C1
set_option linter.unusedVariables false

theorem widR_add (r : List Bt) (b : Bt) : widR (r ++ [b]) = widR r + b.w := by simp [widR]
theorem widR_one (b : Bt) : widR [b] = b.w := by simp [widR]
/-- One boat more: into the last row if it fits there, into a row of its own otherwise. -/
def putR (W : Int) (M : List (List Bt)) (b : Bt) : List (List Bt) :=
  match M.getLast? with
  | some r => if widR r + b.w ≤ W then M.dropLast ++ [r ++ [b]] else M ++ [[b]]
  | none => [[b]]
def reR (W : Int) (L : List Bt) : List (List Bt) := L.foldl (putR W) []
theorem putR_nil (W : Int) (b : Bt) : putR W [] b = [[b]] := rfl
theorem putR_in {W : Int} {M : List (List Bt)} {r : List Bt} {b : Bt} (h : widR r + b.w ≤ W) : putR W (M ++ [r]) b = M ++ [r ++ [b]] := by
  unfold putR; simp [h]
theorem putR_new {W : Int} {M : List (List Bt)} {r : List Bt} {b : Bt} (h : ¬ widR r + b.w ≤ W) : putR W (M ++ [r]) b = (M ++ [r]) ++ [[b]] := by
  unfold putR; simp [h]
theorem last_row (M : List (List Bt)) : M = [] ∨ ∃ M' r, M = M' ++ [r] := by
  rcases List.eq_nil_or_concat M with h | ⟨M', r, h⟩
  · exact Or.inl h
  · exact Or.inr ⟨M', r, by simpa using h⟩
theorem putR_flat (W : Int) (M : List (List Bt)) (b : Bt) : (putR W M b).flatten = M.flatten ++ [b] := by
  rcases last_row M with rfl | ⟨M', r, rfl⟩
  · rfl
  · by_cases h : widR r + b.w ≤ W
    · rw [putR_in h]; simp
    · rw [putR_new h]; simp
theorem putR_full {W : Int} {M : List (List Bt)} {b : Bt} (h : ∀ r ∈ M, r ≠ []) : ∀ r ∈ putR W M b, r ≠ [] := by
  rcases last_row M with rfl | ⟨M', r, rfl⟩
  · intro r hr; simp [putR_nil] at hr; subst hr; simp
  · by_cases hc : widR r + b.w ≤ W
    · rw [putR_in hc]
      intro x hx
      rcases List.mem_append.1 hx with h1 | h1
      · exact h x (List.mem_append.2 (Or.inl h1))
      · simp at h1; subst h1; simp
    · rw [putR_new hc]
      intro x hx
      rcases List.mem_append.1 hx with h1 | h1
      · exact h x h1
      · simp at h1; subst h1; simp
theorem reR_snoc (W : Int) (L : List Bt) (b : Bt) : reR W (L ++ [b]) = putR W (reR W L) b := by unfold reR; simp
theorem reR_flat (W : Int) (L : List Bt) : (reR W L).flatten = L := by
  have h : ∀ (L : List Bt) (M : List (List Bt)), (L.foldl (putR W) M).flatten = M.flatten ++ L := by
    intro L
    induction L with
    | nil => intro M; simp
    | cons b L ih => intro M; rw [List.foldl_cons, ih, putR_flat]; simp
  unfold reR; rw [h]; simp
theorem reR_full (W : Int) (L : List Bt) : ∀ r ∈ reR W L, r ≠ [] := by
  have h : ∀ (L : List Bt) (M : List (List Bt)), (∀ r ∈ M, r ≠ []) → ∀ r ∈ L.foldl (putR W) M, r ≠ [] := by
    intro L
    induction L with
    | nil => intro M hM; exact hM
    | cons b L ih => intro M hM; rw [List.foldl_cons]; exact ih _ (putR_full hM)
  exact h L [] (by simp)
def refB (T : List (List Bt)) (W : Int) : Bool := tOk T && (bts T).all fun b => decide (b.w ≤ W)
def refT (T : List (List Bt)) (W : Int) : List (List Bt) := if refB T W = true then reR W (bts T) else []
def refU (u : Bool) (T : List (List Bt)) (W : Int) : Bool := if refB T W = true then u else false
theorem refT_flat {T : List (List Bt)} {W : Int} (h : refB T W = true) : bts (refT T W) = bts T := by
  unfold refT; rw [if_pos h]; exact reR_flat W (bts T)
end Go.Proofs.Ytmfeleocjmdooaa.C1
