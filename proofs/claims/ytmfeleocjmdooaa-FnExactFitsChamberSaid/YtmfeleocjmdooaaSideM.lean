/- The mathematics of things laid side by side in lines: whatever their widths are. -/
import Derived.Test.YtmfeleocjmdooaaLkM
import Derived.Test.YtmfeleocjmdooaaTrnR
namespace Go.Proofs.Ytmfeleocjmdooaa.C1
set_option linter.unusedVariables false

def sumG {α : Type} (wd : α → Int) (r : List α) : Int := r.foldl (fun n a => n + wd a) 0
def putG {α : Type} (W : Int) (wd : α → Int) (M : List (List α)) (a : α) : List (List α) :=
  match M.getLast? with
  | some r => if sumG wd r + wd a ≤ W then M.dropLast ++ [r ++ [a]] else M ++ [[a]]
  | none => [[a]]
def sideG {α : Type} (W : Int) (wd : α → Int) (L : List α) : List (List α) := L.foldl (putG W wd) []
section
variable {α : Type} {W : Int} {wd : α → Int} {M : List (List α)} {r : List α} {a : α} {L : List α}
theorem lastG (M : List (List α)) : M = [] ∨ ∃ M' r, M = M' ++ [r] := by
  rcases List.eq_nil_or_concat M with h | ⟨M', r, h⟩
  · exact Or.inl h
  · exact Or.inr ⟨M', r, by simpa using h⟩
theorem putG_nil : putG W wd [] a = [[a]] := rfl
theorem putG_in (h : sumG wd r + wd a ≤ W) : putG W wd (M ++ [r]) a = M ++ [r ++ [a]] := by unfold putG; simp [h]
theorem putG_new (h : ¬ sumG wd r + wd a ≤ W) : putG W wd (M ++ [r]) a = (M ++ [r]) ++ [[a]] := by unfold putG; simp [h]
theorem sideG_snoc : sideG W wd (L ++ [a]) = putG W wd (sideG W wd L) a := by unfold sideG; simp
theorem sideG_take {k : Nat} (h : L[k]? = some a) : sideG W wd (L.take (k + 1)) = putG W wd (sideG W wd (L.take k)) a := by
  rw [List.take_add_one, h]; exact sideG_snoc
theorem putG_flat : (putG W wd M a).flatten = M.flatten ++ [a] := by
  rcases lastG M with rfl | ⟨M', r, rfl⟩
  · rfl
  · by_cases h : sumG wd r + wd a ≤ W
    · rw [putG_in h]; simp
    · rw [putG_new h]; simp
theorem sideG_flat : (sideG W wd L).flatten = L := by
  have h : ∀ (L : List α) (M : List (List α)), (L.foldl (putG W wd) M).flatten = M.flatten ++ L := by
    intro L
    induction L with
    | nil => intro M; simp
    | cons b L ih => intro M; rw [List.foldl_cons, ih, putG_flat]; simp
  unfold sideG; rw [h]; simp
theorem putG_full (h : ∀ r ∈ M, r ≠ []) : ∀ r ∈ putG W wd M a, r ≠ [] := by
  rcases lastG M with rfl | ⟨M', r, rfl⟩
  · intro r hr; simp [putG_nil] at hr; subst hr; simp
  · by_cases hc : sumG wd r + wd a ≤ W
    · rw [putG_in hc]
      intro x hx
      rcases List.mem_append.1 hx with h1 | h1
      · exact h x (List.mem_append.2 (Or.inl h1))
      · simp at h1; subst h1; simp
    · rw [putG_new hc]
      intro x hx
      rcases List.mem_append.1 hx with h1 | h1
      · exact h x h1
      · simp at h1; subst h1; simp
theorem sideG_full : ∀ r ∈ sideG W wd L, r ≠ [] := by
  have h : ∀ (L : List α) (M : List (List α)), (∀ r ∈ M, r ≠ []) → ∀ r ∈ L.foldl (putG W wd) M, r ≠ [] := by
    intro L
    induction L with
    | nil => intro M hM; exact hM
    | cons b L ih => intro M hM; rw [List.foldl_cons]; exact ih _ (putG_full hM)
  exact h L [] (by simp)
theorem flatG_len (h : ∀ r ∈ M, r ≠ []) : M.length ≤ M.flatten.length := by
  induction M with
  | nil => simp
  | cons r M ih =>
    have h1 := ih fun x hx => h x (List.mem_cons_of_mem _ hx)
    have h2 : 0 < r.length := List.length_pos_iff.2 (h r (List.mem_cons_self ..))
    rw [List.flatten_cons, List.length_append, List.length_cons]; omega
theorem sideG_len : (sideG W wd L).length ≤ L.length := by
  have := flatG_len (sideG_full (W := W) (wd := wd) (L := L))
  rwa [sideG_flat] at this
theorem flatG_mem (h : r ∈ M) : r.length ≤ M.flatten.length := by
  induction M with
  | nil => cases h
  | cons b M ih =>
    rw [List.flatten_cons, List.length_append]
    rcases List.mem_cons.1 h with rfl | h
    · omega
    · have := ih h; omega
theorem sideG_row (h : r ∈ sideG W wd L) : r.length ≤ L.length ∧ ∀ x ∈ r, x ∈ L := by
  have h1 := flatG_mem h
  rw [sideG_flat] at h1
  exact ⟨h1, fun x hx => by
    have : x ∈ (sideG W wd L).flatten := List.mem_flatten.2 ⟨r, h, hx⟩
    rwa [sideG_flat] at this⟩
theorem sumG_nil : sumG wd [] = 0 := rfl
theorem sumG_one : sumG wd [a] = wd a := by simp [sumG]
theorem sumG_add : sumG wd (r ++ [a]) = sumG wd r + wd a := by simp [sumG]
theorem sumG_bd {hi : Int} (hh : 0 ≤ hi) (h : ∀ x ∈ r, 0 ≤ wd x ∧ wd x ≤ hi) : 0 ≤ sumG wd r ∧ sumG wd r ≤ r.length * hi := by
  have := fk_sum (g := wd) (L := r) hh (fun x hx => (h x hx).1) (fun x hx => (h x hx).2) r.length
  rw [fk_end] at this
  exact this
theorem sumG_mem (h : ∀ x ∈ r, 0 ≤ wd x) (ha : a ∈ r) : wd a ≤ sumG wd r := by
  have h1 : ∀ (r : List α) (n : Int), (∀ x ∈ r, 0 ≤ wd x) → 0 ≤ n → (n ≤ r.foldl (fun n a => n + wd a) n ∧ ∀ x ∈ r, wd x ≤ r.foldl (fun n a => n + wd a) n) := by
    intro r
    induction r with
    | nil => intro n _ _; exact ⟨Int.le_refl _, fun x hx => by cases hx⟩
    | cons b r ih =>
      intro n hp hn
      have hb := hp b List.mem_cons_self
      obtain ⟨e1, e2⟩ := ih (n + wd b) (fun x hx => hp x (List.mem_cons_of_mem _ hx)) (by omega)
      rw [List.foldl_cons]
      refine ⟨by omega, fun x hx => ?_⟩
      rcases List.mem_cons.1 hx with rfl | hx
      · omega
      · exact e2 x hx
  exact (h1 r 0 h (Int.le_refl _)).2 a ha
end
/-- The same with any test. -/
def putP {α : Type} (P : List α → α → Bool) (M : List (List α)) (a : α) : List (List α) :=
  match M.getLast? with
  | some r => if P r a = true then M.dropLast ++ [r ++ [a]] else M ++ [[a]]
  | none => [[a]]
def sideP {α : Type} (P : List α → α → Bool) (L : List α) : List (List α) := L.foldl (putP P) []
section
variable {α : Type} {P : List α → α → Bool} {M : List (List α)} {r : List α} {a : α} {L : List α}
theorem putP_nil : putP P [] a = [[a]] := rfl
theorem putP_in (h : P r a = true) : putP P (M ++ [r]) a = M ++ [r ++ [a]] := by unfold putP; simp [h]
theorem putP_new (h : ¬ P r a = true) : putP P (M ++ [r]) a = (M ++ [r]) ++ [[a]] := by unfold putP; simp [h]
theorem sideP_snoc : sideP P (L ++ [a]) = putP P (sideP P L) a := by unfold sideP; simp
theorem sideP_take {k : Nat} (h : L[k]? = some a) : sideP P (L.take (k + 1)) = putP P (sideP P (L.take k)) a := by
  rw [List.take_add_one, h]; exact sideP_snoc
theorem putP_flat : (putP P M a).flatten = M.flatten ++ [a] := by
  rcases lastG M with rfl | ⟨M', r, rfl⟩
  · rfl
  · by_cases h : P r a = true
    · rw [putP_in h]; simp
    · rw [putP_new h]; simp
theorem sideP_flat : (sideP P L).flatten = L := by
  have h : ∀ (L : List α) (M : List (List α)), (L.foldl (putP P) M).flatten = M.flatten ++ L := by
    intro L
    induction L with
    | nil => intro M; simp
    | cons b L ih => intro M; rw [List.foldl_cons, ih, putP_flat]; simp
  unfold sideP; rw [h]; simp
theorem putP_full (h : ∀ r ∈ M, r ≠ []) : ∀ r ∈ putP P M a, r ≠ [] := by
  rcases lastG M with rfl | ⟨M', r, rfl⟩
  · intro r hr; simp [putP_nil] at hr; subst hr; simp
  · by_cases hc : P r a = true
    · rw [putP_in hc]
      intro x hx
      rcases List.mem_append.1 hx with h1 | h1
      · exact h x (List.mem_append.2 (Or.inl h1))
      · simp at h1; subst h1; simp
    · rw [putP_new hc]
      intro x hx
      rcases List.mem_append.1 hx with h1 | h1
      · exact h x h1
      · simp at h1; subst h1; simp
theorem sideP_full : ∀ r ∈ sideP P L, r ≠ [] := by
  have h : ∀ (L : List α) (M : List (List α)), (∀ r ∈ M, r ≠ []) → ∀ r ∈ L.foldl (putP P) M, r ≠ [] := by
    intro L
    induction L with
    | nil => intro M hM; exact hM
    | cons b L ih => intro M hM; rw [List.foldl_cons]; exact ih _ (putP_full hM)
  exact h L [] (by simp)
theorem sideP_len : (sideP P L).length ≤ L.length := by
  have := flatG_len (sideP_full (P := P) (L := L))
  rwa [sideP_flat] at this
theorem sideP_row (h : r ∈ sideP P L) : r.length ≤ L.length ∧ ∀ x ∈ r, x ∈ L := by
  have h1 := flatG_mem h
  rw [sideP_flat] at h1
  exact ⟨h1, fun x hx => by
    have : x ∈ (sideP P L).flatten := List.mem_flatten.2 ⟨r, h, hx⟩
    rwa [sideP_flat] at this⟩
theorem side_same {W : Int} {wd : α → Int} (h : ∀ r a, r.length < L.length → (∀ x ∈ r, x ∈ L) → a ∈ L → (P r a = true ↔ sumG wd r + wd a ≤ W)) : sideP P L = sideG W wd L := by
  have key : ∀ k, k ≤ L.length → sideP P (L.take k) = sideG W wd (L.take k) := by
    intro k
    induction k with
    | zero => intro _; rfl
    | succ k ih =>
      intro hk
      obtain ⟨b, hb⟩ := get_of (L := L) (k := k) (by omega)
      rw [sideP_take hb, sideG_take hb, ih (by omega)]
      have hr := fun r hr => sideG_row (W := W) (wd := wd) (L := L.take k) (r := r) hr
      generalize sideG W wd (L.take k) = M at hr ⊢
      rcases lastG M with rfl | ⟨M', r, rfl⟩
      · rfl
      · obtain ⟨h1, h2⟩ := hr r (by simp)
        rw [List.length_take] at h1
        have h3 := h r b (by omega) (fun x hx => List.mem_of_mem_take (h2 x hx)) (mem_of hb)
        by_cases hc : sumG wd r + wd b ≤ W
        · rw [putG_in hc, putP_in (h3.2 hc)]
        · rw [putG_new hc, putP_new (fun e => hc (h3.1 e))]
  have := key L.length (Nat.le_refl _)
  rwa [List.take_length] at this
end
theorem putR_side (W : Int) : putR W = putG W Bt.w := by
  funext M b
  unfold putR putG
  cases M.getLast? <;> rfl
theorem reR_side (W : Int) (L : List Bt) : reR W L = sideG W Bt.w L := by unfold reR sideG; rw [putR_side]
theorem widR_sum (r : List Bt) : widR r = sumG Bt.w r := rfl

/-- Trains in a chamber. -/
def widL (r : List Tr) : Int := sumG (fun t => widZ t.R) r
def lenL (r : List Tr) : Int := r.foldl (fun n t => max n (lenZ t.R)) 0
def lines (W : Int) (S : List Tr) : List (List Tr) := sideG W (fun t => widZ t.R) S
def lenS (W : Int) (S : List Tr) : Int := (lines W S).foldl (fun n r => n + lenL r) 0
def narrow (W : Int) (S : List Tr) : Bool := S.all fun t => decide (widZ t.R ≤ W)
def fitB (le wi : Int) (S : List Tr) : Bool := trsB S && (narrow wi S && decide (lenS wi S ≤ le))
theorem fit_bad {le wi : Int} {S : List Tr} (h : trsB S = false) : fitB le wi S = false := by unfold fitB; rw [h]; rfl
theorem narrow_no {W : Int} {S : List Tr} {t : Tr} (ht : t ∈ S) (h : W < widZ t.R) : narrow W S = false := by
  rw [Bool.eq_false_iff]
  intro e
  unfold narrow at e
  rw [List.all_eq_true] at e
  have := e t ht
  simp at this; omega
theorem fit_wide {le wi : Int} {S : List Tr} {t : Tr} (ht : t ∈ S) (h : wi < widZ t.R) : fitB le wi S = false := by unfold fitB; rw [narrow_no ht h, Bool.false_and, Bool.and_false]
theorem narrow_of {W : Int} {S : List Tr} (h : ∀ t ∈ S, widZ t.R ≤ W) : narrow W S = true := by
  unfold narrow
  rw [List.all_eq_true]
  exact fun t ht => by simpa using h t ht
theorem fit_of {le wi : Int} {S : List Tr} (h1 : trsB S = true) (h2 : ∀ t ∈ S, widZ t.R ≤ wi) : fitB le wi S = decide (lenS wi S ≤ le) := by unfold fitB; rw [h1, narrow_of h2, Bool.true_and, Bool.true_and]
/-- A line that is wider than the chamber holds a train that is. -/
theorem line_wide {W : Int} {S : List Tr} (h : ∀ t ∈ S, widZ t.R ≤ W) : ∀ r ∈ lines W S, widL r ≤ W := by
  have h1 : ∀ (L : List Tr) (M : List (List Tr)), (∀ t ∈ L, widZ t.R ≤ W) → (∀ r ∈ M, widL r ≤ W) → ∀ r ∈ L.foldl (putG W fun t => widZ t.R) M, widL r ≤ W := by
    intro L
    induction L with
    | nil => intro M _ hM; exact hM
    | cons t L ih =>
      intro M hL hM
      rw [List.foldl_cons]
      refine ih _ (fun u hu => hL u (List.mem_cons_of_mem _ hu)) ?_
      have ht := hL t List.mem_cons_self
      rcases lastG M with rfl | ⟨M', r, rfl⟩
      · intro r hr; simp [putG_nil] at hr; subst hr; unfold widL; rw [sumG_one]; exact ht
      · by_cases hc : sumG (fun t : Tr => widZ t.R) r + widZ t.R ≤ W
        · rw [putG_in hc]
          intro x hx
          rcases List.mem_append.1 hx with h1 | h1
          · exact hM x (List.mem_append.2 (Or.inl h1))
          · simp at h1; subst h1; unfold widL; rw [sumG_add]; exact hc
        · rw [putG_new hc]
          intro x hx
          rcases List.mem_append.1 hx with h1 | h1
          · exact hM x h1
          · simp at h1; subst h1; unfold widL; rw [sumG_one]; exact ht
  exact h1 S [] h (by simp)
theorem line_mem {W : Int} {S : List Tr} {t : Tr} (ht : t ∈ S) : ∃ r ∈ lines W S, t ∈ r := by
  have : t ∈ (sideG W (fun t => widZ t.R) S).flatten := by rw [sideG_flat]; exact ht
  obtain ⟨r, h1, h2⟩ := List.mem_flatten.1 this
  exact ⟨r, h1, h2⟩
end Go.Proofs.Ytmfeleocjmdooaa.C1
