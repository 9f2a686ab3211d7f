/- The mathematics of trains that fit into a chamber. -/
import Derived.Test.YtneapghhnjheaaaSideI
namespace Go.Proofs.Ytneapghhnjheaaa.C1
set_option linter.unusedVariables false

section
variable {α β : Type} {W : Int}
theorem sumG_map (h : α → β) (wd : β → Int) (r : List α) : sumG wd (r.map h) = sumG (fun a => wd (h a)) r := by unfold sumG; rw [List.foldl_map]
theorem putG_map (h : α → β) (wd : β → Int) (M : List (List α)) (a : α) : putG W wd (M.map (List.map h)) (h a) = (putG W (fun a => wd (h a)) M a).map (List.map h) := by
  rcases lastG M with rfl | ⟨M', r, rfl⟩
  · rfl
  · have e : (M' ++ [r]).map (List.map h) = M'.map (List.map h) ++ [r.map h] := by simp
    rw [e]
    by_cases hc : sumG (fun a => wd (h a)) r + wd (h a) ≤ W
    · rw [putG_in (by rw [sumG_map]; exact hc), putG_in hc]; simp
    · rw [putG_new (by rw [sumG_map]; exact hc), putG_new hc]; simp
theorem sideG_map (h : α → β) (wd : β → Int) (L : List α) : sideG W wd (L.map h) = (sideG W (fun a => wd (h a)) L).map (List.map h) := by
  have key : ∀ (L : List α) (M : List (List α)), (L.map h).foldl (putG W wd) (M.map (List.map h)) = (L.foldl (putG W (fun a => wd (h a))) M).map (List.map h) := by
    intro L
    induction L with
    | nil => intro M; rfl
    | cons a L ih => intro M; rw [List.map_cons, List.foldl_cons, List.foldl_cons, putG_map]; exact ih _
  exact key L []
end
/-- Trains with their values in memory, as vessels. -/
def vsOf (S : List Tr) (xs : List Value) : List Vs := (S.zip xs).map fun p => ⟨p.2, lenZ p.1.R, widZ p.1.R⟩
def linesZ (W : Int) (S : List Tr) (xs : List Value) : List (List (Tr × Value)) := sideG W (fun p => widZ p.1.R) (S.zip xs)
theorem linesZ_v (W : Int) (S : List Tr) (xs : List Value) : sideG W Vs.wd (vsOf S xs) = (linesZ W S xs).map (List.map fun p => ⟨p.2, lenZ p.1.R, widZ p.1.R⟩) := by unfold vsOf linesZ; rw [sideG_map]
theorem linesZ_s {W : Int} {S : List Tr} {xs : List Value} (hl : xs.length = S.length) : lines W S = (linesZ W S xs).map (List.map Prod.fst) := by
  have e : (S.zip xs).map Prod.fst = S := List.map_fst_zip (by omega)
  unfold lines linesZ
  conv => lhs; rw [← e]
  rw [sideG_map]
theorem vsOf_len {S : List Tr} {xs : List Value} (hl : xs.length = S.length) : (vsOf S xs).length = S.length := by simp [vsOf, hl]
theorem vsOf_at {S : List Tr} {xs : List Value} {i : Nat} {t : Tr} {v : Value} (ht : S[i]? = some t) (hv : xs[i]? = some v) : (vsOf S xs)[i]? = some ⟨v, lenZ t.R, widZ t.R⟩ := by
  unfold vsOf
  rw [List.getElem?_map, (List.getElem?_zip_eq_some (z := (t, v))).2 ⟨ht, hv⟩]
  rfl
theorem vsOf_mem {S : List Tr} {xs : List Value} {a : Vs} (h : a ∈ vsOf S xs) : ∃ (i : Nat) (t : Tr), S[i]? = some t ∧ xs[i]? = some a.v ∧ a.l = lenZ t.R ∧ a.wd = widZ t.R := by
  obtain ⟨i, hi⟩ := List.getElem?_of_mem h
  unfold vsOf at hi
  rw [List.getElem?_map, Option.map_eq_some_iff] at hi
  obtain ⟨⟨t, v⟩, h1, h2⟩ := hi
  obtain ⟨h3, h4⟩ := List.getElem?_zip_eq_some.1 h1
  subst h2
  exact ⟨i, t, h3, h4, rfl, rfl⟩
theorem topG_line (y : List (Tr × Value)) : topG (y.map fun p => ⟨p.2, lenZ p.1.R, widZ p.1.R⟩) = lenL (y.map Prod.fst) := by
  unfold topG lenL
  rw [List.foldl_map, List.foldl_map]
theorem sumG_line (y : List (Tr × Value)) : sumG Vs.wd (y.map fun p => ⟨p.2, lenZ p.1.R, widZ p.1.R⟩) = widL (y.map Prod.fst) := by
  unfold widL
  rw [sumG_map, sumG_map]
theorem lenS_of {W : Int} {S : List Tr} {xs : List Value} (hl : xs.length = S.length) : lenS W S = (sideG W Vs.wd (vsOf S xs)).foldl (fun n r => n + topG r) 0 := by
  unfold lenS
  rw [linesZ_s hl, linesZ_v, List.foldl_map, List.foldl_map]
  congr 1
  funext n y
  rw [topG_line]
/-- A line wider than the chamber. -/
theorem fit_line {le wi : Int} {S : List Tr} {xs : List Value} (hl : xs.length = S.length) {r : List Vs} (hr : r ∈ sideG wi Vs.wd (vsOf S xs)) (h : wi < sumG Vs.wd r) : fitB le wi S = false := by
  rw [linesZ_v] at hr
  obtain ⟨y, hy, rfl⟩ := List.mem_map.1 hr
  rw [sumG_line] at h
  have hn : narrow wi S = false := by
    rw [Bool.eq_false_iff]
    intro e
    have h1 : ∀ t ∈ S, widZ t.R ≤ wi := by
      unfold narrow at e
      rw [List.all_eq_true] at e
      exact fun t ht => by simpa using e t ht
    have := line_wide h1 (y.map Prod.fst) (by rw [linesZ_s hl]; exact List.mem_map.2 ⟨y, hy, rfl⟩)
    omega
  unfold fitB
  rw [hn, Bool.false_and, Bool.and_false]
theorem fit_end {le wi : Int} {S : List Tr} {xs : List Value} (hl : xs.length = S.length) (hk : trsB S = true) (h0 : ∀ t ∈ S, 0 ≤ widZ t.R) (h : ∀ r ∈ sideG wi Vs.wd (vsOf S xs), sumG Vs.wd r ≤ wi) :
    fitB le wi S = decide ((sideG wi Vs.wd (vsOf S xs)).foldl (fun n r => n + topG r) 0 ≤ le) := by
  rw [fit_of hk, lenS_of hl]
  intro t ht
  obtain ⟨r, hr, htr⟩ := line_mem (W := wi) ht
  rw [linesZ_s hl] at hr
  obtain ⟨y, hy, rfl⟩ := List.mem_map.1 hr
  have h1 := h _ (by rw [linesZ_v]; exact List.mem_map.2 ⟨y, hy, rfl⟩)
  rw [sumG_line] at h1
  have h2 : widZ t.R ≤ widL (y.map Prod.fst) := sumG_mem (wd := fun t : Tr => widZ t.R) (fun u hu => h0 u (by
    have h3 := (sideG_row (W := wi) (wd := fun t : Tr => widZ t.R) (L := S) (r := y.map Prod.fst) (by
      have := linesZ_s (W := wi) hl
      unfold lines at this
      rw [this]; exact List.mem_map.2 ⟨y, hy, rfl⟩)).2 u hu
    exact h3)) htr
  omega
/-- What the model keeps while it goes through the trains. -/
def usedM (M : List (List Tr)) : Int := match M.getLast? with | some r => widL r | none => 0
def lineM (M : List (List Tr)) : Int := match M.getLast? with | some r => lenL r | none => 0
def lengM (M : List (List Tr)) : Int := M.dropLast.foldl (fun n r => n + lenL r) 0
theorem usedM_snoc (M : List (List Tr)) (r : List Tr) : usedM (M ++ [r]) = widL r := by simp [usedM]
theorem lineM_snoc (M : List (List Tr)) (r : List Tr) : lineM (M ++ [r]) = lenL r := by simp [lineM]
theorem lengM_snoc (M : List (List Tr)) (r : List Tr) : lengM (M ++ [r]) = M.foldl (fun n r => n + lenL r) 0 := by simp [lengM]
theorem tot_line (M : List (List Tr)) : M.foldl (fun n r => n + lenL r) 0 = lengM M + lineM M := by
  rcases lastG M with rfl | ⟨M', r, rfl⟩
  · rfl
  · rw [lengM_snoc, lineM_snoc]; simp
theorem widL_add (r : List Tr) (t : Tr) : widL (r ++ [t]) = widL r + widZ t.R := by unfold widL; rw [sumG_add]
theorem widL_one (t : Tr) : widL [t] = widZ t.R := by unfold widL; rw [sumG_one]
theorem lenL_add (r : List Tr) (t : Tr) : lenL (r ++ [t]) = max (lenL r) (lenZ t.R) := by simp [lenL]
theorem lenL_one {t : Tr} (h : 0 ≤ lenZ t.R) : lenL [t] = lenZ t.R := by simp [lenL]; omega
theorem step_in {W : Int} {S : List Tr} {n : Nat} {t : Tr} (ht : S[n]? = some t) (hn : 0 < n) (h : usedM (lines W (S.take n)) + widZ t.R ≤ W) :
    usedM (lines W (S.take (n + 1))) = usedM (lines W (S.take n)) + widZ t.R ∧ lineM (lines W (S.take (n + 1))) = max (lineM (lines W (S.take n))) (lenZ t.R) ∧ lengM (lines W (S.take (n + 1))) = lengM (lines W (S.take n)) := by
  have e : lines W (S.take (n + 1)) = putG W (fun t => widZ t.R) (lines W (S.take n)) t := sideG_take ht
  have hf : (lines W (S.take n)).flatten = S.take n := sideG_flat
  rw [e]
  generalize lines W (S.take n) = M at h hf ⊢
  rcases lastG M with rfl | ⟨M', r, rfl⟩
  · have : (S.take n).length = 0 := by rw [← hf]; rfl
    rw [List.length_take] at this
    have := len_of ht
    omega
  · rw [usedM_snoc] at h
    rw [putG_in h, usedM_snoc, usedM_snoc, lineM_snoc, lineM_snoc, lengM_snoc, lengM_snoc, widL_add, lenL_add]
    exact ⟨rfl, rfl, rfl⟩
theorem step_new {W : Int} {S : List Tr} {n : Nat} {t : Tr} (ht : S[n]? = some t) (h0 : 0 ≤ lenZ t.R) (h : n = 0 ∨ ¬ usedM (lines W (S.take n)) + widZ t.R ≤ W) :
    usedM (lines W (S.take (n + 1))) = widZ t.R ∧ lineM (lines W (S.take (n + 1))) = lenZ t.R ∧ lengM (lines W (S.take (n + 1))) = lengM (lines W (S.take n)) + lineM (lines W (S.take n)) := by
  have e : lines W (S.take (n + 1)) = putG W (fun t => widZ t.R) (lines W (S.take n)) t := sideG_take ht
  have hz : n = 0 → lines W (S.take n) = [] := fun h => by subst h; rfl
  have e2 : putG W (fun t : Tr => widZ t.R) (lines W (S.take n)) t = lines W (S.take n) ++ [[t]] := by
    rcases h with h | h
    · rw [hz h]; rfl
    · rcases lastG (lines W (S.take n)) with h1 | ⟨M', r, h1⟩
      · rw [h1]; rfl
      · rw [h1] at h ⊢
        rw [usedM_snoc] at h
        rw [putG_new h]
  rw [e, e2, usedM_snoc, lineM_snoc, lengM_snoc, widL_one, lenL_one h0, tot_line]
  exact ⟨rfl, rfl, rfl⟩
/-- Bounds. -/
theorem step_bd {W : Int} {S : List Tr} (h8 : S.length ≤ 8) (hs : ∀ t ∈ S, TIn t.R) (n : Nat) :
    (0 ≤ usedM (lines W (S.take n)) ∧ usedM (lines W (S.take n)) ≤ 2000) ∧ (0 ≤ lineM (lines W (S.take n)) ∧ lineM (lines W (S.take n)) ≤ 1200) ∧ (0 ≤ lengM (lines W (S.take n)) ∧ lengM (lines W (S.take n)) ≤ 20000) := by
  have hrow : ∀ r ∈ lines W (S.take n), r.length ≤ 8 ∧ ∀ t ∈ r, TIn t.R := fun r hr => by
    obtain ⟨h1, h2⟩ := sideG_row (W := W) (wd := fun t : Tr => widZ t.R) (L := S.take n) (r := r) hr
    rw [List.length_take] at h1
    exact ⟨by omega, fun t ht => hs t (List.mem_of_mem_take (h2 t ht))⟩
  have hw : ∀ t : Tr, TIn t.R → 0 ≤ widZ t.R ∧ widZ t.R ≤ 180 := fun t ht => by
    have := widZ_bd ht t.R.length
    rw [fk_end] at this
    exact this
  have hl : ∀ t : Tr, TIn t.R → 0 ≤ lenZ t.R ∧ lenZ t.R ≤ 1200 := fun t ht => by
    have := lenZ_bd ht t.R.length
    rw [fk_end] at this
    have h6 := ht.rows.2
    exact ⟨this.1, by have := this.2; unfold lenZ; omega⟩
  have hW : ∀ r ∈ lines W (S.take n), 0 ≤ widL r ∧ widL r ≤ 2000 := fun r hr => by
    have h1 := hrow r hr
    have := sumG_bd (wd := fun t : Tr => widZ t.R) (r := r) (hi := 180) (by omega) (fun t ht => hw t (h1.2 t ht))
    exact ⟨this.1, by have := this.2; unfold widL; omega⟩
  have hL : ∀ r ∈ lines W (S.take n), 0 ≤ lenL r ∧ lenL r ≤ 1200 := fun r hr => by
    have h1 := hrow r hr
    have := fk_max (g := fun t : Tr => lenZ t.R) (L := r) (s := 1200) (by omega) (fun t ht => (hl t (h1.2 t ht)).2) r.length
    rw [fk_end] at this
    exact this
  have hlen : (lines W (S.take n)).length ≤ 8 := by
    have := sideG_len (W := W) (wd := fun t : Tr => widZ t.R) (L := S.take n)
    rw [List.length_take] at this
    exact Nat.le_trans this (by omega)
  generalize lines W (S.take n) = M at hW hL hlen ⊢
  rcases lastG M with rfl | ⟨M', r, rfl⟩
  · decide
  · rw [usedM_snoc, lineM_snoc, lengM_snoc]
    refine ⟨hW r (by simp), hL r (by simp), ?_⟩
    have := fk_sum (g := lenL) (L := M') (s := 1200) (by omega) (fun x hx => (hL x (by simp [hx])).1) (fun x hx => (hL x (by simp [hx])).2) M'.length
    rw [fk_end] at this
    simp at hlen
    exact ⟨this.1, by have := this.2; omega⟩
end Go.Proofs.Ytneapghhnjheaaa.C1
