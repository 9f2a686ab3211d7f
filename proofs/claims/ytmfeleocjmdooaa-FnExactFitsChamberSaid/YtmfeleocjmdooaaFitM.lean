/- The mathematics of trains that fit into a chamber. -/
import Derived.Test.YtmfeleocjmdooaaSideI
namespace Go.Proofs.Ytmfeleocjmdooaa.C1
open Go.RowKit
set_option linter.unusedVariables false

section
variable {α β : Type} {W : Int}
theorem sumG_map (h : α → β) (wd : β → Int) (r : List α) : sumG wd (r.map h) = sumG (fun a => wd (h a)) r := by unfold sumG; rw [List.foldl_map]
theorem putG_map (h : α → β) (wd : β → Int) (M : List (List α)) (a : α) : putG W wd (M.map (List.map h)) (h a) = (putG W (fun a => wd (h a)) M a).map (List.map h) := by
  rcases lastG M with rfl | ⟨M', r, rfl⟩
  · rfl
  · have e : (M' ++ [r]).map (List.map h) = M'.map (List.map h) ++ [r.map h] := by simp
    rw [e]
    by_cases hc : sumG (fun a => wd (h a)) r + wd (h a) ≤ W
    · rw [putG_in (by rw [sumG_map]; exact hc), putG_in hc]; simp
    · rw [putG_new (by rw [sumG_map]; exact hc), putG_new hc]; simp
theorem sideG_map (h : α → β) (wd : β → Int) (L : List α) : sideG W wd (L.map h) = (sideG W (fun a => wd (h a)) L).map (List.map h) := by
  have key : ∀ (L : List α) (M : List (List α)), (L.map h).foldl (putG W wd) (M.map (List.map h)) = (L.foldl (putG W (fun a => wd (h a))) M).map (List.map h) := by
    intro L
    induction L with
    | nil => intro M; rfl
    | cons a L ih => intro M; rw [List.map_cons, List.foldl_cons, List.foldl_cons, putG_map]; exact ih _
  exact key L []
end
/-- The trains' lines as the program lays them, whatever the trains are. -/
def roomM (W : Int) (L : List Ti) : List (List Ti) := sideP (fits_t W) L
def totX (M : List (List Ti)) : Int := M.foldl (fun n r => wrap64 (n + topX r)) 0
def roomB (le wi : Int) (L : List Ti) : Bool := (roomM wi L).all (fun r => decide (sumX r ≤ wi)) && decide (totX (roomM wi L) ≤ le)
theorem widZ_in {T : List (List Bt)} (h : TIn T) : 0 ≤ widZ T ∧ widZ T ≤ 180 := by
  have := widZ_bd h T.length
  rw [fk_end] at this
  exact this
theorem lenZ_in {T : List (List Bt)} (h : TIn T) : 0 ≤ lenZ T ∧ lenZ T ≤ 1200 := by
  have := lenZ_bd h T.length
  rw [fk_end] at this
  have h6 := h.rows.2
  exact ⟨this.1, by have := this.2; unfold lenZ; omega⟩
theorem fold_same {α : Type} {f g : Int → α → Int} {L : List α} {P : Int → Prop} {a : Int} (h0 : P a) (h : ∀ n x, x ∈ L → P n → f n x = g n x ∧ P (g n x)) : L.foldl f a = L.foldl g a := by
  induction L generalizing a with
  | nil => rfl
  | cons x L ih =>
    obtain ⟨h1, h2⟩ := h a x List.mem_cons_self h0
    rw [List.foldl_cons, List.foldl_cons, h1]
    exact ih h2 fun n y hy => h n y (List.mem_cons_of_mem _ hy)
theorem sumX_eq {r : List Ti} (h8 : r.length ≤ 8) (h : ∀ a ∈ r, TIn a.t.R) : sumX r = sumG (fun a : Ti => widZ a.t.R) r := by
  have key : ∀ k, k ≤ r.length → fk (fun n (a : Ti) => wrap64 (n + widX a.t.R)) 0 r k = fk (fun n (a : Ti) => n + widZ a.t.R) 0 r k := by
    intro k
    induction k with
    | zero => intro _; rw [fk_zero, fk_zero]
    | succ k ih =>
      intro hk
      obtain ⟨b, hb⟩ := get_of (L := r) (k := k) (by omega)
      rw [fk_succ hb, fk_succ hb, ih (by omega), widX_eq (h b (mem_of hb))]
      have h1 := widZ_in (h b (mem_of hb))
      have h2 := fk_sum (g := fun a : Ti => widZ a.t.R) (L := r) (s := 180) (by omega) (fun x hx => (widZ_in (h x hx)).1) (fun x hx => (widZ_in (h x hx)).2) k
      exact wrap_in64 (by omega)
  have := key r.length (Nat.le_refl _)
  rw [fk_end, fk_end] at this
  exact this
theorem topX_eq {r : List Ti} (h : ∀ a ∈ r, TIn a.t.R) : topX r = lenL (r.map Ti.t) := by
  unfold topX lenL
  rw [List.foldl_map]
  exact fold_same (P := fun _ => True) trivial fun n x hx _ => ⟨by rw [lenW_eq (h x hx)], trivial⟩
theorem lenL_in {r : List Tr} (h : ∀ t ∈ r, TIn t.R) : 0 ≤ lenL r ∧ lenL r ≤ 1200 := by
  have := fk_max (g := fun t : Tr => lenZ t.R) (L := r) (s := 1200) (by omega) (fun t ht => (lenZ_in (h t ht)).2) r.length
  rw [fk_end] at this
  exact this
theorem roomM_eq {W : Int} {L : List Ti} (h8 : L.length ≤ 8) (h : ∀ a ∈ L, TIn a.t.R) : (roomM W L).map (List.map Ti.t) = lines W (L.map Ti.t) := by
  have e : roomM W L = sideG W (fun a : Ti => widZ a.t.R) L := by
    refine side_same fun r a hr hx ha => ?_
    have e1 := sumX_eq (r := r) (by omega) fun b hb => h b (hx b hb)
    have h1 := widZ_in (h a ha)
    have h3 := sumG_bd (wd := fun a : Ti => widZ a.t.R) (r := r) (hi := 180) (by omega) (fun b hb => widZ_in (h b (hx b hb)))
    have e2 : wrap64 (sumX r + widX a.t.R) = sumG (fun a : Ti => widZ a.t.R) r + widZ a.t.R := by rw [e1, widX_eq (h a ha)]; exact wrap_in64 (by omega)
    unfold fits_t
    rw [e2, decide_eq_true_eq]
  rw [e]
  unfold lines
  rw [sideG_map]
theorem roomM_row {W : Int} {L : List Ti} {r : List Ti} (h : r ∈ roomM W L) : r.length ≤ L.length ∧ ∀ a ∈ r, a ∈ L := sideP_row h
theorem roomM_len {W : Int} {L : List Ti} : (roomM W L).length ≤ L.length := sideP_len
/-- Where the trains are valid, the program's room is the document's. -/
theorem fit_room {le wi : Int} {L : List Ti} (hk : trsB (L.map Ti.t) = true) : fitB le wi (L.map Ti.t) = roomB le wi L := by
  have h8 : L.length ≤ 8 := by
    rcases Nat.lt_or_ge 8 L.length with h | h
    · rw [trsB_len (by simpa using h)] at hk; cases hk
    · exact h
  have hall : allOk (L.map Ti.t) = true := by
    cases h : allOk (L.map Ti.t) with
    | true => rfl
    | false => rw [trsB_bad h] at hk; cases hk
  have hT : ∀ t ∈ L.map Ti.t, TIn t.R := fun t ht => tOk_iff.1 (allOk_at hall ht)
  have hI : ∀ a ∈ L, TIn a.t.R := fun a ha => hT a.t (List.mem_map.2 ⟨a, ha, rfl⟩)
  have hM := roomM_eq (W := wi) h8 hI
  have hrow : ∀ r ∈ roomM wi L, r.length ≤ 8 ∧ ∀ a ∈ r, TIn a.t.R := fun r hr => by
    obtain ⟨h1, h2⟩ := roomM_row hr
    exact ⟨by omega, fun a ha => hI a (h2 a ha)⟩
  have hsum : ∀ r ∈ roomM wi L, sumX r = widL (r.map Ti.t) := fun r hr => by
    obtain ⟨h1, h2⟩ := hrow r hr
    rw [sumX_eq h1 h2]
    unfold widL
    rw [sumG_map]
  have hlen : (roomM wi L).length ≤ 8 := Nat.le_trans roomM_len h8
  have htot : totX (roomM wi L) = lenS wi (L.map Ti.t) := by
    unfold lenS
    rw [← hM, List.foldl_map]
    have key : ∀ k, k ≤ (roomM wi L).length → fk (fun n r => wrap64 (n + topX r)) 0 (roomM wi L) k = fk (fun n (r : List Ti) => n + lenL (r.map Ti.t)) 0 (roomM wi L) k := by
      intro k
      induction k with
      | zero => intro _; rw [fk_zero, fk_zero]
      | succ k ih =>
        intro hk
        obtain ⟨r, hr⟩ := get_of (L := roomM wi L) (k := k) (by omega)
        rw [fk_succ hr, fk_succ hr, ih (by omega), topX_eq (hrow r (mem_of hr)).2]
        have hl : ∀ x ∈ roomM wi L, 0 ≤ lenL (x.map Ti.t) ∧ lenL (x.map Ti.t) ≤ 1200 := fun x hx => lenL_in fun t ht => by
          obtain ⟨a, ha, rfl⟩ := List.mem_map.1 ht
          exact (hrow x hx).2 a ha
        have h1 := hl r (mem_of hr)
        have h2 := fk_sum (g := fun r : List Ti => lenL (r.map Ti.t)) (L := roomM wi L) (s := 1200) (by omega) (fun x hx => (hl x hx).1) (fun x hx => (hl x hx).2) k
        exact wrap_in64 (by omega)
    have := key (roomM wi L).length (Nat.le_refl _)
    rw [fk_end, fk_end] at this
    exact this
  unfold roomB
  rw [htot]
  cases ha : (roomM wi L).all (fun r => decide (sumX r ≤ wi)) with
  | true =>
    rw [Bool.true_and]
    refine fit_of hk fun t ht => ?_
    obtain ⟨r, hr, htr⟩ := line_mem (W := wi) ht
    rw [← hM] at hr
    obtain ⟨y, hy, rfl⟩ := List.mem_map.1 hr
    have h1 : sumX y ≤ wi := by
      have := List.all_eq_true.1 ha y hy
      simpa using this
    rw [hsum y hy] at h1
    have h2 : widZ t.R ≤ widL (y.map Ti.t) := sumG_mem (wd := fun t : Tr => widZ t.R) (fun u hu => by
      obtain ⟨a, ha, rfl⟩ := List.mem_map.1 hu
      exact (widZ_in ((hrow y hy).2 a ha)).1) htr
    omega
  | false =>
    rw [Bool.false_and]
    rw [List.all_eq_false] at ha
    obtain ⟨y, hy, h1⟩ := ha
    have h1 : wi < sumX y := by simpa using h1
    rw [hsum y hy] at h1
    have hn : narrow wi (L.map Ti.t) = false := by
      rw [Bool.eq_false_iff]
      intro e
      have h2 : ∀ t ∈ L.map Ti.t, widZ t.R ≤ wi := by
        unfold narrow at e
        rw [List.all_eq_true] at e
        exact fun t ht => by simpa using e t ht
      have := line_wide h2 (y.map Ti.t) (by rw [← hM]; exact List.mem_map.2 ⟨y, hy, rfl⟩)
      omega
    unfold fitB
    rw [hn, Bool.false_and, Bool.and_false]
/-- What the model keeps while it goes through the trains. -/
def usedM (M : List (List Tr)) : Int := match M.getLast? with | some r => widL r | none => 0
def lineM (M : List (List Tr)) : Int := match M.getLast? with | some r => lenL r | none => 0
def lengM (M : List (List Tr)) : Int := M.dropLast.foldl (fun n r => n + lenL r) 0
theorem usedM_snoc (M : List (List Tr)) (r : List Tr) : usedM (M ++ [r]) = widL r := by simp [usedM]
theorem lineM_snoc (M : List (List Tr)) (r : List Tr) : lineM (M ++ [r]) = lenL r := by simp [lineM]
theorem lengM_snoc (M : List (List Tr)) (r : List Tr) : lengM (M ++ [r]) = M.foldl (fun n r => n + lenL r) 0 := by simp [lengM]
theorem tot_line (M : List (List Tr)) : M.foldl (fun n r => n + lenL r) 0 = lengM M + lineM M := by
  rcases lastG M with rfl | ⟨M', r, rfl⟩
  · rfl
  · rw [lengM_snoc, lineM_snoc]; simp
theorem widL_add (r : List Tr) (t : Tr) : widL (r ++ [t]) = widL r + widZ t.R := by unfold widL; rw [sumG_add]
theorem widL_one (t : Tr) : widL [t] = widZ t.R := by unfold widL; rw [sumG_one]
theorem lenL_add (r : List Tr) (t : Tr) : lenL (r ++ [t]) = max (lenL r) (lenZ t.R) := by simp [lenL]
theorem lenL_one {t : Tr} (h : 0 ≤ lenZ t.R) : lenL [t] = lenZ t.R := by simp [lenL]; omega
theorem step_in {W : Int} {S : List Tr} {n : Nat} {t : Tr} (ht : S[n]? = some t) (hn : 0 < n) (h : usedM (lines W (S.take n)) + widZ t.R ≤ W) :
    usedM (lines W (S.take (n + 1))) = usedM (lines W (S.take n)) + widZ t.R ∧ lineM (lines W (S.take (n + 1))) = max (lineM (lines W (S.take n))) (lenZ t.R) ∧ lengM (lines W (S.take (n + 1))) = lengM (lines W (S.take n)) := by
  have e : lines W (S.take (n + 1)) = putG W (fun t => widZ t.R) (lines W (S.take n)) t := sideG_take ht
  have hf : (lines W (S.take n)).flatten = S.take n := sideG_flat
  rw [e]
  generalize lines W (S.take n) = M at h hf ⊢
  rcases lastG M with rfl | ⟨M', r, rfl⟩
  · have : (S.take n).length = 0 := by rw [← hf]; rfl
    rw [List.length_take] at this
    have := len_of ht
    omega
  · rw [usedM_snoc] at h
    rw [putG_in h, usedM_snoc, usedM_snoc, lineM_snoc, lineM_snoc, lengM_snoc, lengM_snoc, widL_add, lenL_add]
    exact ⟨rfl, rfl, rfl⟩
theorem step_new {W : Int} {S : List Tr} {n : Nat} {t : Tr} (ht : S[n]? = some t) (h0 : 0 ≤ lenZ t.R) (h : n = 0 ∨ ¬ usedM (lines W (S.take n)) + widZ t.R ≤ W) :
    usedM (lines W (S.take (n + 1))) = widZ t.R ∧ lineM (lines W (S.take (n + 1))) = lenZ t.R ∧ lengM (lines W (S.take (n + 1))) = lengM (lines W (S.take n)) + lineM (lines W (S.take n)) := by
  have e : lines W (S.take (n + 1)) = putG W (fun t => widZ t.R) (lines W (S.take n)) t := sideG_take ht
  have hz : n = 0 → lines W (S.take n) = [] := fun h => by subst h; rfl
  have e2 : putG W (fun t : Tr => widZ t.R) (lines W (S.take n)) t = lines W (S.take n) ++ [[t]] := by
    rcases h with h | h
    · rw [hz h]; rfl
    · rcases lastG (lines W (S.take n)) with h1 | ⟨M', r, h1⟩
      · rw [h1]; rfl
      · rw [h1] at h ⊢
        rw [usedM_snoc] at h
        rw [putG_new h]
  rw [e, e2, usedM_snoc, lineM_snoc, lengM_snoc, widL_one, lenL_one h0, tot_line]
  exact ⟨rfl, rfl, rfl⟩
/-- Bounds. -/
theorem step_bd {W : Int} {S : List Tr} (h8 : S.length ≤ 8) (hs : ∀ t ∈ S, TIn t.R) (n : Nat) :
    (0 ≤ usedM (lines W (S.take n)) ∧ usedM (lines W (S.take n)) ≤ 2000) ∧ (0 ≤ lineM (lines W (S.take n)) ∧ lineM (lines W (S.take n)) ≤ 1200) ∧ (0 ≤ lengM (lines W (S.take n)) ∧ lengM (lines W (S.take n)) ≤ 20000) := by
  have hrow : ∀ r ∈ lines W (S.take n), r.length ≤ 8 ∧ ∀ t ∈ r, TIn t.R := fun r hr => by
    obtain ⟨h1, h2⟩ := sideG_row (W := W) (wd := fun t : Tr => widZ t.R) (L := S.take n) (r := r) hr
    rw [List.length_take] at h1
    exact ⟨by omega, fun t ht => hs t (List.mem_of_mem_take (h2 t ht))⟩
  have hw : ∀ t : Tr, TIn t.R → 0 ≤ widZ t.R ∧ widZ t.R ≤ 180 := fun t ht => by
    have := widZ_bd ht t.R.length
    rw [fk_end] at this
    exact this
  have hl : ∀ t : Tr, TIn t.R → 0 ≤ lenZ t.R ∧ lenZ t.R ≤ 1200 := fun t ht => by
    have := lenZ_bd ht t.R.length
    rw [fk_end] at this
    have h6 := ht.rows.2
    exact ⟨this.1, by have := this.2; unfold lenZ; omega⟩
  have hW : ∀ r ∈ lines W (S.take n), 0 ≤ widL r ∧ widL r ≤ 2000 := fun r hr => by
    have h1 := hrow r hr
    have := sumG_bd (wd := fun t : Tr => widZ t.R) (r := r) (hi := 180) (by omega) (fun t ht => hw t (h1.2 t ht))
    exact ⟨this.1, by have := this.2; unfold widL; omega⟩
  have hL : ∀ r ∈ lines W (S.take n), 0 ≤ lenL r ∧ lenL r ≤ 1200 := fun r hr => by
    have h1 := hrow r hr
    have := fk_max (g := fun t : Tr => lenZ t.R) (L := r) (s := 1200) (by omega) (fun t ht => (hl t (h1.2 t ht)).2) r.length
    rw [fk_end] at this
    exact this
  have hlen : (lines W (S.take n)).length ≤ 8 := by
    have := sideG_len (W := W) (wd := fun t : Tr => widZ t.R) (L := S.take n)
    rw [List.length_take] at this
    exact Nat.le_trans this (by omega)
  generalize lines W (S.take n) = M at hW hL hlen ⊢
  rcases lastG M with rfl | ⟨M', r, rfl⟩
  · decide
  · rw [usedM_snoc, lineM_snoc, lengM_snoc]
    refine ⟨hW r (by simp), hL r (by simp), ?_⟩
    have := fk_sum (g := lenL) (L := M') (s := 1200) (by omega) (fun x hx => (hL x (by simp [hx])).1) (fun x hx => (hL x (by simp [hx])).2) M'.length
    rw [fk_end] at this
    simp at hlen
    exact ⟨this.1, by have := this.2; omega⟩
end Go.Proofs.Ytmfeleocjmdooaa.C1
