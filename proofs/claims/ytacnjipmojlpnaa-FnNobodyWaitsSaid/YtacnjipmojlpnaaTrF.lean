/- ReformTrain of the model. -/
import Derived.Test.YtacnjipmojlpnaaOwnL
import Derived.IntWalk
import Derived.Deep.RegionHeld3
namespace Go.Proofs.Ytacnjipmojlpnaa.C1
open Go.ChangeShapes Go.WideShapes Go.ChangeAt Go.RowKit
set_option linter.unusedVariables false

theorem ref_no {u : Bool} {T : List (List Bt)} {W : Int} (h : refB T W = false) {w w' : World} (hb : Below w.heap.size w w') :
    GivesTB w (refU u T W) (refT T W) (refB T W) (.returned (.tuple #[.agg #[.bool false, .slice none 0 0], .bool false])) w' := by
  have e1 : refU u T W = false := by unfold refU; rw [h]; rfl
  have e2 : refT T W = [] := by unfold refT; rw [h]; rfl
  rw [h, e1, e2]
  exact ⟨⟨none, 0, 0, fun _ => 0, rfl, Nat.le_refl _, OwnT.nil _ _ _ _ _ _⟩, hb⟩
def lastW (M : List (List Bt)) : Int := match M.getLast? with | some r => widR r | none => 0
theorem lastW_snoc (M : List (List Bt)) (r : List Bt) : lastW (M ++ [r]) = widR r := by simp [lastW]
theorem lastW_bd {M : List (List Bt)} (h : ∀ b ∈ M.flatten, BIn b) (hn : M.flatten.length ≤ 6) : 0 ≤ lastW M ∧ lastW M ≤ 180 := by
  rcases last_row M with rfl | ⟨M', r, rfl⟩
  · exact ⟨Int.le_refl 0, by decide⟩
  · rw [lastW_snoc]
    have hr : ∀ b ∈ r, BIn b := fun b hb => h b (by simp [hb])
    have hl : r.length ≤ 6 := by simp at hn; omega
    have h1 := widR_bd hr r.length
    rw [fk_end] at h1
    have e : widR r = r.foldl (fun n b => n + b.w) 0 := rfl
    rw [e]
    exact ⟨h1.1, by omega⟩
theorem own_row1 (w : World) (b : Bt) : (w.alloc (.cells #[.int .i64 b.i, .int .i64 b.l, .int .i64 b.w, .int .i64 b.d, .int .i64 b.s, .int .i64 b.c] 39)).ownsRow w.heap.size 39 6 (.slice (some ⟨w.heap.size, 0, none⟩) 1 1) 1 (btl [b]) :=
  ⟨rfl, Or.inr ⟨w.heap.size, 1, _, rfl, Nat.le_refl _, heap_alloc_new _ _, Nat.le_refl _, by decide, rfl, rfl⟩⟩
theorem news_one (w : World) (q : Nat) (u : Value) (t : TypeId) (hq : q = w.heap.size) : ∀ j x, [u][j]? = some x → (w.alloc (.cells #[u] t)).cell? ((⟨q, 0, none⟩ : Addr).add j) = some x := fun j x hx => by
  cases j with
  | zero => simp at hx; subst hx; exact (World.cell?_alloc_at _ _ q 0 hq).trans rfl
  | succ j => simp at hx
theorem flat_len {M : List (List Bt)} (h : ∀ r ∈ M, r ≠ []) : M.length ≤ M.flatten.length := by
  induction M with
  | nil => simp
  | cons r M ih =>
    have h1 := ih fun x hx => h x (List.mem_cons_of_mem _ hx)
    have h2 : 0 < r.length := List.length_pos_iff.2 (h r (List.mem_cons_self ..))
    rw [List.flatten_cons, List.length_append, List.length_cons]; omega
theorem ref_wide {T : List (List Bt)} {W : Int} {b : Bt} (hb : b ∈ bts T) (h : W < b.w) : refB T W = false := by
  unfold refB
  have : ((bts T).all fun b => decide (b.w ≤ W)) = false := by
    rw [Bool.eq_false_iff]
    intro e
    rw [List.all_eq_true] at e
    have := e b hb
    simp at this
    omega
  rw [this, Bool.and_false]
theorem ref_all {T : List (List Bt)} {W : Int} (hk : tOk T = true) (h : ∀ b ∈ bts T, b.w ≤ W) : refB T W = true := by
  unfold refB
  rw [hk, Bool.true_and, List.all_eq_true]
  intro b hb
  simpa using h b hb
theorem ref_yes {u : Bool} {T : List (List Bt)} {W : Int} (h : refB T W = true) {w w1 w' : World} {v : Value} {xs : List Value} {B : Nat} (hb : Below w.heap.size w w1) (hB : w.heap.size + 2 ≤ B) (hs : B ≤ w1.heap.size)
    (ho : OwnRows w1 B v (reR W (bts T)) xs) (t : Touch w1 w' (w.heap.size + 1) (w.heap.size + 2)) :
    GivesTB w (refU u T W) (refT T W) (refB T W) (.returned (.tuple #[.agg #[.bool u, v], .bool true])) w' := by
  have e1 : refU u T W = u := by unfold refU; rw [if_pos h]
  have e2 : refT T W = reR W (bts T) := by unfold refT; rw [if_pos h]
  rw [h, e1, e2]
  obtain ⟨A, c, g, G, rfl, hc, hT⟩ := ho.ownT hs
  exact ⟨⟨A, c, g, G, rfl, hc, (hT.touch t (Or.inr hB)).wide (by omega) t.size⟩, t.below hb (by omega)⟩
theorem OwnRows.slot {w w2 : World} {B g0 d g cap : Nat} {M : List (List Bt)} {r r' : List Bt} {xs : List Value} {x : Value}
    (h : OwnRows w B (.slice (some ⟨g0, 0, none⟩) (M.length + 1) d) (M ++ [r]) (xs ++ [x])) (hown : w2.ownsRow B 39 6 (.slice (some ⟨g, 0, none⟩) r'.length cap) r'.length (btl r'))
    (hgr : w.grownBy w2 x.ownBlock) : w2.cell? ⟨g0, M.length, none⟩ = some x ∧ w2.frozen? ⟨g0, M.length, none⟩ = false := by
  have hl : xs.length = M.length := by have := h.len; simp at this; exact this
  have hne30 : (39 : TypeId) ≠ 40 := by decide
  obtain ⟨x', hx', hx⟩ := h.row M.length r (by simp)
  have ex : x' = x := by
    rw [List.getElem?_append_right (by omega), hl, Nat.sub_self] at hx'
    simpa using hx'.symm
  subst ex
  have hs2 : w2.ownsRow B 40 1 (.slice (some ⟨g0, 0, none⟩) (M.length + 1) d) (M.length + 1) (xs ++ [x']) := by
    have := h.own.kept hgr (by
      rcases own_ne hx h.own hne30 with h1 | h1
      · rw [h1]; exact Or.inr (by simp [Value.ownBlock])
      · exact Or.inr fun e => h1 e.symm)
    simpa using this
  exact ⟨by rw [hs2.cellAt _ (by omega)]; exact hx', hs2.frozenAt _⟩
end Go.Proofs.Ytacnjipmojlpnaa.C1
