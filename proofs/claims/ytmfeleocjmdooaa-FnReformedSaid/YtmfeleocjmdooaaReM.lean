/- What the law on reformed trains needs: rows that are not too wide and begun with need; equal slices of integers. -/
import Derived.Test.YtmfeleocjmdooaaReI
import Derived.BigQuiet
namespace Go.Proofs.Ytmfeleocjmdooaa.C1
open Go.ChangeShapes Go.WideShapes Go.ChangeAt Go.RowKit
set_option linter.unusedVariables false

/-- No row is too wide, and none begins without need. -/
structure Tight (W : Int) (M : List (List Bt)) : Prop where
  nar : ∀ r ∈ M, widR r ≤ W
  need : ∀ (k : Nat) (r s : List Bt) (b : Bt), M[k]? = some r → M[k + 1]? = some s → s[0]? = some b → W < widR r + b.w
theorem get_last {α : Type} {M : List α} {x y : α} {k : Nat} (h : (M ++ [x])[k]? = some y) : (k < M.length ∧ M[k]? = some y) ∨ (k = M.length ∧ y = x) := by
  rcases Nat.lt_or_ge k M.length with hk | hk
  · rw [List.getElem?_append_left hk] at h; exact Or.inl ⟨hk, h⟩
  · rw [List.getElem?_append_right hk] at h
    have hl := len_of h
    simp at hl
    have e : k = M.length := by omega
    subst e
    simp at h
    exact Or.inr ⟨rfl, h.symm⟩
theorem tight_put {W : Int} {M : List (List Bt)} {b : Bt} (h : Tight W M) (hf : ∀ r ∈ M, r ≠ []) (hb : b.w ≤ W) : Tight W (putR W M b) := by
  rcases last_row M with rfl | ⟨M', r, rfl⟩
  · rw [putR_nil]
    refine ⟨fun r hr => ?_, fun k r s x h1 h2 _ => ?_⟩
    · simp at hr; subst hr; rw [widR_one]; exact hb
    · have := len_of h2; simp at this
  · by_cases hc : widR r + b.w ≤ W
    · rw [putR_in hc]
      refine ⟨fun x hx => ?_, fun k x s y h1 h2 h3 => ?_⟩
      · rcases List.mem_append.1 hx with h1 | h1
        · exact h.nar x (List.mem_append.2 (Or.inl h1))
        · simp at h1; subst h1; rw [widR_add]; exact hc
      · rcases get_last h2 with ⟨a1, a2⟩ | ⟨a1, rfl⟩
        · rcases get_last h1 with ⟨c1, c2⟩ | ⟨c1, _⟩
          · exact h.need k x s y (by rw [List.getElem?_append_left c1]; exact c2) (by rw [List.getElem?_append_left a1]; exact a2) h3
          · omega
        · rcases get_last h1 with ⟨c1, c2⟩ | ⟨c1, _⟩
          · have hr0 : r ≠ [] := hf r (by simp)
            obtain ⟨z, hz⟩ := get_of (L := r) (k := 0) (List.length_pos_iff.2 hr0)
            rw [List.getElem?_append_left (List.length_pos_iff.2 hr0), hz] at h3
            injection h3 with h3
            subst h3
            exact h.need k x r z (by rw [List.getElem?_append_left c1]; exact c2) (by rw [a1]; simp) hz
          · omega
    · rw [putR_new hc]
      refine ⟨fun x hx => ?_, fun k x s y h1 h2 h3 => ?_⟩
      · rcases List.mem_append.1 hx with h1 | h1
        · exact h.nar x h1
        · simp at h1; subst h1; rw [widR_one]; exact hb
      · rcases get_last h2 with ⟨a1, a2⟩ | ⟨a1, rfl⟩
        · rcases get_last h1 with ⟨c1, c2⟩ | ⟨c1, _⟩
          · exact h.need k x s y c2 a2 h3
          · omega
        · simp at h3
          subst h3
          rcases get_last h1 with ⟨c1, c2⟩ | ⟨c1, _⟩
          · rcases get_last c2 with ⟨d1, d2⟩ | ⟨d1, rfl⟩
            · simp at a1; omega
            · omega
          · omega
theorem tight_re {W : Int} {L : List Bt} (h : ∀ b ∈ L, b.w ≤ W) : Tight W (reR W L) := by
  have key : ∀ (n : Nat), n ≤ L.length → Tight W (reR W (L.take n)) := by
    intro n
    induction n with
    | zero => intro _; exact ⟨fun r hr => absurd hr (by simp [reR]), fun k r s b h1 _ _ => absurd h1 (by simp [reR])⟩
    | succ n ih =>
      intro hn
      obtain ⟨b, hb⟩ := get_of (L := L) (k := n) hn
      have e : L.take (n + 1) = L.take n ++ [b] := by rw [List.take_add_one, hb]; rfl
      rw [e, reR_snoc]
      exact tight_put (ih (by omega)) (reR_full W _) (h b (mem_of hb))
  have := key L.length (Nat.le_refl _)
  rwa [List.take_length] at this
theorem tin_re {W : Int} {T : List (List Bt)} (h : TIn T) : TIn (reR W (bts T)) := by
  have e : bts (reR W (bts T)) = bts T := reR_flat W (bts T)
  exact ⟨reR_full W _, by rw [e]; exact h.n0, by rw [e]; exact h.n1, by rw [e]; exact h.ok, by rw [e]; exact h.dif⟩
theorem widZ_le {W : Int} {M : List (List Bt)} (h0 : 0 ≤ W) (h : ∀ r ∈ M, widR r ≤ W) : widZ M ≤ W := by
  have key : ∀ (M : List (List Bt)) (s : Int), s ≤ W → (∀ r ∈ M, widR r ≤ W) → M.foldl (fun s r => max s (widR r)) s ≤ W := by
    intro M
    induction M with
    | nil => intro s hs _; exact hs
    | cons r M ih =>
      intro s hs hr
      rw [List.foldl_cons]
      have := hr r (List.mem_cons_self ..)
      exact ih _ (by omega) (fun x hx => hr x (List.mem_cons_of_mem _ hx))
  exact key M 0 h0 h
theorem same_ints (A A' : Option Addr) (c c' g g' n : Nat) (f : Nat → Int) (w : World) (hn : n ≤ 1048576) (h : RowI w A n g f) (h' : RowI w A' n g' f) :
    Calls Try.prog 40 #[.slice A n c, .slice A' n c'] w fun e w' => e = .returned (.bool true) ∧ Below w.heap.size w w' := by
  have HA := vl h
  have HA' := vl h'
  clear h h'
  go_enter Try.func40, Try.ntmps40
  go_wp2
  go_loopw [5] (fun i wr => ∃ k : Nat, k ≤ n ∧ i = .int .i64 k ∧ Veil (Below w.heap.size w wr)) (fun i _ => n - (intOf i).toNat)
  case atStart => exact ⟨0, by omega, rfl, vl (Below.refl _ _)⟩
  case round =>
    obtain ⟨k, hk, rfl, HB⟩ := hrel
    by_cases hlt : k < n
    · obtain rfl := HA.out.1 (by omega)
      obtain rfl := HA'.out.1 (by omega)
      have x0 := (HB.out.cell (cell_lt' (HA.out.2 k hlt))).trans (HA.out.2 k hlt)
      have y0 := (HB.out.cell (cell_lt' (HA'.out.2 k hlt))).trans (HA'.out.2 k hlt)
      generalize f k = z at x0 y0
      go_wp2
      go_quiet (fail)
      go_wp2
      go_roundw
      case rel => exact ⟨k + 1, by omega, by go_num, vl (HB.out.drewN' _)⟩
      case measure => simp [intOf]; omega
    · go_wp2
      go_ret
      exact ⟨rfl, HB.out⟩
end Go.Proofs.Ytmfeleocjmdooaa.C1
