/- The mathematics of boats and trains: lists of lists of boats, which are valid, their measures. -/
import Derived.Test.YtngmpimoebggdaaNum
namespace Go.Proofs.Ytngmpimoebggdaa.C1
set_option linter.unusedVariables false

structure Bt where
  i : Int
  l : Int
  w : Int
  d : Int
  s : Int
  c : Int
instance : Inhabited Bt := ⟨⟨0, 0, 0, 0, 0, 0⟩⟩
def bOk (b : Bt) : Bool := inB b.i 1 9999 && (inB b.l 1 200 && (inB b.w 1 30 && (inB b.d 1 100 && (inB b.s 1 50 && inB b.c 0 2))))
structure BIn (b : Bt) : Prop where
  i0 : 1 ≤ b.i
  i1 : b.i ≤ 9999
  l0 : 1 ≤ b.l
  l1 : b.l ≤ 200
  w0 : 1 ≤ b.w
  w1 : b.w ≤ 30
  d0 : 1 ≤ b.d
  d1 : b.d ≤ 100
  s0 : 1 ≤ b.s
  s1 : b.s ≤ 50
  c0 : 0 ≤ b.c
  c1 : b.c ≤ 2
theorem bOk_iff {b : Bt} : bOk b = true ↔ BIn b := by
  unfold bOk
  simp only [Bool.and_eq_true, inB_iff]
  constructor
  · rintro ⟨⟨h1, h2⟩, ⟨h3, h4⟩, ⟨h5, h6⟩, ⟨h7, h8⟩, ⟨h9, h10⟩, h11, h12⟩
    exact ⟨h1, h2, h3, h4, h5, h6, h7, h8, h9, h10, h11, h12⟩
  · intro h
    exact ⟨⟨h.i0, h.i1⟩, ⟨h.l0, h.l1⟩, ⟨h.w0, h.w1⟩, ⟨h.d0, h.d1⟩, ⟨h.s0, h.s1⟩, h.c0, h.c1⟩

/-- A fold over the first k elements. -/
def fk {α β : Type} (f : β → α → β) (a : β) (L : List α) (k : Nat) : β := (L.take k).foldl f a
theorem fk_zero {α β : Type} (f : β → α → β) (a : β) (L : List α) : fk f a L 0 = a := by simp [fk]
theorem fk_succ {α β : Type} {f : β → α → β} {a : β} {L : List α} {k : Nat} {x : α} (h : L[k]? = some x) : fk f a L (k + 1) = f (fk f a L k) x := by
  unfold fk
  rw [List.take_add_one, h]
  simp
theorem fk_end {α β : Type} (f : β → α → β) (a : β) (L : List α) : fk f a L L.length = L.foldl f a := by simp [fk]
theorem get_of {α : Type} {L : List α} {k : Nat} (h : k < L.length) : ∃ x, L[k]? = some x := ⟨_, List.getElem?_eq_getElem h⟩
theorem len_of {α : Type} {L : List α} {k : Nat} {x : α} (h : L[k]? = some x) : k < L.length := (List.getElem?_eq_some_iff.1 h).1
theorem mem_of {α : Type} {L : List α} {k : Nat} {x : α} (h : L[k]? = some x) : x ∈ L := List.mem_of_getElem? h

/-- Whether the first k numbers are all different. -/
def difK (L : List Int) : Nat → Bool
  | 0 => true
  | k + 1 => difK L k && !((L.take k).any fun y => L[k]? == some y)
def difB (L : List Int) : Bool := difK L L.length
theorem difK_le {L : List Int} {k n : Nat} (h : difK L n = true) (hk : k ≤ n) : difK L k = true := by
  induction n with
  | zero => obtain rfl : k = 0 := by omega
            exact h
  | succ n ih =>
    rw [difK, Bool.and_eq_true] at h
    rcases Nat.lt_or_ge k (n + 1) with h1 | h1
    · exact ih h.1 (by omega)
    · obtain rfl : k = n + 1 := by omega
      rw [difK, h.1, h.2]; rfl
theorem difK_yes {L : List Int} {k : Nat} {x : Int} (hx : L[k]? = some x) (h : difK L k = true) (hn : ∀ i y, i < k → L[i]? = some y → y ≠ x) : difK L (k + 1) = true := by
  rw [difK, h, Bool.true_and, Bool.not_eq_true', List.any_eq_false]
  intro y hy
  obtain ⟨i, hi, e⟩ := List.mem_take_iff_getElem.1 hy
  have hi' : i < k := by omega
  have h1 : L[i]? = some y := by rw [← e]; exact List.getElem?_eq_getElem _
  rw [hx]
  simp only [beq_iff_eq, Option.some.injEq]
  exact fun e => hn i y hi' h1 e.symm
theorem difK_no {L : List Int} {k i : Nat} {x : Int} (hx : L[k]? = some x) (hi : i < k) (h : L[i]? = some x) : difB L = false := by
  have hlt := len_of hx
  rw [Bool.eq_false_iff]
  intro hd
  have h1 := difK_le hd (show k + 1 ≤ L.length by omega)
  rw [difK, Bool.and_eq_true, Bool.not_eq_true', List.any_eq_false] at h1
  have hm : x ∈ L.take k := List.mem_take_iff_getElem.2 ⟨i, by have := len_of h; omega, (List.getElem?_eq_some_iff.1 h).2⟩
  exact h1.2 x hm (by rw [hx]; simp)
theorem difB_iff {L : List Int} : difB L = true ↔ ∀ (i k : Nat) (x : Int), i < k → L[i]? = some x → L[k]? = some x → False := by
  constructor
  · intro h i k x hi h1 h2
    rw [difK_no h2 hi h1] at h; cases h
  · intro h
    have : ∀ n, n ≤ L.length → difK L n = true := by
      intro n
      induction n with
      | zero => intro _; rfl
      | succ n ih =>
        intro hn
        obtain ⟨x, hx⟩ := get_of (L := L) (k := n) (by omega)
        exact difK_yes hx (ih (by omega)) fun i y hi hy e => h i n x hi (e ▸ hy) hx
    exact this _ (Nat.le_refl _)

/-- All boats, row by row. -/
def bts (T : List (List Bt)) : List Bt := T.flatten
def idz (L : List Bt) : List Int := L.map Bt.i
def full (T : List (List Bt)) : Bool := T.all fun r => !r.isEmpty
def tOk (T : List (List Bt)) : Bool := full T && (inB ((bts T).length : Int) 1 6 && ((bts T).all bOk && difB (idz (bts T))))
theorem full_at {T : List (List Bt)} (h : full T = true) {k : Nat} {r : List Bt} (hr : T[k]? = some r) : r ≠ [] := by
  unfold full at h
  rw [List.all_eq_true] at h
  have := h r (mem_of hr)
  intro e; subst e; simp at this
theorem full_no {T : List (List Bt)} {k : Nat} (hr : T[k]? = some []) : full T = false := by
  rw [Bool.eq_false_iff]
  intro h
  exact full_at h hr rfl
structure TIn (T : List (List Bt)) : Prop where
  full : ∀ r ∈ T, r ≠ []
  n0 : 1 ≤ (bts T).length
  n1 : (bts T).length ≤ 6
  ok : ∀ b ∈ bts T, BIn b
  dif : difB (idz (bts T)) = true
theorem tOk_iff {T : List (List Bt)} : tOk T = true ↔ TIn T := by
  unfold tOk
  simp only [Bool.and_eq_true, inB_iff, List.all_eq_true]
  constructor
  · rintro ⟨h1, ⟨h2, h3⟩, h4, h5⟩
    refine ⟨fun r hr e => ?_, by omega, by omega, fun b hb => bOk_iff.1 (h4 b hb), h5⟩
    unfold C1.full at h1
    rw [List.all_eq_true] at h1
    have := h1 r hr
    subst e; simp at this
  · intro h
    refine ⟨?_, ⟨by have := h.n0; omega, by have := h.n1; omega⟩, fun b hb => bOk_iff.2 (h.ok b hb), h.dif⟩
    unfold C1.full
    rw [List.all_eq_true]
    intro r hr
    have := h.full r hr
    cases r with
    | nil => exact absurd rfl this
    | cons => rfl
theorem flat_le {T : List (List Bt)} {r : List Bt} (h : r ∈ T) : r.length ≤ (bts T).length := by
  induction T with
  | nil => cases h
  | cons a T ih =>
    simp only [bts, List.flatten_cons, List.length_append]
    rcases List.mem_cons.1 h with rfl | h
    · omega
    · have := ih h; simp only [bts] at this; omega
theorem rows_le {T : List (List Bt)} (h : ∀ r ∈ T, r ≠ []) : T.length ≤ (bts T).length := by
  induction T with
  | nil => simp
  | cons a T ih =>
    simp only [bts, List.flatten_cons, List.length_append, List.length_cons]
    have h1 := ih fun r hr => h r (List.mem_cons_of_mem _ hr)
    have h2 := List.length_pos_iff.2 (h a List.mem_cons_self)
    simp only [bts] at h1
    omega
theorem TIn.rows {T : List (List Bt)} (h : TIn T) : 1 ≤ T.length ∧ T.length ≤ 6 := by
  have h1 := rows_le h.full
  have h2 := h.n1
  have h3 := h.n0
  refine ⟨?_, by omega⟩
  cases T with
  | nil => simp [bts] at h3
  | cons => simp
theorem TIn.row {T : List (List Bt)} (h : TIn T) {k : Nat} {r : List Bt} (hr : T[k]? = some r) : 1 ≤ r.length ∧ r.length ≤ 6 ∧ ∀ b ∈ r, BIn b := by
  have hm := mem_of hr
  have h1 := flat_le hm
  have h2 := h.n1
  refine ⟨List.length_pos_iff.2 (h.full r hm), by omega, fun b hb => h.ok b ?_⟩
  show b ∈ T.flatten; exact List.mem_flatten.2 ⟨r, hm, hb⟩
theorem take_flat {T : List (List Bt)} {k : Nat} {r : List Bt} (hr : T[k]? = some r) : bts (T.take (k + 1)) = bts (T.take k) ++ r := by
  rw [List.take_add_one, hr]
  simp [bts]
theorem take_le (T : List (List Bt)) (k : Nat) : (bts (T.take k)).length ≤ (bts T).length := by
  conv => rhs; rw [← List.take_append_drop k T]
  simp only [bts, List.flatten_append, List.length_append]
  omega

/-- The measures. -/
def lenR (r : List Bt) : Int := r.foldl (fun n b => max n b.l) 0
def widR (r : List Bt) : Int := r.foldl (fun n b => n + b.w) 0
def lenZ (T : List (List Bt)) : Int := T.foldl (fun s r => s + lenR r) 0
def widZ (T : List (List Bt)) : Int := T.foldl (fun s r => max s (widR r)) 0
def draZ (T : List (List Bt)) : Int := (bts T).foldl (fun n b => max n b.d) 0
def speZ (T : List (List Bt)) : Int := (bts T).foldl (fun n b => min n b.s) 50
def claZ (T : List (List Bt)) : Int := (bts T).foldl (fun n b => min n b.c) 2
def lenT (T : List (List Bt)) : Int := if tOk T = true then lenZ T else 0
def widT (T : List (List Bt)) : Int := if tOk T = true then widZ T else 0
def draT (T : List (List Bt)) : Int := if tOk T = true then draZ T else 0
def speT (T : List (List Bt)) : Int := if tOk T = true then speZ T else 0
def claT (T : List (List Bt)) : Int := if tOk T = true then claZ T else -1
/-- A fold of a list's first k elements stays in bounds. -/
theorem fk_bd {α : Type} {f : Int → α → Int} {L : List α} {lo s : Int} {k : Nat} (hlo : lo ≤ 0) (hs : 0 ≤ s) (h : ∀ a x, x ∈ L → lo ≤ a → lo ≤ f a x ∧ (f a x ≤ max a 0 + s)) : lo ≤ fk f 0 L k ∧ fk f 0 L k ≤ k * s := by
  induction k with
  | zero => rw [fk_zero]; omega
  | succ k ih =>
    rcases Nat.lt_or_ge k L.length with hk | hk
    · obtain ⟨x, hx⟩ := get_of hk
      rw [fk_succ hx]
      have := h _ x (mem_of hx) ih.1
      have h0 : 0 ≤ (k : Int) * s := Int.mul_nonneg (by omega) hs
      have e : ((k + 1 : Nat) : Int) * s = k * s + s := by rw [Int.natCast_add, Int.add_mul]; simp
      omega
    · have e1 : fk f 0 L (k + 1) = fk f 0 L k := by unfold fk; rw [List.take_of_length_le (by omega), List.take_of_length_le hk]
      have e : ((k + 1 : Nat) : Int) * s = k * s + s := by rw [Int.natCast_add, Int.add_mul]; simp
      rw [e1]; omega
theorem fk_max {α : Type} {g : α → Int} {L : List α} {s : Int} (hs : 0 ≤ s) (h : ∀ x ∈ L, g x ≤ s) (k : Nat) : 0 ≤ fk (fun n x => max n (g x)) 0 L k ∧ fk (fun n x => max n (g x)) 0 L k ≤ s := by
  induction k with
  | zero => rw [fk_zero]; omega
  | succ k ih =>
    rcases Nat.lt_or_ge k L.length with hk | hk
    · obtain ⟨x, hx⟩ := get_of hk
      rw [fk_succ hx]
      have := h x (mem_of hx)
      omega
    · have e1 : fk (fun n x => max n (g x)) 0 L (k + 1) = fk (fun n x => max n (g x)) 0 L k := by unfold fk; rw [List.take_of_length_le (by omega), List.take_of_length_le hk]
      rw [e1]; exact ih
theorem fk_sum {α : Type} {g : α → Int} {L : List α} {s : Int} (hs : 0 ≤ s) (h0 : ∀ x ∈ L, 0 ≤ g x) (h : ∀ x ∈ L, g x ≤ s) (k : Nat) : 0 ≤ fk (fun n x => n + g x) 0 L k ∧ fk (fun n x => n + g x) 0 L k ≤ k * s := by
  induction k with
  | zero => rw [fk_zero]; omega
  | succ k ih =>
    have e : ((k + 1 : Nat) : Int) * s = k * s + s := by rw [Int.natCast_add, Int.add_mul]; simp
    rcases Nat.lt_or_ge k L.length with hk | hk
    · obtain ⟨x, hx⟩ := get_of hk
      rw [fk_succ hx]
      have := h x (mem_of hx)
      have := h0 x (mem_of hx)
      omega
    · have e1 : fk (fun n x => n + g x) 0 L (k + 1) = fk (fun n x => n + g x) 0 L k := by unfold fk; rw [List.take_of_length_le (by omega), List.take_of_length_le hk]
      rw [e1]; omega
theorem fk_min {α : Type} {g : α → Int} {L : List α} {a lo : Int} (h0 : lo ≤ a) (h : ∀ x ∈ L, lo ≤ g x) (k : Nat) : lo ≤ fk (fun n x => min n (g x)) a L k ∧ fk (fun n x => min n (g x)) a L k ≤ a := by
  induction k with
  | zero => rw [fk_zero]; omega
  | succ k ih =>
    rcases Nat.lt_or_ge k L.length with hk | hk
    · obtain ⟨x, hx⟩ := get_of hk
      rw [fk_succ hx]
      have := h x (mem_of hx)
      omega
    · have e1 : fk (fun n x => min n (g x)) a L (k + 1) = fk (fun n x => min n (g x)) a L k := by unfold fk; rw [List.take_of_length_le (by omega), List.take_of_length_le hk]
      rw [e1]; exact ih
/-- The least of all, begun with the first one or with a bound. -/
theorem min_first {α : Type} {g : α → Int} {L : List α} {a : Int} {x : α} (hx : L[0]? = some x) (h : ∀ y ∈ L, g y ≤ a) : L.foldl (fun n y => min n (g y)) (g x) = L.foldl (fun n y => min n (g y)) a := by
  cases L with
  | nil => simp at hx
  | cons y L =>
    simp at hx
    subst hx
    have := h y List.mem_cons_self
    simp only [List.foldl_cons]
    rw [show min (g y) (g y) = min a (g y) by omega]
theorem lenR_bd {r : List Bt} (h : ∀ b ∈ r, BIn b) (k : Nat) : 0 ≤ fk (fun n b => max n b.l) 0 r k ∧ fk (fun n b => max n b.l) 0 r k ≤ 200 := fk_max (by omega) (fun b hb => (h b hb).l1) k
theorem widR_bd {r : List Bt} (h : ∀ b ∈ r, BIn b) (k : Nat) : 0 ≤ fk (fun n b => n + b.w) (0 : Int) r k ∧ fk (fun n b => n + b.w) (0 : Int) r k ≤ (k : Int) * 30 := fk_sum (by omega) (fun b hb => by have := (h b hb).w0; omega) (fun b hb => (h b hb).w1) k
theorem lenR_le {r : List Bt} (h : ∀ b ∈ r, BIn b) : 0 ≤ lenR r ∧ lenR r ≤ 200 := by
  have := lenR_bd h r.length
  rw [fk_end] at this
  exact this
theorem widR_le {r : List Bt} (h : ∀ b ∈ r, BIn b) : 0 ≤ widR r ∧ widR r ≤ r.length * 30 := by
  have := widR_bd h r.length
  rw [fk_end] at this
  exact this
theorem TIn.mem {T : List (List Bt)} (h : TIn T) {r : List Bt} (hm : r ∈ T) : 1 ≤ r.length ∧ r.length ≤ 6 ∧ ∀ b ∈ r, BIn b := by
  obtain ⟨k, hk, e⟩ := List.getElem_of_mem hm
  exact h.row (k := k) (by rw [← e]; exact List.getElem?_eq_getElem hk)
theorem lenZ_bd {T : List (List Bt)} (h : TIn T) (k : Nat) : 0 ≤ fk (fun s r => s + lenR r) 0 T k ∧ fk (fun s r => s + lenR r) 0 T k ≤ k * 200 :=
  fk_sum (by omega) (fun r hr => (lenR_le (h.mem hr).2.2).1) (fun r hr => (lenR_le (h.mem hr).2.2).2) k
theorem widZ_bd {T : List (List Bt)} (h : TIn T) (k : Nat) : 0 ≤ fk (fun s r => max s (widR r)) 0 T k ∧ fk (fun s r => max s (widR r)) 0 T k ≤ 180 :=
  fk_max (by omega) (fun r hr => by have h1 := (widR_le (h.mem hr).2.2).2; have h2 := (h.mem hr).2.1; omega) k
end Go.Proofs.Ytngmpimoebggdaa.C1
