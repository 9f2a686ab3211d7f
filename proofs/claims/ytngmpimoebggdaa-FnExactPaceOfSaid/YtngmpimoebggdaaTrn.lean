/- Boats and trains in memory: their cells, rows of one's own, what keeps them. -/
import Derived.Test.YtngmpimoebggdaaTrnM
import Derived.Test.YtngmpimoebggdaaApp
import Derived.Test.YtngmpimoebggdaaDraw
namespace Go.Proofs.Ytngmpimoebggdaa.C1
open Go.ChangeShapes Go.WideShapes Go.ChangeAt Go.RowKit
set_option linter.unusedVariables false

def Bt.cells (b : Bt) : List Value := [.int .i64 b.i, .int .i64 b.l, .int .i64 b.w, .int .i64 b.d, .int .i64 b.s, .int .i64 b.c]
def btl (L : List Bt) : List Value := L.flatMap Bt.cells
theorem btl_len (L : List Bt) : (btl L).length = L.length * 6 := by
  induction L with
  | nil => rfl
  | cons b L ih => unfold btl at *; rw [List.flatMap_cons, List.length_append, ih]; show 6 + _ = _; simp only [List.length_cons]; omega
theorem btl_app (L M : List Bt) : btl (L ++ M) = btl L ++ btl M := by simp [btl]
theorem btl_nil : btl [] = [] := rfl
theorem btl_one' (b : Bt) : btl [b] = b.cells := by simp [btl]
theorem btl_at {L : List Bt} {i j : Nat} {b : Bt} (h : L[i]? = some b) (hj : j < 6) : (btl L)[i * 6 + j]? = b.cells[j]? := by
  induction L generalizing i with
  | nil => simp at h
  | cons a L ih =>
    have e : btl (a :: L) = a.cells ++ btl L := by simp [btl]
    rw [e]
    cases i with
    | zero =>
      simp at h; subst h
      rw [Nat.zero_mul, Nat.zero_add, List.getElem?_append_left (by show j < 6; exact hj)]
    | succ i =>
      simp at h
      rw [List.getElem?_append_right (by show 6 ≤ _; omega), show (i + 1) * 6 + j - a.cells.length = i * 6 + j by show _ - 6 = _; omega]
      exact ih h
theorem btl_cell {L : List Bt} : ∀ u ∈ btl L, u.oneCell' = true := fun u hu => by
  obtain ⟨b, _, h⟩ := List.mem_flatMap.1 hu
  simp [Bt.cells] at h
  rcases h with rfl | rfl | rfl | rfl | rfl | rfl <;> rfl

/-- A boat's six cells. -/
def B6 (w : World) (g o : Nat) (b : Bt) : Prop :=
  w.cell? ⟨g, o, none⟩ = some (.int .i64 b.i) ∧ w.cell? ⟨g, o + 1, none⟩ = some (.int .i64 b.l) ∧ w.cell? ⟨g, o + 2, none⟩ = some (.int .i64 b.w) ∧ w.cell? ⟨g, o + 3, none⟩ = some (.int .i64 b.d) ∧ w.cell? ⟨g, o + 4, none⟩ = some (.int .i64 b.s) ∧ w.cell? ⟨g, o + 5, none⟩ = some (.int .i64 b.c)
theorem B6.lt {w : World} {g o : Nat} {b : Bt} (h : B6 w g o b) : g < w.heap.size := World.block_lt_of_cell? _ _ h.1
theorem B6.block {w w' : World} {g o : Nat} {b : Bt} (h : B6 w g o b) (hb : w'.heap[g]? = w.heap[g]?) : B6 w' g o b := by
  unfold B6 at *
  have e : ∀ j, w'.cell? ⟨g, j, none⟩ = w.cell? ⟨g, j, none⟩ := fun j => World.cell?_of_block hb
  rw [e, e, e, e, e, e]; exact h
theorem B6.below {w w' : World} {g o : Nat} {b : Bt} (h : B6 w g o b) (hb : Below w.heap.size w w') : B6 w' g o b := h.block (hb.block g h.lt)
/-- A slice of boats in a block of plain cells. -/
def Bts (w : World) (A : Option Addr) (L : List Bt) : Prop := 0 < L.length → ∃ g o, A = some ⟨g, o, none⟩ ∧ ∀ i b, L[i]? = some b → B6 w g (o + i * 6) b
theorem Bts.below {w w' : World} {A : Option Addr} {L : List Bt} (h : Bts w A L) (hb : Below w.heap.size w w') : Bts w' A L := fun hn => by
  obtain ⟨g, o, e, hc⟩ := h hn
  exact ⟨g, o, e, fun i b hi => (hc i b hi).below hb⟩
theorem Bts.alloc {w : World} {A : Option Addr} {L : List Bt} (h : Bts w A L) (o : Obj) : Bts (w.alloc o) A L := h.below ((Below.refl _ _).alloc (Nat.le_refl _) _)
theorem Bts.drew {w : World} {A : Option Addr} {L : List Bt} (h : Bts w A L) : Bts w.drew A L := h
/-- A slice of boats at the head of block g. -/
def RowB (w : World) (A : Option Addr) (L : List Bt) (g : Nat) : Prop := (0 < L.length → A = some ⟨g, 0, none⟩) ∧ ∀ i b, L[i]? = some b → B6 w g (i * 6) b
theorem RowB.lt {w : World} {A : Option Addr} {L : List Bt} {g : Nat} (h : RowB w A L g) (hn : 0 < L.length) : g < w.heap.size := by
  obtain ⟨x, hx⟩ := get_of hn
  exact (h.2 0 x hx).lt
theorem RowB.bts {w : World} {A : Option Addr} {L : List Bt} {g : Nat} (h : RowB w A L g) : Bts w A L := fun hn => ⟨g, 0, h.1 hn, fun i b hi => by rw [Nat.zero_add]; exact h.2 i b hi⟩
theorem RowB.block {w w' : World} {A : Option Addr} {L : List Bt} {g : Nat} (h : RowB w A L g) (hb : 0 < L.length → w'.heap[g]? = w.heap[g]?) : RowB w' A L g :=
  ⟨h.1, fun i b hi => (h.2 i b hi).block (hb (by have := len_of hi; omega))⟩
theorem RowB.below {w w' : World} {A : Option Addr} {L : List Bt} {g : Nat} (h : RowB w A L g) (hb : Below w.heap.size w w') : RowB w' A L g := h.block fun hn => hb.block g (h.lt hn)
theorem Free.block {w w' : World} {n g : Nat} (h : Free w n g) (hb : 0 < n → w'.heap[g]? = w.heap[g]?) : Free w' n g := fun i hi => (frozen_of_block (hb (by omega))).trans (h i hi)
/-- The cells of a slice of boats as a source of an append. -/
theorem src_b {w : World} {A : Option Addr} {L : List Bt} (h : Bts w A L) : 0 < L.length → ∃ ad, A = some ad ∧ ∀ j u, (btl L)[j]? = some u → w.cell? (ad.add j) = some u := fun hn => by
  obtain ⟨g, o, e, hc⟩ := h hn
  refine ⟨_, e, fun j u hu => ?_⟩
  have hj : j < L.length * 6 := by have := (List.getElem?_eq_some_iff.1 hu).1; rwa [btl_len] at this
  obtain ⟨b, hb⟩ := get_of (L := L) (k := j / 6) (by omega)
  have h6 : j % 6 < 6 := Nat.mod_lt _ (by omega)
  have e1 := btl_at hb h6
  rw [show j / 6 * 6 + j % 6 = j by omega, hu] at e1
  obtain ⟨c0, c1, c2, c3, c4, c5⟩ := hc _ _ hb
  have e' : (⟨g, o, none⟩ : Addr).add j = ⟨g, o + j / 6 * 6 + j % 6, none⟩ := by unfold Addr.add; split <;> simp_all; omega
  rw [e', e1]
  generalize j % 6 = m at h6 ⊢
  match m, h6 with
  | 0, _ => exact c0
  | 1, _ => exact c1
  | 2, _ => exact c2
  | 3, _ => exact c3
  | 4, _ => exact c4
  | 5, _ => exact c5
/-- What the call owns as a row of boats. -/
theorem rowB_of_own {w : World} {B : Nat} {v : Value} {t : TypeId} {L : List Bt} (h : w.ownsRow B t 6 v L.length (btl L)) (hB : B ≤ w.heap.size) :
    ∃ A c g, v = .slice A L.length c ∧ L.length ≤ c ∧ RowB w A L g ∧ Free w (L.length * 6) g ∧ B ≤ g ∧ (0 < L.length → g < w.heap.size) := by
  rcases h.2 with ⟨rfl, h0⟩ | ⟨g, cap, cur, rfl, hg, hh, hc, _⟩
  · refine ⟨none, 0, B, by rw [h0], by omega, ⟨fun h => by omega, fun i b hi => by have := len_of hi; omega⟩, fun i hi => by omega, Nat.le_refl _, fun h => by omega⟩
  · refine ⟨_, cap, g, rfl, hc, ⟨fun _ => rfl, fun i b hi => ?_⟩, fun i hi => h.frozenAt i, hg, fun _ => (Array.getElem?_eq_some_iff.1 hh).1⟩
    have hl := len_of hi
    have e : ∀ j, j < 6 → w.cell? ⟨g, i * 6 + j, none⟩ = b.cells[j]? := fun j hj => (h.cellAt _ (by omega)).trans (btl_at hi hj)
    exact ⟨e 0 (by omega), e 1 (by omega), e 2 (by omega), e 3 (by omega), e 4 (by omega), e 5 (by omega)⟩

/-- A slice of rows of boats in a block of plain cells. -/
def Trn (w : World) (A : Option Addr) (T : List (List Bt)) : Prop :=
  0 < T.length → ∃ g o, A = some ⟨g, o, none⟩ ∧ ∀ i r, T[i]? = some r → ∃ Ai ci, w.cell? ⟨g, o + i, none⟩ = some (.slice Ai r.length ci) ∧ Veil (Bts w Ai r)
theorem Trn.below {w w' : World} {A : Option Addr} {T : List (List Bt)} (h : Trn w A T) (hb : Below w.heap.size w w') : Trn w' A T := fun hn => by
  obtain ⟨g, o, e, hc⟩ := h hn
  refine ⟨g, o, e, fun i r hi => ?_⟩
  obtain ⟨Ai, ci, h1, h2⟩ := hc i r hi
  exact ⟨Ai, ci, (hb.cell (World.block_lt_of_cell? _ _ h1)).trans h1, vl (h2.out.below hb)⟩
theorem Trn.alloc {w : World} {A : Option Addr} {T : List (List Bt)} (h : Trn w A T) (o : Obj) : Trn (w.alloc o) A T := h.below ((Below.refl _ _).alloc (Nat.le_refl _) _)
theorem Trn.drew {w : World} {A : Option Addr} {T : List (List Bt)} (h : Trn w A T) : Trn w.drew A T := fun hn => by
  obtain ⟨g, o, e, hc⟩ := h hn
  exact ⟨g, o, e, fun i r hi => by
    obtain ⟨Ai, ci, h1, h2⟩ := hc i r hi
    exact ⟨Ai, ci, h1, vl h2.out.drew⟩⟩
/-- A train whose rows lie in blocks of their own, from B on and below L: block g holds the rows, block G i the boats of row i. -/
structure OwnT (w : World) (B L : Nat) (A : Option Addr) (T : List (List Bt)) (g : Nat) (G : Nat → Nat) : Prop where
  head : 0 < T.length → A = some ⟨g, 0, none⟩
  inG : 0 < T.length → B ≤ g ∧ g < L
  row : ∀ i r, T[i]? = some r → ∃ Ai ci, w.cell? ⟨g, i, none⟩ = some (.slice Ai r.length ci) ∧ RowB w Ai r (G i) ∧ Free w (r.length * 6) (G i)
  inR : ∀ i r, T[i]? = some r → 0 < r.length → B ≤ G i ∧ G i < L ∧ G i ≠ g
  ne : ∀ i j r s, T[i]? = some r → T[j]? = some s → 0 < r.length → 0 < s.length → i ≠ j → G i ≠ G j
section
variable {w w' : World} {B L g : Nat} {A : Option Addr} {T : List (List Bt)} {G : Nat → Nat}
theorem OwnT.lt (h : OwnT w B L A T g G) (hn : 0 < T.length) : g < w.heap.size := by
  obtain ⟨x, hx⟩ := get_of hn
  obtain ⟨_, _, h1, _⟩ := h.row 0 x hx
  exact World.block_lt_of_cell? _ _ h1
theorem OwnT.trn (h : OwnT w B L A T g G) : Trn w A T := fun hn =>
  ⟨g, 0, h.head hn, fun i r hi => by
    obtain ⟨Ai, ci, h1, h2, _⟩ := h.row i r hi
    exact ⟨Ai, ci, by rw [Nat.zero_add]; exact h1, vl h2.bts⟩⟩
theorem OwnT.block (h : OwnT w B L A T g G) (h0 : 0 < T.length → w'.heap[g]? = w.heap[g]?) (h1 : ∀ i r, T[i]? = some r → 0 < r.length → w'.heap[G i]? = w.heap[G i]?) : OwnT w' B L A T g G :=
  ⟨h.head, h.inG, fun i r hi => by
    obtain ⟨Ai, ci, c1, c2, c3⟩ := h.row i r hi
    exact ⟨Ai, ci, (World.cell?_of_block (h0 (by have := len_of hi; omega))).trans c1, c2.block (h1 i r hi), c3.block fun hn => h1 i r hi (by omega)⟩, h.inR, h.ne⟩
theorem OwnT.below (h : OwnT w B L A T g G) (hb : Below w.heap.size w w') : OwnT w' B L A T g G :=
  h.block (fun hn => hb.block g (h.lt hn)) fun i r hi hn => by
    obtain ⟨Ai, ci, _, c2, _⟩ := h.row i r hi
    exact hb.block _ (c2.lt hn)
theorem OwnT.touch {B' L' : Nat} (h : OwnT w B L A T g G) (t : Touch w w' B' L') (hd : L ≤ B' ∨ L' ≤ B) : OwnT w' B L A T g G :=
  h.block (fun hn => t.block g (h.lt hn) (by have := h.inG hn; omega)) fun i r hi hn => by
    obtain ⟨Ai, ci, _, c2, _⟩ := h.row i r hi
    exact t.block _ (c2.lt hn) (by have := h.inR i r hi hn; omega)
theorem OwnT.wide {B' L' : Nat} (h : OwnT w B L A T g G) (hB : B' ≤ B) (hL : L ≤ L') : OwnT w B' L' A T g G :=
  ⟨h.head, fun hn => by have := h.inG hn; omega, h.row, fun i r hi hn => by have := h.inR i r hi hn; omega, h.ne⟩
end
/-- What a function that gives a train leaves: the rows in memory of their own, all else as it was. -/
def GivesT (w : World) (up : Bool) (T : List (List Bt)) (e : Ending) (w' : World) : Prop :=
  (∃ A c g G, e = .returned (.agg #[.bool up, .slice A T.length c]) ∧ T.length ≤ c ∧ OwnT w' w.heap.size w'.heap.size A T g G) ∧ Below w.heap.size w w'
end Go.Proofs.Ytngmpimoebggdaa.C1
