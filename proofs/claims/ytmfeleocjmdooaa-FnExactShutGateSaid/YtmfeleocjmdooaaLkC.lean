/- Copies of locks: of the model and of the program; slices of trains that a call builds. -/
import Derived.Test.YtmfeleocjmdooaaLkL
import Derived.Test.YtmfeleocjmdooaaTrC
import Derived.Deep.RegionHeld3
namespace Go.Proofs.Ytmfeleocjmdooaa.C1
open Go.ChangeShapes Go.WideShapes Go.ChangeAt Go.RowKit
set_option linter.unusedVariables false

/-- A lock's box that may be written. -/
structure KBoxF (w : World) (p : Nat) (k : Lk) (v : Value) : Prop where
  c : KBox w p k v
  f : ∀ j, j < 10 → w.frozen? ⟨p, j, none⟩ = false
theorem KBoxF.lt {w : World} {p : Nat} {k : Lk} {v : Value} (h : KBoxF w p k v) : p < w.heap.size := h.c.lt
theorem KBoxF.block {w w' : World} {p : Nat} {k : Lk} {v : Value} (h : KBoxF w p k v) (hb : w'.heap[p]? = w.heap[p]?) : KBoxF w' p k v := ⟨h.c.block hb, fun j hj => (frozen_of_block hb).trans (h.f j hj)⟩
theorem KBoxF.below {w w' : World} {p B : Nat} {k : Lk} {v : Value} (h : KBoxF w p k v) (hb : Below B w w') (hp : p < B) : KBoxF w' p k v := h.block (hb.block p hp)
theorem KBoxF.touch {w w' : World} {p B L : Nat} {k : Lk} {v : Value} (h : KBoxF w p k v) (t : Touch w w' B L) (hp : p < B ∨ L ≤ p) : KBoxF w' p k v := h.block (t.block p h.lt hp)
theorem KBoxF.far {w : World} {p q j : Nat} {k : Lk} {v : Value} (h : KBoxF w p k v) (u : Value) (hne : p ≠ q) : KBoxF (w.setCell ⟨q, j, none⟩ u) p k v := h.block (Below.heap_setCell w ⟨q, j, none⟩ u p hne)
theorem KBoxF.new (w : World) (k : Lk) (v : Value) (t : TypeId) : KBoxF (w.alloc (.cells #[.int .i64 k.le, .int .i64 k.wi, .int .i64 k.sa, .int .i64 k.sb, .int .i64 k.ba, .int .i64 k.ar, .int .i64 k.ra, .int .i64 k.wa, .int .i64 k.ga, v] t)) w.heap.size k v :=
  ⟨KBox.new _ _ _ _, fun j hj => by simp⟩
theorem KBoxF.set9 {w : World} {p : Nat} {k : Lk} {v : Value} (h : KBoxF w p k v) (u : Value) : KBoxF (w.setCell ⟨p, 9, none⟩ u) p k u := by
  obtain ⟨⟨c0, c1, c2, c3, c4, c5, c6, c7, c8, c9⟩, hf⟩ := h
  have e : ∀ j, j ≠ 9 → (w.setCell ⟨p, 9, none⟩ u).cell? ⟨p, j, none⟩ = w.cell? ⟨p, j, none⟩ := fun j hj => World.cell?_setCell_other _ _ _ _ (by intro e; injection e with _ e; omega)
  exact ⟨⟨(e 0 (by decide)).trans c0, (e 1 (by decide)).trans c1, (e 2 (by decide)).trans c2, (e 3 (by decide)).trans c3, (e 4 (by decide)).trans c4, (e 5 (by decide)).trans c5, (e 6 (by decide)).trans c6, (e 7 (by decide)).trans c7, (e 8 (by decide)).trans c8, World.cell?_setCell_same _ _ _ c9⟩,
    fun j hj => by rw [World.frozen?_setCell]; exact hf j hj⟩
theorem KBoxF.set8 {w : World} {p : Nat} {k : Lk} {v : Value} (h : KBoxF w p k v) (x : Int) : KBoxF (w.setCell ⟨p, 8, none⟩ (.int .i64 x)) p { k with ga := x } v := by
  obtain ⟨⟨c0, c1, c2, c3, c4, c5, c6, c7, c8, c9⟩, hf⟩ := h
  have e : ∀ j, j ≠ 8 → (w.setCell ⟨p, 8, none⟩ (.int .i64 x)).cell? ⟨p, j, none⟩ = w.cell? ⟨p, j, none⟩ := fun j hj => World.cell?_setCell_other _ _ _ _ (by intro e; injection e with _ e; omega)
  exact ⟨⟨(e 0 (by decide)).trans c0, (e 1 (by decide)).trans c1, (e 2 (by decide)).trans c2, (e 3 (by decide)).trans c3, (e 4 (by decide)).trans c4, (e 5 (by decide)).trans c5, (e 6 (by decide)).trans c6, (e 7 (by decide)).trans c7, World.cell?_setCell_same _ _ _ c8, (e 9 (by decide)).trans c9⟩,
    fun j hj => by rw [World.frozen?_setCell]; exact hf j hj⟩
theorem KBoxF.set7 {w : World} {p : Nat} {k : Lk} {v : Value} (h : KBoxF w p k v) (x : Int) : KBoxF (w.setCell ⟨p, 7, none⟩ (.int .i64 x)) p { k with wa := x } v := by
  obtain ⟨⟨c0, c1, c2, c3, c4, c5, c6, c7, c8, c9⟩, hf⟩ := h
  have e : ∀ j, j ≠ 7 → (w.setCell ⟨p, 7, none⟩ (.int .i64 x)).cell? ⟨p, j, none⟩ = w.cell? ⟨p, j, none⟩ := fun j hj => World.cell?_setCell_other _ _ _ _ (by intro e; injection e with _ e; omega)
  exact ⟨⟨(e 0 (by decide)).trans c0, (e 1 (by decide)).trans c1, (e 2 (by decide)).trans c2, (e 3 (by decide)).trans c3, (e 4 (by decide)).trans c4, (e 5 (by decide)).trans c5, (e 6 (by decide)).trans c6, World.cell?_setCell_same _ _ _ c7, (e 8 (by decide)).trans c8, (e 9 (by decide)).trans c9⟩,
    fun j hj => by rw [World.frozen?_setCell]; exact hf j hj⟩
def k0 : Lk := ⟨0, 0, 0, 0, 0, 0, 0, 0, 0⟩
/-- v is a slice of trains that a call owns: its own row holds the values ys, train i has its rows between lo i and hi i. -/
structure GrowS (w : World) (B : Nat) (v : Value) (S : List Tr) (ys : List Value) (lo hi gg : Nat → Nat) (GG : Nat → Nat → Nat) : Prop where
  own : w.ownsRow B 26 2 v S.length ys
  row : ∀ (i : Nat) (t : Tr), S[i]? = some t → ys[i * 2]? = some (.bool t.up) ∧ ∃ (Ai : Option Addr) (ci : Nat), ys[i * 2 + 1]? = some (.slice Ai t.R.length ci) ∧ OwnT w (lo i) (hi i) Ai t.R (gg i) (GG i)
  inR : ∀ i, i < S.length → B ≤ lo i ∧ lo i ≤ hi i ∧ hi i ≤ w.heap.size ∧ ∀ g, v.ownBlock = some g → g < lo i ∨ hi i ≤ g
  ord : ∀ i j, i < j → j < S.length → hi i ≤ lo j
theorem own_touch {w w' : World} {B s n b l : Nat} {e : TypeId} {v : Value} {xs : List Value} (h : w.ownsRow B e s v n xs) (t : Touch w w' b l) (hl : l ≤ B) : w'.ownsRow B e s v n xs := by
  rcases h.2 with ⟨h1, h2⟩ | ⟨g, cap, cur, h1, hg, hh, h2⟩
  · exact ⟨h.1, Or.inl ⟨h1, h2⟩⟩
  · exact ⟨h.1, Or.inr ⟨g, cap, cur, h1, hg, (t.block g (Array.getElem?_eq_some_iff.1 hh).1 (Or.inr (by omega))).trans hh, h2⟩⟩
section
variable {w w' : World} {B : Nat} {v : Value} {S : List Tr} {ys : List Value} {lo hi gg : Nat → Nat} {GG : Nat → Nat → Nat}
theorem GrowS.of_nil (h : w.ownsRow B 26 2 v 0 []) : GrowS w B v [] [] lo hi gg GG := ⟨h, fun i t h => by simp at h, fun i h => absurd h (by simp), fun i j _ h => absurd h (by simp)⟩
theorem GrowS.below (h : GrowS w B v S ys lo hi gg GG) (hb : Below w.heap.size w w') : GrowS w' B v S ys lo hi gg GG :=
  ⟨own_below h.own hb, fun i t ht => by
    obtain ⟨h0, Ai, ci, h1, h2⟩ := h.row i t ht
    exact ⟨h0, Ai, ci, h1, h2.below hb⟩, fun i hi => by
    obtain ⟨a1, a2, a3, a4⟩ := h.inR i hi
    exact ⟨a1, a2, Nat.le_trans a3 hb.size, a4⟩, h.ord⟩
theorem GrowS.touch {b l : Nat} (h : GrowS w B v S ys lo hi gg GG) (t : Touch w w' b l) (hl : l ≤ B) : GrowS w' B v S ys lo hi gg GG :=
  ⟨own_touch h.own t hl, fun i u hu => by
    obtain ⟨h0, Ai, ci, h1, h2⟩ := h.row i u hu
    have := (h.inR i (len_of hu)).1
    exact ⟨h0, Ai, ci, h1, h2.touch t (by omega)⟩, fun i hi => by
    obtain ⟨a1, a2, a3, a4⟩ := h.inR i hi
    exact ⟨a1, a2, Nat.le_trans a3 t.size, a4⟩, h.ord⟩
theorem GrowS.wide {B' : Nat} (h : GrowS w B v S ys lo hi gg GG) (hB : B' ≤ B) : GrowS w B' v S ys lo hi gg GG :=
  ⟨own_base h.own hB, h.row, fun i hi => by
    obtain ⟨a1, a2, a3, a4⟩ := h.inR i hi
    exact ⟨by omega, a2, a3, a4⟩, h.ord⟩
theorem GrowS.ownTs (h : GrowS w B v S ys lo hi gg GG) : ∃ A c g, v = .slice A S.length c ∧ S.length ≤ c ∧ OwnTs w B w.heap.size A S g lo hi gg GG := by
  rcases h.own.2 with ⟨hv, h0⟩ | ⟨g, cap, cur, rfl, hg, hh, hc, _⟩
  · have hS : S = [] := List.eq_nil_of_length_eq_zero h0
    subst hS
    exact ⟨none, 0, 0, hv, Nat.le_refl _, OwnTs.nil _ _ _ _ _ _ _ _ _⟩
  · have hlt := (Array.getElem?_eq_some_iff.1 hh).1
    refine ⟨_, cap, g, rfl, hc, ⟨fun _ => rfl, fun _ => ⟨hg, hlt⟩, fun i t ht => ?_, fun i hi => h.own.frozenAt i, fun i hi => ?_, h.ord⟩⟩
    · have hl := len_of ht
      obtain ⟨h0, Ai, ci, h1, h2⟩ := h.row i t ht
      exact ⟨by rw [h.own.cellAt _ (by omega), h0], Ai, ci, by rw [h.own.cellAt _ (by omega), h1], h2⟩
    · obtain ⟨a1, a2, a3, a4⟩ := h.inR i hi
      have := a4 g rfl
      omega
theorem GrowS.snoc {w2 w3 : World} {g3 cap c g1 : Nat} {up : Bool} {A : Option Addr} {T : List (List Bt)} {G1 : Nat → Nat} {o : Obj} (h : GrowS w B v S ys lo hi gg GG) (hB : B ≤ w.heap.size) (hb : Below w.heap.size w w2) (ho : OwnT w2 w.heap.size w2.heap.size A T g1 G1)
    (hown : w3.ownsRow B 26 2 (.slice (some ⟨g3, 0, none⟩) (S.length + 1) cap) (S.length + 1) (ys ++ [.bool up, .slice A T.length c])) (hgr : (w2.alloc o).grownBy w3 v.ownBlock) (hat : v.ownBlock = some g3 ∨ g3 = (w2.alloc o).heap.size) :
    GrowS w3 B (.slice (some ⟨g3, 0, none⟩) (S.length + 1) cap) (S ++ [⟨up, T⟩]) (ys ++ [.bool up, .slice A T.length c]) (fun i => if i = S.length then w.heap.size else lo i) (fun i => if i = S.length then w2.heap.size else hi i) (fun i => if i = S.length then g1 else gg i) (fun i => if i = S.length then G1 else GG i) := by
  have hyl : ys.length = S.length * 2 := h.own.1
  have hs2 := hb.size
  have hs3 : w2.heap.size + 1 ≤ w3.heap.size := by have := hgr.size; simpa using this
  have hg3 : g3 < w.heap.size ∧ v.ownBlock = some g3 ∨ g3 = w2.heap.size + 1 := by
    rcases hat with e | e
    · exact Or.inl ⟨(h.own.lt g3 e).2, e⟩
    · exact Or.inr (by simpa using e)
  have keep : ∀ {a b : Nat} {A' : Option Addr} {R : List (List Bt)} {g' : Nat} {G' : Nat → Nat}, OwnT w2 a b A' R g' G' → (∀ g, v.ownBlock = some g → g < a ∨ b ≤ g) → OwnT w3 a b A' R g' G' := fun {a b A' R g' G'} hO hd => by
    have h1 := hO.below ((Below.refl w2.heap.size w2).alloc (Nat.le_refl _) o)
    cases hv : v.ownBlock with
    | none => rw [hv] at hgr; exact h1.below (below_none hgr)
    | some g => rw [hv] at hgr; exact h1.touch (Touch.of_grown hgr (Nat.le_refl g) (Nat.lt_succ_self g)) (by have := hd g hv; omega)
  refine ⟨by rw [List.length_append]; exact hown, fun i t ht => ?_, fun i hi' => ?_, fun i j hij hj => ?_⟩
  · rcases Nat.lt_or_ge i S.length with hlt | hge
    · rw [List.getElem?_append_left hlt] at ht
      obtain ⟨h0, Ai, ci, h1, h2⟩ := h.row i t ht
      obtain ⟨a1, a2, a3, a4⟩ := h.inR i hlt
      simp only [if_neg (show i ≠ S.length by omega)]
      exact ⟨by rw [List.getElem?_append_left (by omega)]; exact h0, Ai, ci, by rw [List.getElem?_append_left (by omega)]; exact h1, keep (h2.below hb) a4⟩
    · have hl := len_of ht
      rw [List.length_append] at hl
      have e : i = S.length := by simp at hl; omega
      subst e
      rw [List.getElem?_append_right (Nat.le_refl _), Nat.sub_self] at ht
      simp at ht
      subst ht
      simp only [if_true]
      refine ⟨by rw [List.getElem?_append_right (by omega), hyl, Nat.sub_self]; rfl, A, c, by rw [List.getElem?_append_right (by omega), hyl, show S.length * 2 + 1 - S.length * 2 = 1 by omega]; rfl, keep ho fun g hg => Or.inl (h.own.lt g hg).2⟩
  · rw [List.length_append] at hi'
    have hlt : i < S.length + 1 := by simpa using hi'
    have hgb : ∀ g, (Value.slice (some ⟨g3, 0, none⟩) (S.length + 1) cap).ownBlock = some g → g = g3 := fun g hg => by
      simp only [Value.ownBlock, Option.some.injEq] at hg
      exact hg.symm
    by_cases e : i = S.length
    · simp only [if_pos e]
      exact ⟨hB, hs2, by omega, fun g hg => by rw [hgb g hg]; omega⟩
    · obtain ⟨a1, a2, a3, a4⟩ := h.inR i (by omega)
      simp only [if_neg e]
      refine ⟨a1, a2, by omega, fun g hg => ?_⟩
      rw [hgb g hg]
      rcases hg3 with ⟨_, e3⟩ | e3
      · exact a4 g3 e3
      · omega
  · rw [List.length_append] at hj
    have hlt : j < S.length + 1 := by simpa using hj
    simp only [if_neg (show i ≠ S.length by omega)]
    by_cases e : j = S.length
    · simp only [if_pos e]
      exact (h.inR i (by omega)).2.2.1
    · simp only [if_neg e]
      exact h.ord i j hij (by omega)
end
/-- What a function that gives a lock leaves, its trains a row of one's own. -/
def GivesKO (w : World) (k : Lk) (S : List Tr) (e : Ending) (w' : World) : Prop :=
  (∃ A c ys lo hi gg GG, e = .returned (.agg #[.int .i64 k.le, .int .i64 k.wi, .int .i64 k.sa, .int .i64 k.sb, .int .i64 k.ba, .int .i64 k.ar, .int .i64 k.ra, .int .i64 k.wa, .int .i64 k.ga, .slice A S.length c]) ∧ GrowS w' w.heap.size (.slice A S.length c) S ys lo hi gg GG) ∧ Below w.heap.size w w'
theorem GivesKO.gives {w w' : World} {k : Lk} {S : List Tr} {e : Ending} (h : GivesKO w k S e w') : GivesK w k S e w' := by
  obtain ⟨⟨A, c, ys, lo, hi, gg, GG, rfl, hG⟩, hb⟩ := h
  obtain ⟨A', c', g, e, hc, hO⟩ := hG.ownTs
  injection e with e1 e2 e3
  subst e1; subst e3
  exact ⟨⟨A, c, g, lo, hi, gg, GG, rfl, hc, hO⟩, hb⟩
theorem snoc_takeS {S : List Tr} {k : Nat} {t : Tr} (hr : S[k]? = some t) : S.take (k + 1) = S.take k ++ [t] := by rw [List.take_add_one, hr]; rfl
set_option maxRecDepth 100000 in
set_option maxHeartbeats 4000000 in
theorem copyK_spec (k : Lk) (A : Option Addr) (c : Nat) (S : List Tr) (w : World) (hm : ModS S) (hp : Trs w A S) :
    Calls Try.prog 136 #[.agg #[.int .i64 k.le, .int .i64 k.wi, .int .i64 k.sa, .int .i64 k.sb, .int .i64 k.ba, .int .i64 k.ar, .int .i64 k.ra, .int .i64 k.wa, .int .i64 k.ga, .slice A S.length c]] w (GivesKO w k S) := by
  have HP := vl hp
  have HM := vl hm
  have hn := hm.len
  have HB0 := vl ((((Below.refl w.heap.size w).alloc (Nat.le_refl _) (.cells #[.int .i64 k.le, .int .i64 k.wi, .int .i64 k.sa, .int .i64 k.sb, .int .i64 k.ba, .int .i64 k.ar, .int .i64 k.ra, .int .i64 k.wa, .int .i64 k.ga, .slice A S.length c] 73)).alloc (by simp) (.cells #[.int .i64 0, .int .i64 0, .int .i64 0, .int .i64 0, .int .i64 0, .int .i64 0, .int .i64 0, .int .i64 0, .int .i64 0, .slice none 0 0] 73)).alloc (by simp; omega) (.cells #[] 26))
  have HXY := vl (show KBoxF (((w.alloc (.cells #[.int .i64 k.le, .int .i64 k.wi, .int .i64 k.sa, .int .i64 k.sb, .int .i64 k.ba, .int .i64 k.ar, .int .i64 k.ra, .int .i64 k.wa, .int .i64 k.ga, .slice A S.length c] 73)).alloc (.cells #[.int .i64 0, .int .i64 0, .int .i64 0, .int .i64 0, .int .i64 0, .int .i64 0, .int .i64 0, .int .i64 0, .int .i64 0, .slice none 0 0] 73)).alloc (.cells #[] 26)) w.heap.size k (.slice A S.length c) ∧ KBoxF (((w.alloc (.cells #[.int .i64 k.le, .int .i64 k.wi, .int .i64 k.sa, .int .i64 k.sb, .int .i64 k.ba, .int .i64 k.ar, .int .i64 k.ra, .int .i64 k.wa, .int .i64 k.ga, .slice A S.length c] 73)).alloc (.cells #[.int .i64 0, .int .i64 0, .int .i64 0, .int .i64 0, .int .i64 0, .int .i64 0, .int .i64 0, .int .i64 0, .int .i64 0, .slice none 0 0] 73)).alloc (.cells #[] 26)) (w.heap.size + 1) k0 (.slice none 0 0) from by
    have h1 := KBoxF.new w k (.slice A S.length c) 73
    have h2 : KBoxF ((w.alloc (.cells #[.int .i64 k.le, .int .i64 k.wi, .int .i64 k.sa, .int .i64 k.sb, .int .i64 k.ba, .int .i64 k.ar, .int .i64 k.ra, .int .i64 k.wa, .int .i64 k.ga, .slice A S.length c] 73)).alloc (.cells #[.int .i64 0, .int .i64 0, .int .i64 0, .int .i64 0, .int .i64 0, .int .i64 0, .int .i64 0, .int .i64 0, .int .i64 0, .slice none 0 0] 73)) (w.alloc (.cells #[.int .i64 k.le, .int .i64 k.wi, .int .i64 k.sa, .int .i64 k.sb, .int .i64 k.ba, .int .i64 k.ar, .int .i64 k.ra, .int .i64 k.wa, .int .i64 k.ga, .slice A S.length c] 73)).heap.size k0 (.slice none 0 0) := KBoxF.new (w.alloc (.cells #[.int .i64 k.le, .int .i64 k.wi, .int .i64 k.sa, .int .i64 k.sb, .int .i64 k.ba, .int .i64 k.ar, .int .i64 k.ra, .int .i64 k.wa, .int .i64 k.ga, .slice A S.length c] 73)) k0 (.slice none 0 0) 73
    have h1' := (h1.block (Below.heap_alloc _ (.cells #[.int .i64 0, .int .i64 0, .int .i64 0, .int .i64 0, .int .i64 0, .int .i64 0, .int .i64 0, .int .i64 0, .int .i64 0, .slice none 0 0] 73) _ (by simp))).block (Below.heap_alloc _ (.cells #[] 26) _ (by simp; omega))
    have h2' := h2.block (Below.heap_alloc _ (.cells #[] 26) _ (by simp))
    exact ⟨h1', by simpa using h2'⟩)
  have HG := vl (show GrowS (((w.alloc (.cells #[.int .i64 k.le, .int .i64 k.wi, .int .i64 k.sa, .int .i64 k.sb, .int .i64 k.ba, .int .i64 k.ar, .int .i64 k.ra, .int .i64 k.wa, .int .i64 k.ga, .slice A S.length c] 73)).alloc (.cells #[.int .i64 0, .int .i64 0, .int .i64 0, .int .i64 0, .int .i64 0, .int .i64 0, .int .i64 0, .int .i64 0, .int .i64 0, .slice none 0 0] 73)).alloc (.cells #[] 26)) (w.heap.size + 2) (.slice (some ⟨w.heap.size + 2, 0, none⟩) 0 0) [] [] (fun _ => 0) (fun _ => 0) (fun _ => 0) (fun _ _ => 0) from GrowS.of_nil (by
    have := World.ownsRow_lit (base := w.heap.size + 2) (e := 26) (size := 2) ((w.alloc (.cells #[.int .i64 k.le, .int .i64 k.wi, .int .i64 k.sa, .int .i64 k.sb, .int .i64 k.ba, .int .i64 k.ar, .int .i64 k.ra, .int .i64 k.wa, .int .i64 k.ga, .slice A S.length c] 73)).alloc (.cells #[.int .i64 0, .int .i64 0, .int .i64 0, .int .i64 0, .int .i64 0, .int .i64 0, .int .i64 0, .int .i64 0, .int .i64 0, .slice none 0 0] 73)) #[] 0 (by simp) (by decide) rfl
    simpa using this))
  clear hp hm
  go_enter Try.func136, Try.ntmps136
  go_wp2
  obtain ⟨j0, hj, hy0, hy1, hy2⟩ := info_parts infoT
  go_loopw [3, 4] (fun v i wr => ∃ (n : Nat) (ys : List Value) (lo hi gg : Nat → Nat) (GG : Nat → Nat → Nat), n ≤ S.length ∧ i = .int .i64 n ∧ Veil (Below w.heap.size w wr) ∧ Veil (KBoxF wr w.heap.size k (.slice A S.length c)) ∧ Veil (KBoxF wr (w.heap.size + 1) k0 (.slice none 0 0)) ∧ Veil (GrowS wr (w.heap.size + 2) v (S.take n) ys lo hi gg GG)) (fun _ i _ => S.length - (intOf i).toNat)
  case atStart => exact ⟨0, [], _, _, _, _, by omega, rfl, HB0, vl HXY.out.1, vl HXY.out.2, HG⟩
  case round =>
    obtain ⟨n, ys, lo, hi, gg, GG, hnS, rfl, HB, HX, HY, HO⟩ := hrel
    obtain ⟨V, d, rfl, _⟩ := own_src HO.out.own
    have hz := HY.out.lt
    have x9 := HX.out.c.2.2.2.2.2.2.2.2.2
    by_cases hlt : n < S.length
    · obtain ⟨t, ht⟩ := get_of hlt
      obtain ⟨g, o, rfl, hc⟩ := (HP.out.below HB.out) (by omega)
      obtain ⟨c0, Ai, ci, c1, HT⟩ := hc n t ht
      have HK := vl (snoc_takeS ht)
      have HMt := vl (HM.out.all t (mem_of ht))
      have hlen : (S.take n).length = n := by rw [List.length_take]; omega
      rw [hlen] at HO ⊢
      have HL := vl hlen
      clear hc ht hlen
      go_wp2_with fail
      refine (copy_spec t.up Ai ci t.R _ HMt.out HT.out).mono ?_
      rintro e w2 ⟨⟨A2, c2, g2, G2, rfl, _, ho2⟩, hb2⟩
      have HB2 := vl hb2
      have HO2 := vl ho2
      have HOw := vl (HO.out.below hb2)
      have hz2 := hb2.size
      clear hb2 ho2 c0 c1 x9
      go_wp2_with (at_builtin; refine wpList_append_lies _ rfl _ _ 71 rfl (w.heap.size + 2) 26 j0 _ 2 32 Try.underlying71 hj hy0 hy1 hy2 rfl (by decide) (.slice V n d) n ys rfl (by have := HOw.out.own.alloc (.cells #[.bool t.up, .slice A2 t.R.length c2] 26); rwa [HL.out] at this) ⟨w2.heap.size, 0, none⟩ 1 1 [.bool t.up, .slice A2 t.R.length c2] rfl rfl (fun j x hx => World.news_of_block (heap_alloc_new _ _) j x (by simpa using hx)) (fun x hx => by simp at hx; rcases hx with rfl | rfl <;> rfl) (by omega) (by unfold maxLen; omega) (by omega) (by simp; omega) _ rfl ?_)
      intro g3 cap w3 hown3 hgrow hat hlt3
      have HG3 := vl (HO.out.snoc (up := t.up) (c := c2) (by omega) HB2.out HO2.out (by rw [HL.out]; exact hown3) hgrow (by rw [World.size_alloc]; exact hat))
      have hb3 := ((Below.refl (w.heap.size + 2) w2).alloc (by omega) (.cells #[.bool t.up, .slice A2 t.R.length c2] 26)).trans (below_app' (HOw.out.own.alloc (.cells #[.bool t.up, .slice A2 t.R.length c2] 26)) hgrow (by simp; omega))
      have HB3 := vl (HB.out.trans ((HB2.out.mono HB.out.size).trans (hb3.mono (by omega))))
      have HX3 := vl ((HX.out.below HB2.out (by omega)).below hb3 (by omega))
      have HY3 := vl ((HY.out.below HB2.out hz).below hb3 (by omega))
      clear hown3 hgrow hat hlt3 hb3 HOw HO2 HB2
      go_wp2
      go_roundw
      case rel => exact ⟨n + 1, _, _, _, _, _, by omega, by go_num, HB3, HX3, HY3, vl (by have := HG3.out; rw [HL.out] at this; rw [HK.out]; exact this)⟩
      case measure => simp [intOf]; omega
    · obtain rfl : n = S.length := by omega
      have hT : S.take S.length = S := List.take_length
      rw [hT] at HO ⊢
      clear hT
      obtain ⟨⟨y0, y1, y2, y3, y4, y5, y6, y7, y8, y9⟩, hf⟩ := HY.out
      obtain ⟨⟨x0, x1, x2, x3, x4, x5, x6, x7, x8, x9⟩, hxf⟩ := HX.out
      have q9 := hxf 9 (by decide)
      have f0 := hf 0 (by decide); have f1 := hf 1 (by decide); have f2 := hf 2 (by decide); have f3 := hf 3 (by decide); have f4 := hf 4 (by decide)
      have f5 := hf 5 (by decide); have f6 := hf 6 (by decide); have f7 := hf 7 (by decide); have f8 := hf 8 (by decide); have f9 := hf 9 (by decide)
      clear hf hxf
      go_wp2
      refine bodyPost_ret (v := .agg #[.int .i64 k.le, .int .i64 k.wi, .int .i64 k.sa, .int .i64 k.sb, .int .i64 k.ba, .int .i64 k.ar, .int .i64 k.ra, .int .i64 k.wa, .int .i64 k.ga, .slice V S.length d]) (by simp [results, Try.results136, go_sem, y0, y1, y2, y3, y4, y5, y6, y7, y8, y9]) rfl ?_
      clear x0 x1 x2 x3 x4 x5 x6 x7 x8 x9 y0 y1 y2 y3 y4 y5 y6 y7 y8 y9 q9 f0 f1 f2 f3 f4 f5 f6 f7 f8 f9
      have key : ∀ W' : World, Touch wr W' w.heap.size (w.heap.size + 2) → GivesKO w k S (.returned (.agg #[.int .i64 k.le, .int .i64 k.wi, .int .i64 k.sa, .int .i64 k.sb, .int .i64 k.ba, .int .i64 k.ar, .int .i64 k.ra, .int .i64 k.wa, .int .i64 k.ga, .slice V S.length d])) W' := fun W' hT =>
        ⟨⟨V, d, ys, lo, hi, gg, GG, rfl, (HO.out.touch hT (Nat.le_refl _)).wide (by omega)⟩, hT.below HB.out (Nat.le_refl _)⟩
      refine key _ ?_
      iterate 11 (with_reducible refine Touch.set ?_ _ _ _ (by omega) (by omega))
      exact Touch.refl _ _ _
end Go.Proofs.Ytmfeleocjmdooaa.C1
