/- NewReach, of the program and of its model. -/
import Derived.Test.YtkaddacflblghaaRchT
import Derived.Deep.RegionLaw
import Derived.Deep.RegionWith
import Derived.Deep.DeepCutAuto
namespace Go.Proofs.Ytkaddacflblghaa.C1
open Go.ChangeShapes Go.WideShapes Go.ChangeAt Go.RowKit
set_option linter.unusedVariables false

theorem step_app {P : Program} {w : World} {ops : Array Oper} {o : Oper} {a : Act} {K : Act → World → Prop} {Q : Exit → Act → World → Prop} {E : Prop} (hgd : o.guard = none) (s x : Operand) (t : TypeId)
    (ho : o.op = .call { callee := .builtin .append, args := #[s, x], argTypes := #[t, t] })
    (base : Nat) (e : TypeId) (i : TypeInfo) (z : Value) (size bytes : Nat) (ht : P.underlying t = some (.slice e)) (hi : P.info? e = some i) (hz : i.zero = some z)
    (hsize : i.size = size) (hby : i.bytes = bytes) (hzs : z.cells.size = size) (hsz : 0 < size) (v : Value) (n : Nat) (xs : List Value) (hs : a.eval s = v) (hown : w.ownsRow base e size v n xs)
    (A : Option Addr) (m c : Nat) (news : List Value) (hx : a.eval x = .slice A m c) (hl : news.length = m * size) (hA : 0 < m → ∃ ad, A = some ad ∧ ∀ j u, news[j]? = some u → w.cell? (ad.add j) = some u) (h1 : ∀ u ∈ news, u.oneCell' = true)
    (h63 : n + m ≤ maxLen) (hbytes : (n + m) * bytes ≤ 140737488355328) (hbase : base ≤ w.heap.size)
    (h : ∀ v' w', w'.ownsRow base e size v' (n + m) (xs ++ news) → w.grownBy w' v.ownBlock → K (a.put o.dst v') w') :
    if Region.wanted o (yielded ops a.tmps) = true then Oper.wp P o a w K Q else E := by
  have hw : Region.wanted o (yielded ops a.tmps) = true := by simp [Region.wanted, hgd]
  rw [if_pos hw]
  exact wp_app s x t ho base e i z size bytes ht hi hz hsize hby hzs hsz v n xs hs hown A m c news hx hl hA h1 h63 hbytes hbase h
/-- What a function that gives a reach and a flag leaves. -/
def GivesRB (w : World) (r : Rc) (b : Bool) (e : Ending) (w' : World) : Prop :=
  (∃ A c D d g1 g2, e = .returned (.tuple #[.agg #[.slice A r.n c, .int .i64 r.v, .slice D r.m d], .bool b]) ∧ r.m ≤ d ∧ Owned w' w.heap.size w'.heap.size A D r g1 g2) ∧ Below w.heap.size w w'
theorem owned_nil (w : World) (B L : Nat) : Owned w B L none none nilR 0 0 :=
  ⟨⟨fun h => absurd h (by decide), fun i hi => absurd hi (by show ¬ i < 0; omega)⟩, fun i hi => absurd hi (by show ¬ i < 0 * 2; omega), ⟨fun h => absurd h (by decide), fun i hi => absurd hi (by show ¬ i < 0; omega)⟩, fun i hi => absurd hi (by show ¬ i < 0; omega), fun h => absurd h (by decide), fun h => absurd h (by decide), fun h => absurd h (by decide)⟩
theorem gives_nil {w w' : World} (hb : Below w.heap.size w w') : GivesRB w nilR false (.returned (.tuple #[.agg #[.slice none 0 0, .int .i64 0, .slice none 0 0], .bool false])) w' :=
  ⟨⟨none, 0, none, 0, 0, 0, rfl, Nat.le_refl _, owned_nil _ _ _⟩, hb⟩
theorem give_endB {w w5 : World} {res : Nat} {r : Rc} {A D : Option Addr} {n m c d g1 g2 B L : Nat} {v : Int} {u0 u1 u2 : Value} (hB : Below w.heap.size w w5) (hO : Owned w5 B L A D r g1 g2) (h1 : w.heap.size ≤ res) (h2 : res < B) (hL : L ≤ w5.heap.size) (hn : r.n = n) (hm : r.m = m) (hv : r.v = v) (hcd : m ≤ d) :
    GivesRB w r true (.returned (.tuple #[.agg #[.slice A n c, .int .i64 v, .slice D m d], .bool true])) (((w5.setCell ⟨res, 0, none⟩ u0).setCell ⟨res, 1, none⟩ u1).setCell ⟨res, 2, none⟩ u2) := by
  subst hn; subst hm; subst hv
  have HU := (((Touch.refl w5 res (res + 1)).set res 0 u0 (Nat.le_refl _) (Nat.lt_succ_self _)).set res 1 u1 (Nat.le_refl _) (Nat.lt_succ_self _)).set res 2 u2 (Nat.le_refl _) (Nat.lt_succ_self _)
  have hs := HU.size
  exact ⟨⟨A, c, D, d, g1, g2, rfl, hcd, (hO.touch HU (Or.inr (by omega))).wide (by omega) (by omega)⟩, HU.below hB h1⟩
theorem new_out {n : Nat} {X Y : Nat → Int} {level delay : Int} (h : ¬ (0 ≤ delay ∧ delay ≤ 12)) : newB n X Y level delay = false ∧ newR n X Y level delay = nilR := by
  have hb : newB n X Y level delay = false := by unfold newB; rw [inB_no (by omega)]; rfl
  exact ⟨hb, by unfold newR; rw [hb]; rfl⟩
theorem new_in {n d : Nat} {X Y : Nat → Int} {level : Int} (h : d ≤ 12) : newB n X Y level (d : Int) = rOk (newC n X Y level d) := by unfold newB; rw [inB_yes (by omega) (by omega), Int.toNat_natCast, Bool.true_and]
theorem new_yes {n d : Nat} {X Y : Nat → Int} {level : Int} (h : d ≤ 12) (ho : rOk (newC n X Y level d) = true) : newB n X Y level (d : Int) = true ∧ newR n X Y level (d : Int) = newC n X Y level d := by
  have hb := (new_in (n := n) (X := X) (Y := Y) (level := level) h).trans ho
  exact ⟨hb, by unfold newR; rw [if_pos hb, Int.toNat_natCast]⟩
theorem new_no {n d : Nat} {X Y : Nat → Int} {level : Int} (h : d ≤ 12) (ho : rOk (newC n X Y level d) = false) : newB n X Y level (d : Int) = false ∧ newR n X Y level (d : Int) = nilR := by
  have hb := (new_in (n := n) (X := X) (Y := Y) (level := level) h).trans ho
  exact ⟨hb, by unfold newR; rw [hb]; rfl⟩
/-- What NewReach leaves behind its variable r: the box and the two rows. -/
def Made (w wx : World) (n : Nat) (X Y : Nat → Int) (v : Int) (d b : Nat) (A D : Option Addr) (c d' g1 g2 : Nat) : Prop :=
  Box wx b (.slice A n c) (.int .i64 v) (.slice D d d') 29 ∧ d ≤ d' ∧ w.heap.size < b ∧ Owned wx (w.heap.size + 1) wx.heap.size A D ⟨n, X, Y, v, d, fun _ => 0⟩ g1 g2 ∧ Below w.heap.size w wx
theorem Box.new' {w : World} {b : Nat} {x y z : Value} {t : TypeId} (h : b = w.heap.size) : Box (w.alloc (.cells #[x, y, z] t)) b x y z t := by subst h; exact Box.new w x y z t
theorem Box.farI {w : World} {b g j : Nat} {x y z u : Value} {t : TypeId} (hne : b ≠ g) (h : Box w b x y z t) : Box (w.setCell ⟨g, j, none⟩ u) b x y z t := h.far u hne
theorem Box.drewI {w : World} {b : Nat} {x y z : Value} {t : TypeId} (h : Box w b x y z t) : Box w.drew b x y z t := h
theorem Box.belowI {w w' : World} {b B : Nat} {x y z : Value} {t : TypeId} (hb : Below B w w') (hB : b < B) (h : Box w b x y z t) : Box w' b x y z t := (hb.block b hB).trans h
theorem heap_new' {w : World} {o : Obj} {k : Nat} (h : k = w.heap.size) : (w.alloc o).heap[k]? = some o := by subst h; exact heap_alloc_new w o
theorem heap_old' {w : World} {o : Obj} {k : Nat} {u : Option Obj} (h : k < w.heap.size) (e : w.heap[k]? = u) : (w.alloc o).heap[k]? = u := (Below.heap_alloc w o k h).trans e
theorem heap_set' {w : World} {g j k : Nat} {v : Value} {u : Option Obj} (h : k ≠ g) (e : w.heap[k]? = u) : (w.setCell ⟨g, j, none⟩ v).heap[k]? = u := (heap_other h).trans e
theorem heap_drew' {w : World} {k : Nat} {u : Option Obj} (e : w.heap[k]? = u) : w.drew.heap[k]? = u := e
theorem heap_below' {w w' : World} {B k : Nat} {u : Option Obj} (hb : Below B w w') (h : k < B) (e : w.heap[k]? = u) : w'.heap[k]? = u := (hb.block k h).trans e
theorem rowI_made {w : World} {g d : Nat} (h : w.heap[g]? = some (.cells (madeCells #[.int .i64 0] d) 3 (0, 0))) : RowI w (some ⟨g, 0, none⟩) d g (fun _ => 0) ∧ Free w d g := by
  refine ⟨⟨fun _ => rfl, fun i hi => ?_⟩, fun i hi => by simp [World.frozen?, h]⟩
  have hs : (madeCells #[.int .i64 0] d)[i]? = some (Value.int .i64 0) := by simp [madeCells, hi, Nat.mod_one]
  simp [World.cell?, h, hs]
theorem RowP.of_heap {w w' : World} {A : Option Addr} {n g : Nat} {X Y : Nat → Int} (h : RowP w A n g X Y) (e : 0 < n → w'.heap[g]? = w.heap[g]?) : RowP w' A n g X Y :=
  ⟨h.1, fun i hi => ⟨(World.cell?_of_block (e (by omega))).trans (h.2 i hi).1, (World.cell?_of_block (e (by omega))).trans (h.2 i hi).2⟩⟩
theorem Free.of_heap {w w' : World} {n g : Nat} (h : Free w n g) (e : 0 < n → w'.heap[g]? = w.heap[g]?) : Free w' n g := fun i hi => (frozen_of_block (e (by omega))).trans (h i hi)
theorem made_mk {w wx wc : World} {n d b g1 m c d' : Nat} {X Y : Nat → Int} {v : Int} {A : Option Addr} (hbx : Box wx b (.slice A n c) (.int .i64 v) (.slice (some ⟨m, 0, none⟩) d d') 29) (hd : d ≤ d') (hb : w.heap.size < b) (hr : RowP wc A n g1 X Y) (hf : Free wc (n * 2) g1)
    (he : 0 < n → wx.heap[g1]? = wc.heap[g1]?) (hm : wx.heap[m]? = some (.cells (madeCells #[.int .i64 0] d) 3 (0, 0))) (h1 : w.heap.size < g1) (h2 : w.heap.size < m) (h3 : 0 < n → g1 < wx.heap.size) (h4 : 0 < n → g1 ≠ m) (hB : Below w.heap.size w wx) :
    Made w wx n X Y v d b A (some ⟨m, 0, none⟩) c d' g1 m := by
  have R := rowI_made hm
  have hml : m < wx.heap.size := (Array.getElem?_eq_some_iff.1 hm).1
  exact ⟨hbx, hd, hb, ⟨hr.of_heap he, hf.of_heap (fun hn => he (by omega)), R.1, R.2, fun hn => ⟨h1, h3 hn⟩, fun _ => ⟨h2, hml⟩, fun hn _ => h4 hn⟩, hB⟩
end Go.Proofs.Ytkaddacflblghaa.C1
