/- What many texts need: appends whose source may be nil, rows of integers of one's own, blocks that have changed between two bounds, boxes of three cells. -/
import Derived.Test.YtngmpimoebggdaaRow
import Derived.Test.YtngmpimoebggdaaInts
import Derived.Laws.OwnMore
import Derived.OwnWalk
namespace Go.Proofs.Ytngmpimoebggdaa.C1
open Go.ChangeShapes Go.WideShapes Go.ChangeAt Go.RowKit
set_option linter.unusedVariables false

/-- A fact that the walk looks past: faster than 'Hid' where a walk has many negations in its context. -/
structure Veil (p : Prop) : Prop where
  out : p
theorem vl {p : Prop} (h : p) : Veil p := ⟨h⟩

def itl (n : Nat) (Z : Nat → Int) : List Value := (List.range n).map fun i => .int .i64 (Z i)
theorem itl_len (n : Nat) (Z : Nat → Int) : (itl n Z).length = n := by simp [itl]
theorem itl_at {n : Nat} {Z : Nat → Int} {i : Nat} (hi : i < n) : (itl n Z)[i]? = some (.int .i64 (Z i)) := by simp [itl, hi]
theorem itl_one {n : Nat} {Z : Nat → Int} : ∀ u ∈ itl n Z, u.oneCell' = true := fun u hu => by
  obtain ⟨i, _, rfl⟩ := List.mem_map.1 hu
  rfl
theorem itl_snoc (n : Nat) (Z : Nat → Int) : itl n Z ++ [.int .i64 (Z n)] = itl (n + 1) Z := by simp [itl, List.range_succ]
theorem itl_congr {n : Nat} {Z V : Nat → Int} (h : ∀ i, i < n → Z i = V i) : itl n Z = itl n V := by
  unfold itl
  exact List.map_congr_left fun i hi => by rw [h i (List.mem_range.1 hi)]

theorem rowI_of_own {w : World} {B : Nat} {v : Value} {n : Nat} {Z : Nat → Int} (h : w.ownsRow B 3 1 v n (itl n Z)) (hB : B ≤ w.heap.size) :
    ∃ A c g, v = .slice A n c ∧ n ≤ c ∧ RowI w A n g Z ∧ Free w n g ∧ B ≤ g ∧ (0 < n → g < w.heap.size) := by
  rcases h.2 with ⟨rfl, rfl⟩ | ⟨g, cap, cur, rfl, hg, hh, hc, _⟩
  · exact ⟨none, 0, B, rfl, Nat.le_refl _, ⟨fun h => absurd h (by omega), fun i hi => absurd hi (by omega)⟩, fun i hi => absurd hi (by omega), Nat.le_refl _, fun h => absurd h (by omega)⟩
  · exact ⟨_, cap, g, rfl, hc, ⟨fun _ => rfl, fun i hi => by rw [h.cellAt _ (by omega), itl_at (by omega)]⟩, fun i hi => h.frozenAt i, hg, fun _ => (Array.getElem?_eq_some_iff.1 hh).1⟩

/-- An append whose source may be nil: what the operation itself gives. -/
theorem run_app (w : World) {P : Program} (base : Nat) (t ty e : TypeId) (i : TypeInfo) (z : Value) (size bytes : Nat) (ht : P.underlying t = some (.slice e)) (hi : P.info? e = some i) (hz : i.zero = some z)
    (hsize : i.size = size) (hby : i.bytes = bytes) (hzs : z.cells.size = size) (hsz : 0 < size) (v : Value) (n : Nat) (xs : List Value) (hown : w.ownsRow base e size v n xs)
    (A : Option Addr) (m c : Nat) (news : List Value) (hl : news.length = m * size) (hA : 0 < m → ∃ ad, A = some ad ∧ ∀ j u, news[j]? = some u → w.cell? (ad.add j) = some u) (h1 : ∀ u ∈ news, u.oneCell' = true)
    (h63 : n + m ≤ maxLen) (hbytes : (n + m) * bytes ≤ 140737488355328) (hbase : base ≤ w.heap.size) :
    ∃ v' w', (Builtin.append_ #[t, t] ty #[v, .slice A m c]).run P w = .ok v' w' ∧ w'.ownsRow base e size v' (n + m) (xs ++ news) ∧ w.grownBy w' v.ownBlock := by
  cases A with
  | none =>
    obtain rfl : m = 0 := by
      rcases Nat.eq_zero_or_pos m with h | h
      · exact h
      · obtain ⟨ad, h, _⟩ := hA h; cases h
    obtain rfl : news = [] := List.eq_nil_of_length_eq_zero (by omega)
    refine ⟨v, w, ?_, by simpa using hown, World.grownBy.refl w _⟩
    rcases hown.2 with ⟨rfl, rfl⟩ | ⟨g, cap, cur, rfl, _, _, hnc, _⟩
    · simp [Builtin.append_, run_underlying ht, sizeOf, typeInfo, hi, Builtin.lenOf, Builtin.firstCells]
    · simp [Builtin.append_, run_underlying ht, sizeOf, typeInfo, hi, Builtin.lenOf, Builtin.firstCells, hnc, storeCells]
  | some ad =>
    have hc : ∀ j u, news[j]? = some u → w.cell? (ad.add j) = some u := fun j u hu => by
      rcases Nat.eq_zero_or_pos m with h | h
      · subst h
        obtain rfl : news = [] := List.eq_nil_of_length_eq_zero (by omega)
        simp at hu
      · obtain ⟨ad', e, hc⟩ := hA h
        injection e with e; subst e
        exact hc j u hu
    obtain ⟨v', w', hrun, h2, h3, _⟩ := run_append_own (P := P) w base t ty e i z size bytes ht hi hz hsize hby hzs hsz v n xs hown ad m c news hl hc h1 h63 hbytes hbase
    exact ⟨v', w', hrun, h2, h3⟩
theorem wp_app {w : World} {P : Program} {o : Oper} {a : Act} {K : Act → World → Prop} {Q : Exit → Act → World → Prop} (s x : Operand) (t : TypeId)
    (ho : o.op = .call { callee := .builtin .append, args := #[s, x], argTypes := #[t, t] })
    (base : Nat) (e : TypeId) (i : TypeInfo) (z : Value) (size bytes : Nat) (ht : P.underlying t = some (.slice e)) (hi : P.info? e = some i) (hz : i.zero = some z)
    (hsize : i.size = size) (hby : i.bytes = bytes) (hzs : z.cells.size = size) (hsz : 0 < size) (v : Value) (n : Nat) (xs : List Value) (hs : a.eval s = v) (hown : w.ownsRow base e size v n xs)
    (A : Option Addr) (m c : Nat) (news : List Value) (hx : a.eval x = .slice A m c) (hl : news.length = m * size) (hA : 0 < m → ∃ ad, A = some ad ∧ ∀ j u, news[j]? = some u → w.cell? (ad.add j) = some u) (h1 : ∀ u ∈ news, u.oneCell' = true)
    (h63 : n + m ≤ maxLen) (hbytes : (n + m) * bytes ≤ 140737488355328) (hbase : base ≤ w.heap.size)
    (h : ∀ v' w', w'.ownsRow base e size v' (n + m) (xs ++ news) → w.grownBy w' v.ownBlock → K (a.put o.dst v') w') : o.wp P a w K Q := by
  obtain ⟨v', w', hrun, h2, h3⟩ := run_app (P := P) w base t o.type e i z size bytes ht hi hz hsize hby hzs hsz v n xs hown A m c news hl hA h1 h63 hbytes hbase
  unfold Oper.wp execOp
  simp only [ho, resolve, invoke, builtin, Sem.run_bind, Sem.run_pure, Result.andThen_ok, List.map_toArray, List.map_cons, List.map_nil, hs, hx, hrun]
  exact h v' w' h2 h3
theorem wpList_app {w : World} {P : Program} {ops : Array Oper} {rest : List Oper} {o : Oper} {a : Act} {Q : Exit → Act → World → Prop} (hgd : o.guard = none) (s x : Operand) (t : TypeId)
    (ho : o.op = .call { callee := .builtin .append, args := #[s, x], argTypes := #[t, t] })
    (base : Nat) (e : TypeId) (i : TypeInfo) (z : Value) (size bytes : Nat) (ht : P.underlying t = some (.slice e)) (hi : P.info? e = some i) (hz : i.zero = some z)
    (hsize : i.size = size) (hby : i.bytes = bytes) (hzs : z.cells.size = size) (hsz : 0 < size) (v : Value) (n : Nat) (xs : List Value) (hs : a.eval s = v) (hown : w.ownsRow base e size v n xs)
    (A : Option Addr) (m c : Nat) (news : List Value) (hx : a.eval x = .slice A m c) (hl : news.length = m * size) (hA : 0 < m → ∃ ad, A = some ad ∧ ∀ j u, news[j]? = some u → w.cell? (ad.add j) = some u) (h1 : ∀ u ∈ news, u.oneCell' = true)
    (h63 : n + m ≤ maxLen) (hbytes : (n + m) * bytes ≤ 140737488355328) (hbase : base ≤ w.heap.size)
    (h : ∀ v' w', w'.ownsRow base e size v' (n + m) (xs ++ news) → w.grownBy w' v.ownBlock → wpList P ops Q rest (a.put o.dst v') w') : wpList P ops Q (o :: rest) a w :=
  wpList_plain hgd fun _ hK => wp_app s x t ho base e i z size bytes ht hi hz hsize hby hzs hsz v n xs hs hown A m c news hx hl hA h1 h63 hbytes hbase fun v' w' h2 h3 => hK _ _ (h v' w' h2 h3)

theorem infoI : (Try.prog.info? 3).map (fun i => (i.zero, i.size, i.bytes)) = some (some (.int .i64 0), 1, 8) := by kernel_rfl
theorem own_nil (w : World) (B : Nat) (e : TypeId) (s : Nat) : w.ownsRow B e s (.slice none 0 0) 0 [] := ⟨by simp, .inl ⟨rfl, rfl⟩⟩

theorem below_none {a b : World} (h : a.grownBy b none) : Below a.heap.size a b := ⟨h.os, h.tape, h.output, h.size, fun k hk => h.block k hk (by simp)⟩
theorem bcell {W w1 : World} (hb : Below W.heap.size W w1) : (∀ b o, b < W.heap.size → w1.cell? ⟨b, o, none⟩ = W.cell? ⟨b, o, none⟩) ∧ (∀ b o, b < W.heap.size → w1.frozen? ⟨b, o, none⟩ = W.frozen? ⟨b, o, none⟩) :=
  ⟨fun b o h => hb.cell (p := ⟨b, o, none⟩) h, fun b o h => hb.frozen (p := ⟨b, o, none⟩) h⟩

/-- Blocks outside B .. L are as they were. -/
structure Touch (w w' : World) (B L : Nat) : Prop where
  os : w'.os = w.os
  tape : w'.tape = w.tape
  output : w'.output = w.output
  size : w.heap.size ≤ w'.heap.size
  block : ∀ k, k < w.heap.size → (k < B ∨ L ≤ k) → w'.heap[k]? = w.heap[k]?
theorem Touch.of_below {w w' : World} {B L : Nat} (h : Below w.heap.size w w') : Touch w w' B L := ⟨h.os, h.tape, h.output, h.size, fun k hk _ => h.block k hk⟩
theorem Touch.trans {a b c : World} {B L : Nat} (h : Touch a b B L) (k : Touch b c B L) : Touch a c B L :=
  ⟨k.os.trans h.os, k.tape.trans h.tape, k.output.trans h.output, Nat.le_trans h.size k.size, fun i h1 h2 => (k.block i (Nat.lt_of_lt_of_le h1 h.size) h2).trans (h.block i h1 h2)⟩
theorem Touch.below {a w w' : World} {B L : Nat} (h : Touch w w' B L) (hb : Below a.heap.size a w) (hB : a.heap.size ≤ B) : Below a.heap.size a w' :=
  ⟨h.os.trans hb.os, h.tape.trans hb.tape, h.output.trans hb.output, Nat.le_trans hb.size h.size, fun k hk => (h.block k (Nat.lt_of_lt_of_le hk hb.size) (Or.inl (by omega))).trans (hb.block k hk)⟩
theorem Touch.of_grown {w w' : World} {g B L : Nat} (h : w.grownBy w' (some g)) (h1 : B ≤ g) (h2 : g < L) : Touch w w' B L :=
  ⟨h.os, h.tape, h.output, h.size, fun k hk ho => h.block k hk (by intro e; injection e with e; omega)⟩
theorem Touch.refl (w : World) (B L : Nat) : Touch w w B L := ⟨rfl, rfl, rfl, Nat.le_refl _, fun _ _ _ => rfl⟩
theorem Touch.set {a w : World} {B L : Nat} (h : Touch a w B L) (g j : Nat) (u : Value) (h1 : B ≤ g) (h2 : g < L) : Touch a (w.setCell ⟨g, j, none⟩ u) B L :=
  ⟨h.os, h.tape, h.output, by simpa using h.size, fun k hk ho => (Below.heap_setCell w ⟨g, j, none⟩ u k (fun e => by have e' : k = g := e; omega)).trans (h.block k hk ho)⟩
theorem frozen_of_block {w w' : World} {g i : Nat} (h : w'.heap[g]? = w.heap[g]?) : w'.frozen? ⟨g, i, none⟩ = w.frozen? ⟨g, i, none⟩ := by
  unfold World.frozen?
  show (match w'.heap[g]? with | _ => _) = _
  rw [h]
theorem Touch.rowI {w w' : World} {B L n g : Nat} {A : Option Addr} {Z : Nat → Int} (t : Touch w w' B L) (h : RowI w A n g Z) (hg : 0 < n → g < B ∨ L ≤ g) : RowI w' A n g Z :=
  ⟨h.1, fun i hi => (World.cell?_of_block (t.block g (h.lt hi) (hg (by omega)))).trans (h.2 i hi)⟩
theorem Touch.free {w w' : World} {B L n g : Nat} (t : Touch w w' B L) (h : Free w n g) (hl : 0 < n → g < w.heap.size) (hg : 0 < n → g < B ∨ L ≤ g) : Free w' n g :=
  fun i hi => (frozen_of_block (t.block g (hl (by omega)) (hg (by omega)))).trans (h i hi)
/-- Block b is just three cells. -/
def Box (w : World) (b : Nat) (x y z : Value) (t : TypeId) : Prop := w.heap[b]? = some (.cells #[x, y, z] t (0, 0))
theorem Box.lt {w : World} {b : Nat} {x y z : Value} {t : TypeId} (h : Box w b x y z t) : b < w.heap.size := (Array.getElem?_eq_some_iff.1 h).1
theorem Box.new (w : World) (x y z : Value) (t : TypeId) : Box (w.alloc (.cells #[x, y, z] t)) w.heap.size x y z t := heap_alloc_new w _
theorem Box.alloc {w : World} {b : Nat} {x y z : Value} {t : TypeId} (h : Box w b x y z t) (o : Obj) : Box (w.alloc o) b x y z t := (Below.heap_alloc w o b h.lt).trans h
theorem Box.below {w w' : World} {b : Nat} {x y z : Value} {t : TypeId} (h : Box w b x y z t) (hb : Below w.heap.size w w') : Box w' b x y z t := (hb.block b h.lt).trans h
theorem Box.touch {w w' : World} {b B L : Nat} {x y z : Value} {t : TypeId} (h : Box w b x y z t) (hb : Touch w w' B L) (ho : b < B ∨ L ≤ b) : Box w' b x y z t := (hb.block b h.lt ho).trans h
theorem Box.at {w : World} {b : Nat} {x y z : Value} {t : TypeId} (h : Box w b x y z t) : w.cell? ⟨b, 0, none⟩ = some x ∧ w.cell? ⟨b, 1, none⟩ = some y ∧ w.cell? ⟨b, 2, none⟩ = some z := by
  unfold Box at h
  unfold World.cell?
  simp [h]

theorem Box.free {w : World} {b : Nat} {x y z : Value} {t : TypeId} (h : Box w b x y z t) : w.frozen? ⟨b, 0, none⟩ = false ∧ w.frozen? ⟨b, 1, none⟩ = false ∧ w.frozen? ⟨b, 2, none⟩ = false := by
  unfold Box at h
  unfold World.frozen?
  simp [h]
theorem Box.set0 {w : World} {b : Nat} {x y z : Value} {t : TypeId} (h : Box w b x y z t) (u : Value) : Box (w.setCell ⟨b, 0, none⟩ u) b u y z t := by
  unfold Box at *
  simp [World.setCell, Array.getElem?_modify, h]
theorem Box.set1 {w : World} {b : Nat} {x y z : Value} {t : TypeId} (h : Box w b x y z t) (u : Value) : Box (w.setCell ⟨b, 1, none⟩ u) b x u z t := by
  unfold Box at *
  simp [World.setCell, Array.getElem?_modify, h]
theorem Box.set2 {w : World} {b : Nat} {x y z : Value} {t : TypeId} (h : Box w b x y z t) (u : Value) : Box (w.setCell ⟨b, 2, none⟩ u) b x y u t := by
  unfold Box at *
  simp [World.setCell, Array.getElem?_modify, h]
theorem Box.far {w : World} {b g j : Nat} {x y z : Value} {t : TypeId} (h : Box w b x y z t) (u : Value) (hne : b ≠ g) : Box (w.setCell ⟨g, j, none⟩ u) b x y z t := (Below.heap_setCell w ⟨g, j, none⟩ u b hne).trans h

end Go.Proofs.Ytngmpimoebggdaa.C1
