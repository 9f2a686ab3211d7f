/- Entries and slices of them: in memory, as a law's argument, their conversion, size and comparison by the laws. -/
import Derived.Test.YtngmpimoebggdaaApp
import Derived.Test.YtngmpimoebggdaaOpen
import Derived.Test.YtngmpimoebggdaaDraw
import Derived.Test.YtngmpimoebggdaaTrnM
import Derived.StillTailTactics
import Derived.Lib.SmallJoins
namespace Go.Proofs.Ytngmpimoebggdaa.C1
open Go.ChangeShapes Go.WideShapes Go.ChangeAt Go.RowKit Go.Deep Go.Joins Go.Proofs.Ytngmpimoebggdaa.Opened
set_option linter.unusedVariables false

theorem map_rangeE {α : Type} {n i : Nat} {f : Nat → α} {x : α} (h : ((List.range n).map f)[i]? = some x) : i < n ∧ x = f i := by
  simp only [List.getElem?_map, Option.map_eq_some_iff] at h
  obtain ⟨j, h1, h2⟩ := h
  obtain ⟨hl, e⟩ := List.getElem?_eq_some_iff.1 h1
  simp at hl e
  subst e
  exact ⟨hl, h2.symm⟩
/-- An entry: from, to, its amount, its time, and why. -/
structure En where
  f : Int
  t : Int
  a : Int
  m : Int
  y : Int
  deriving Inhabited
def enOk (e : En) : Bool := !decide (e.f = e.t) && (inB e.f 0 11 && (inB e.t 0 11 && (inB e.a 1 1000000000 && (inB e.m 0 1000000 && inB e.y 0 9999))))
def bkOk (L : List En) : Bool := decide (L.length ≤ 2000) && L.all enOk
def En.cells (e : En) : List Value := [.int .i64 e.f, .int .i64 e.t, .int .i64 e.a, .int .i64 e.m, .int .i64 e.y]
def enl (L : List En) : List Value := L.flatMap En.cells
theorem enl_len (L : List En) : (enl L).length = L.length * 5 := by
  induction L with
  | nil => rfl
  | cons b L ih => unfold enl at *; rw [List.flatMap_cons, List.length_append, ih]; show 5 + _ = _; simp only [List.length_cons]; omega
theorem enl_app (L M : List En) : enl (L ++ M) = enl L ++ enl M := by simp [enl]
theorem enl_one' (b : En) : enl [b] = b.cells := by simp [enl]
theorem enl_at {L : List En} {i j : Nat} {b : En} (h : L[i]? = some b) (hj : j < 5) : (enl L)[i * 5 + j]? = b.cells[j]? := by
  induction L generalizing i with
  | nil => simp at h
  | cons a L ih =>
    have e : enl (a :: L) = a.cells ++ enl L := by simp [enl]
    rw [e]
    cases i with
    | zero =>
      simp at h; subst h
      rw [Nat.zero_mul, Nat.zero_add, List.getElem?_append_left (by show j < 5; exact hj)]
    | succ i =>
      simp at h
      rw [List.getElem?_append_right (by show 5 ≤ _; omega), show (i + 1) * 5 + j - a.cells.length = i * 5 + j by show _ - 5 = _; omega]
      exact ih h
theorem enl_cell {L : List En} : ∀ u ∈ enl L, u.oneCell' = true := fun u hu => by
  obtain ⟨b, _, h⟩ := List.mem_flatMap.1 hu
  simp [En.cells] at h
  rcases h with rfl | rfl | rfl | rfl | rfl <;> rfl
/-- An entry's five cells. -/
def E5 (w : World) (g o : Nat) (b : En) : Prop :=
  w.cell? ⟨g, o, none⟩ = some (.int .i64 b.f) ∧ w.cell? ⟨g, o + 1, none⟩ = some (.int .i64 b.t) ∧ w.cell? ⟨g, o + 2, none⟩ = some (.int .i64 b.a) ∧ w.cell? ⟨g, o + 3, none⟩ = some (.int .i64 b.m) ∧ w.cell? ⟨g, o + 4, none⟩ = some (.int .i64 b.y)
theorem E5.lt {w : World} {g o : Nat} {b : En} (h : E5 w g o b) : g < w.heap.size := World.block_lt_of_cell? _ _ h.1
theorem E5.block {w w' : World} {g o : Nat} {b : En} (h : E5 w g o b) (hb : w'.heap[g]? = w.heap[g]?) : E5 w' g o b := by
  unfold E5 at *
  have e : ∀ j, w'.cell? ⟨g, j, none⟩ = w.cell? ⟨g, j, none⟩ := fun j => World.cell?_of_block hb
  rw [e, e, e, e, e]; exact h
theorem E5.below {w w' : World} {g o : Nat} {b : En} (h : E5 w g o b) (hb : Below w.heap.size w w') : E5 w' g o b := h.block (hb.block g h.lt)
/-- A slice of entries in a block of plain cells. -/
def Ens (w : World) (A : Option Addr) (L : List En) : Prop := 0 < L.length → ∃ g o, A = some ⟨g, o, none⟩ ∧ ∀ i b, L[i]? = some b → E5 w g (o + i * 5) b
theorem Ens.below {w w' : World} {A : Option Addr} {L : List En} (h : Ens w A L) (hb : Below w.heap.size w w') : Ens w' A L := fun hn => by
  obtain ⟨g, o, e, hc⟩ := h hn
  exact ⟨g, o, e, fun i b hi => (hc i b hi).below hb⟩
theorem Ens.drew {w : World} {A : Option Addr} {L : List En} (h : Ens w A L) : Ens w.drew A L := h
/-- A slice of entries at the head of block g. -/
def RowE (w : World) (A : Option Addr) (L : List En) (g : Nat) : Prop := (0 < L.length → A = some ⟨g, 0, none⟩) ∧ ∀ i b, L[i]? = some b → E5 w g (i * 5) b
theorem RowE.lt {w : World} {A : Option Addr} {L : List En} {g : Nat} (h : RowE w A L g) (hn : 0 < L.length) : g < w.heap.size := by
  obtain ⟨x, hx⟩ := get_of hn
  exact (h.2 0 x hx).lt
theorem RowE.ens {w : World} {A : Option Addr} {L : List En} {g : Nat} (h : RowE w A L g) : Ens w A L := fun hn => ⟨g, 0, h.1 hn, fun i b hi => by rw [Nat.zero_add]; exact h.2 i b hi⟩
theorem RowE.block {w w' : World} {A : Option Addr} {L : List En} {g : Nat} (h : RowE w A L g) (hb : 0 < L.length → w'.heap[g]? = w.heap[g]?) : RowE w' A L g :=
  ⟨h.1, fun i b hi => (h.2 i b hi).block (hb (by have := len_of hi; omega))⟩
theorem RowE.below {w w' : World} {A : Option Addr} {L : List En} {g : Nat} (h : RowE w A L g) (hb : Below w.heap.size w w') : RowE w' A L g := h.block fun hn => hb.block g (h.lt hn)
theorem src_e {w : World} {A : Option Addr} {L : List En} (h : Ens w A L) : 0 < L.length → ∃ ad, A = some ad ∧ ∀ j u, (enl L)[j]? = some u → w.cell? (ad.add j) = some u := fun hn => by
  obtain ⟨g, o, e, hc⟩ := h hn
  refine ⟨_, e, fun j u hu => ?_⟩
  have hj : j < L.length * 5 := by have := (List.getElem?_eq_some_iff.1 hu).1; rwa [enl_len] at this
  obtain ⟨b, hb⟩ := get_of (L := L) (k := j / 5) (by omega)
  have h6 : j % 5 < 5 := Nat.mod_lt _ (by omega)
  have e1 := enl_at hb h6
  rw [show j / 5 * 5 + j % 5 = j by omega, hu] at e1
  obtain ⟨c0, c1, c2, c3, c4⟩ := hc _ _ hb
  have e' : (⟨g, o, none⟩ : Addr).add j = ⟨g, o + j / 5 * 5 + j % 5, none⟩ := by unfold Addr.add; split <;> simp_all; omega
  rw [e', e1]
  generalize j % 5 = m at h6 ⊢
  match m, h6 with
  | 0, _ => exact c0
  | 1, _ => exact c1
  | 2, _ => exact c2
  | 3, _ => exact c3
  | 4, _ => exact c4
theorem rowE_of_own {w : World} {B : Nat} {v : Value} {t : TypeId} {L : List En} (h : w.ownsRow B t 5 v L.length (enl L)) (hB : B ≤ w.heap.size) :
    ∃ A c g, v = .slice A L.length c ∧ L.length ≤ c ∧ RowE w A L g ∧ Free w (L.length * 5) g ∧ B ≤ g ∧ (0 < L.length → g < w.heap.size) := by
  rcases h.2 with ⟨rfl, h0⟩ | ⟨g, cap, cur, rfl, hg, hh, hc, _⟩
  · refine ⟨none, 0, B, by rw [h0], by omega, ⟨fun h => by omega, fun i b hi => by have := len_of hi; omega⟩, fun i hi => by omega, Nat.le_refl _, fun h => by omega⟩
  · refine ⟨_, cap, g, rfl, hc, ⟨fun _ => rfl, fun i b hi => ?_⟩, fun i hi => h.frozenAt i, hg, fun _ => (Array.getElem?_eq_some_iff.1 hh).1⟩
    have hl := len_of hi
    have e : ∀ j, j < 5 → w.cell? ⟨g, i * 5 + j, none⟩ = b.cells[j]? := fun j hj => (h.cellAt _ (by omega)).trans (enl_at hi hj)
    exact ⟨e 0 (by omega), e 1 (by omega), e 2 (by omega), e 3 (by omega), e 4 (by omega)⟩
def SrcE5 (w : World) (a : Addr) (b : En) : Prop :=
  w.cell? a = some (.int .i64 b.f) ∧ w.cell? ⟨a.block, a.off + 1, none⟩ = some (.int .i64 b.t) ∧ w.cell? ⟨a.block, a.off + 2, none⟩ = some (.int .i64 b.a) ∧ w.cell? ⟨a.block, a.off + 3, none⟩ = some (.int .i64 b.m) ∧ w.cell? ⟨a.block, a.off + 4, none⟩ = some (.int .i64 b.y)
def SrcEns (w : World) (A : Option Addr) (L : List En) : Prop := 0 < L.length → ∃ ad, A = some ad ∧ ∀ i b, L[i]? = some b → SrcE5 w (ad.add (i * 5)) b
theorem SrcEns.below {w w' : World} {A : Option Addr} {L : List En} (h : SrcEns w A L) (hb : Below w.heap.size w w') : SrcEns w' A L := fun hn => by
  obtain ⟨ad, e, hc⟩ := h hn
  refine ⟨ad, e, fun i b hi => ?_⟩
  obtain ⟨h0, h1, h2, h3, h4⟩ := hc i b hi
  exact ⟨(hb.cell (cell_lt' h0)).trans h0, (hb.cell (cell_lt' h1)).trans h1, (hb.cell (cell_lt' h2)).trans h2, (hb.cell (cell_lt' h3)).trans h3, (hb.cell (cell_lt' h4)).trans h4⟩
section
variable {H : Type} {enc : TypeId × Value → H} {w : World} {base : Nat} {spare : Nat → Bool} {held : Bool}
set_option maxRecDepth 100000 in
theorem open_entries {r : Reach} {b0 : Nat} {v : Value} {d : DataW H} {ps : List MemPlace} (hv : Value.okWide Try.prog w r b0 68 v) (h0 : DataW.Trod enc Try.prog w base spare held 68 v d ps) :
    ∃ (A : Option Addr) (c : Nat) (L : List En), v = .slice A L.length c ∧ L.length ≤ 9223372036854775807 ∧ SrcEns w A L := by
  obtain ⟨A0, n0, cap0, e0⟩ := okWide_slice Try.underlying68 hv
  obtain ⟨fuel, h⟩ := h0
  rcases open_slice Try.underlying68 h with ⟨hcs, _⟩ | ⟨a, len, cap, m, fu, D, Pl, hcs, _, hl, hm, hmm, _, hi⟩
  · have hv : v = .slice none 0 0 := by subst e0; simpa [Value.cells] using hcs
    exact ⟨none, 0, [], hv, by simp, fun h => absurd h (by simp)⟩
  · have hv : v = .slice (some a) len cap := by subst e0; simpa [Value.cells] using hcs
    have hle : len ≤ m := by rw [hmm]; split <;> omega
    obtain ⟨f, hf⟩ := choose_lt (α := En) (n := len) (p := fun i b => SrcE5 w (a.add (i * 5)) b) (fun i hin => by
      obtain ⟨cs', hc, htr⟩ := hi i (by omega)
      rw [show Try.prog.cellsOf 138 = 5 from by kernel_rfl] at hc
      obtain ⟨_, hlen, hat⟩ := World.cells?_some hc
      obtain ⟨_, g, hg⟩ := ints_of Try.underlying138 (by kernel_rfl) (by kernel_rfl) Try.underlying3 (by kernel_rfl) htr
      exact ⟨⟨g 0, g 1, g 2, g 3, g 4⟩, (hat 0 (by decide)).trans (hg 0 (by decide)).1, (hat 1 (by decide)).trans (hg 1 (by decide)).1, (hat 2 (by decide)).trans (hg 2 (by decide)).1, (hat 3 (by decide)).trans (hg 3 (by decide)).1, (hat 4 (by decide)).trans (hg 4 (by decide)).1⟩)
    refine ⟨some a, cap, (List.range len).map f, by simp [hv], ?_, fun _ => ⟨a, rfl, fun i b hb => ?_⟩⟩
    · unfold maxLen at hm; simp; omega
    · obtain ⟨h1, rfl⟩ := map_rangeE hb
      exact hf i h1
end
section
variable {H : Type} {enc : TypeId × Value → H} {w : World} {base : Nat} {spare : Nat → Bool} {held : Bool}
set_option maxRecDepth 100000 in
theorem open_entry {r : Reach} {b0 : Nat} {v : Value} {d : DataW H} {ps : List MemPlace} (hv : Value.okWide Try.prog w r b0 138 v) (h : DataW.Trod enc Try.prog w base spare held 138 v d ps) :
    ∃ b : En, v = .agg #[.int .i64 b.f, .int .i64 b.t, .int .i64 b.a, .int .i64 b.m, .int .i64 b.y] := by
  obtain ⟨cs, rfl, hsz⟩ := okWide_struct Try.underlying138 hv
  obtain ⟨fuel, hf⟩ := h
  obtain ⟨hl, g, hg⟩ := ints_of Try.underlying138 (by kernel_rfl) (by kernel_rfl) Try.underlying3 (by kernel_rfl) hf
  rw [show Value.cells (.agg cs) = cs from rfl] at hl hg
  simp at hl hg
  refine ⟨⟨g 0, g 1, g 2, g 3, g 4⟩, congrArg Value.agg (Array.ext (by simpa using hl) fun i h1 h2 => ?_)⟩
  have e := (hg i (by omega)).1
  rw [Array.getElem?_eq_getElem h1] at e
  injection e with e
  rw [e]
  have h6 : i < 5 := by omega
  match i, h6 with
  | 0, _ => rfl
  | 1, _ => rfl
  | 2, _ => rfl
  | 3, _ => rfl
  | 4, _ => rfl
end
/-- Cell j of a row of entries. -/
def enf (L : List En) (j : Nat) : Value := ((enl L)[j]?).getD (.int .i64 0)
theorem enf_at {L : List En} {k j : Nat} {b : En} {v : Value} (h : L[k]? = some b) (hj : j < 5) (hv : b.cells[j]? = some v) : enf L (k * 5 + j) = v := by
  unfold enf; rw [enl_at h hj, hv]; rfl
theorem rowE_of_row {w : World} {g : Nat} {t : TypeId} {L : List En} (h : w.rowIs g t (L.length * 5) (enf L)) : RowE w (some ⟨g, 0, none⟩) L g ∧ Free w (L.length * 5) g := by
  refine ⟨⟨fun _ => rfl, fun i b hi => ?_⟩, fun i hi => h.frozen i⟩
  have hl := len_of hi
  have e : ∀ j v, j < 5 → b.cells[j]? = some v → w.cell? ⟨g, i * 5 + j, none⟩ = some v := fun j v hj hv => by rw [h.cell (i := i * 5 + j) (by omega), enf_at hi hj hv]
  exact ⟨e 0 _ (by omega) rfl, e 1 _ (by omega) rfl, e 2 _ (by omega) rfl, e 3 _ (by omega) rfl, e 4 _ (by omega) rfl⟩
theorem rowe_step {L : List En} {k : Nat} {b : En} (hb : L[k]? = some b) (j : Nat) :
    (if j = k * 5 + 4 then Value.int .i64 b.y else if j = k * 5 + 3 then .int .i64 b.m else if j = k * 5 + 2 then .int .i64 b.a else if j = k * 5 + 1 then .int .i64 b.t else if j = k * 5 then .int .i64 b.f else
      if j < k * 5 then enf L j else .int .i64 0) = if j < (k + 1) * 5 then enf L j else .int .i64 0 := by
  rcases (by omega : j = k * 5 + 4 ∨ j = k * 5 + 3 ∨ j = k * 5 + 2 ∨ j = k * 5 + 1 ∨ j = k * 5 ∨ j < k * 5 ∨ k * 5 + 5 ≤ j) with rfl | rfl | rfl | rfl | rfl | h | h
  · rw [if_pos rfl, if_pos (by omega)]; exact (enf_at hb (by omega) rfl).symm
  · rw [if_neg (by omega), if_pos rfl, if_pos (by omega)]; exact (enf_at hb (by omega) rfl).symm
  · rw [if_neg (by omega), if_neg (by omega), if_pos rfl, if_pos (by omega)]; exact (enf_at hb (by omega) rfl).symm
  · rw [if_neg (by omega), if_neg (by omega), if_neg (by omega), if_pos rfl, if_pos (by omega)]; exact (enf_at hb (by omega) rfl).symm
  · rw [if_neg (by omega), if_neg (by omega), if_neg (by omega), if_neg (by omega), if_pos rfl, if_pos (by omega)]; exact (enf_at (j := 0) hb (by omega) rfl).symm
  · rw [if_neg (by omega), if_neg (by omega), if_neg (by omega), if_neg (by omega), if_neg (by omega), if_pos h, if_pos (by omega)]
  · rw [if_neg (by omega), if_neg (by omega), if_neg (by omega), if_neg (by omega), if_neg (by omega), if_neg (by omega), if_neg (by omega)]
theorem toEntry (b : En) (w : World) : Calls Try.prog 94 #[.agg #[.int .i64 b.f, .int .i64 b.t, .int .i64 b.a, .int .i64 b.m, .int .i64 b.y]] w fun e w' => e = .returned (.agg #[.int .i64 b.f, .int .i64 b.t, .int .i64 b.a, .int .i64 b.m, .int .i64 b.y]) ∧ Below w.heap.size w w' := by
  go_enter Try.func94, Try.ntmps94
  go_wp2
  refine bodyPost_ret (v := .agg #[.int .i64 b.f, .int .i64 b.t, .int .i64 b.a, .int .i64 b.m, .int .i64 b.y]) (by simp [results, Try.results94, go_sem]) rfl ?_
  exact ⟨rfl, by (repeat' (first | (with_reducible exact Below.refl _ _) | (with_reducible refine Below.drew ?_) | (with_reducible refine Below.alloc ?_ ?_ _) | (with_reducible refine Below.setCell ?_ ?_ _) | (first | omega | (simp; omega) | (simp; done))))⟩
/-- An entry's box. -/
def BxE (w : World) (g : Nat) (b : En) : Prop :=
  w.cell? ⟨g, 0, none⟩ = some (.int .i64 b.f) ∧ w.cell? ⟨g, 1, none⟩ = some (.int .i64 b.t) ∧ w.cell? ⟨g, 2, none⟩ = some (.int .i64 b.a) ∧ w.cell? ⟨g, 3, none⟩ = some (.int .i64 b.m) ∧ w.cell? ⟨g, 4, none⟩ = some (.int .i64 b.y)
theorem BxE.new (w : World) (b : En) (t : TypeId) : BxE (w.alloc (.cells #[.int .i64 b.f, .int .i64 b.t, .int .i64 b.a, .int .i64 b.m, .int .i64 b.y] t)) w.heap.size b := ⟨by simp, by simp, by simp, by simp, by simp⟩
theorem BxE.below {w w' : World} {g : Nat} {b : En} (h : BxE w g b) (hb : Below w.heap.size w w') : BxE w' g b := by
  obtain ⟨h0, h1, h2, h3, h4⟩ := h
  exact ⟨(hb.cell (cell_lt' h0)).trans h0, (hb.cell (cell_lt' h1)).trans h1, (hb.cell (cell_lt' h2)).trans h2, (hb.cell (cell_lt' h3)).trans h3, (hb.cell (cell_lt' h4)).trans h4⟩
theorem infoE : (Try.prog.info? 136).map (fun i => (i.zero, i.size, i.bytes)) = some (some (.agg #[.int .i64 0, .int .i64 0, .int .i64 0, .int .i64 0, .int .i64 0]), 5, 40) := by kernel_rfl
set_option maxHeartbeats 1000000 in
theorem toEntryS (A : Option Addr) (c : Nat) (L : List En) (w : World) (hn : L.length ≤ 1048576) (hp : SrcEns w A L) :
    Calls Try.prog 41 #[.slice A L.length c] w fun e w' => e = .returned (.slice (some ⟨w.heap.size, 0, none⟩) L.length L.length) ∧ Below w.heap.size w w' ∧ w'.rowIs w.heap.size 136 (L.length * 5) (enf L) := by
  obtain ⟨i0, hi, hz0, hz1, hz2⟩ := info_parts infoE
  have hmk := make_eq (P := Try.prog) 71 136 i0 _ 5 40 Try.underlying71 hi hz0 hz1 hz2 L.length (by omega) (by omega)
  have HP := vl hp
  clear hp
  go_enter Try.func41, Try.ntmps41
  go_wp2
  clear hmk hi hz0 hz1 hz2
  go_loopw [4] (fun i wr => ∃ k : Nat, k ≤ L.length ∧ i = .int .i64 k ∧ Veil (Below w.heap.size w wr) ∧ Veil (wr.rowIs w.heap.size 136 (L.length * 5) (fun j => if j < k * 5 then enf L j else .int .i64 0))) (fun i _ => L.length - (intOf i).toNat)
  case atStart =>
    refine ⟨0, by omega, rfl, vl ((Below.refl _ _).alloc (Nat.le_refl _) _), vl ?_⟩
    have h := World.rowIs_alloc w (madeCells #[.int .i64 0, .int .i64 0, .int .i64 0, .int .i64 0, .int .i64 0] (L.length * 5)) 136 (fun j => if j < 0 * 5 then enf L j else .int .i64 0) (fun i hi => by
      rw [size_madeCells] at hi
      have : i % 5 = 0 ∨ i % 5 = 1 ∨ i % 5 = 2 ∨ i % 5 = 3 ∨ i % 5 = 4 := by omega
      rcases this with h | h | h | h | h <;> simp [madeCells, hi, h])
    rw [size_madeCells] at h
    exact h
  case round =>
    obtain ⟨k, hk, rfl, HB, HR⟩ := hrel
    by_cases hlt : k < L.length
    · obtain ⟨ad, rfl, hsrc⟩ := HP.out.below HB.out (by omega)
      obtain ⟨b, hb⟩ := get_of hlt
      obtain ⟨x0, x1, x2, x3, x4⟩ := hsrc k b hb
      have HK := vl hb
      have hz := HR.out.lt
      clear hsrc hb
      go_wp2_with fail
      refine (toEntry b _).mono ?_
      rintro e w1 ⟨rfl, hb1⟩
      have HR1 := vl (HR.out.of_block (hb1.block _ hz))
      have HB1 := vl (HB.out.trans (hb1.mono (by omega)))
      obtain ⟨u0, y0⟩ : ∃ u, w1.cell? ⟨w.heap.size, k * 5, none⟩ = some u := ⟨_, HR1.out.cell (by omega)⟩
      obtain ⟨u1, y1⟩ : ∃ u, w1.cell? ⟨w.heap.size, k * 5 + 1, none⟩ = some u := ⟨_, HR1.out.cell (by omega)⟩
      obtain ⟨u2, y2⟩ : ∃ u, w1.cell? ⟨w.heap.size, k * 5 + 2, none⟩ = some u := ⟨_, HR1.out.cell (by omega)⟩
      obtain ⟨u3, y3⟩ : ∃ u, w1.cell? ⟨w.heap.size, k * 5 + 3, none⟩ = some u := ⟨_, HR1.out.cell (by omega)⟩
      obtain ⟨u4, y4⟩ : ∃ u, w1.cell? ⟨w.heap.size, k * 5 + 4, none⟩ = some u := ⟨_, HR1.out.cell (by omega)⟩
      have z0 := HR1.out.frozen (k * 5); have z1 := HR1.out.frozen (k * 5 + 1); have z2 := HR1.out.frozen (k * 5 + 2)
      have z3 := HR1.out.frozen (k * 5 + 3); have z4 := HR1.out.frozen (k * 5 + 4)
      clear hb1 x0 x1 x2 x3 x4
      go_wp2
      go_roundw
      case rel =>
        refine ⟨k + 1, by omega, by go_num, vl (((((HB1.out.setCell (Nat.le_refl _) _).setCell (Nat.le_refl _) _).setCell (Nat.le_refl _) _).setCell (Nat.le_refl _) _).setCell (Nat.le_refl _) _), vl ?_⟩
        exact (((((HR1.out.set _ _).set _ _).set _ _).set _ _).set _ _).congr fun j hj => rowe_step HK.out j
      case measure => simp [intOf]; omega
    · go_wp2
      go_ret
      exact ⟨rfl, HB.out, HR.out.congr fun j hj => if_pos (by omega)⟩
theorem szE_no (A : Option Addr) (n c : Nat) (w : World) (l : Int) (h1 : 0 ≤ l) (h2 : l ≤ 1048576) (hn : n ≤ 9223372036854775807) (h : l < n) :
    Calls Try.prog 39 #[.slice A n c, .int .i64 l] w fun e w' => e = .returned (.int .i64 (-1)) ∧ w = w' := by
  go_enter Try.func39, Try.ntmps39
  go_wp2
  go_ret
  exact ⟨rfl, rfl⟩
theorem szE_yes (A : Option Addr) (n c : Nat) (w : World) (l : Int) (h1 : 0 ≤ l) (h2 : l ≤ 1048576) (h : (n : Int) ≤ l) :
    Calls Try.prog 39 #[.slice A n c, .int .i64 l] w fun e w' => e = .returned (.int .i64 (l - n)) ∧ w = w' := by
  go_enter Try.func39, Try.ntmps39
  go_wp2
  go_ret
  exact ⟨rfl, rfl⟩
theorem eqEntry (b : En) (w : World) : Calls Try.prog 97 #[.agg #[.int .i64 b.f, .int .i64 b.t, .int .i64 b.a, .int .i64 b.m, .int .i64 b.y], .agg #[.int .i64 b.f, .int .i64 b.t, .int .i64 b.a, .int .i64 b.m, .int .i64 b.y]] w fun e w' => e = .returned (.bool true) ∧ Below w.heap.size w w' := by
  have HB0 := vl (((Below.refl w.heap.size w).alloc (Nat.le_refl _) (.cells #[.int .i64 b.f, .int .i64 b.t, .int .i64 b.a, .int .i64 b.m, .int .i64 b.y] 136)).alloc (by simp) (.cells #[.int .i64 b.f, .int .i64 b.t, .int .i64 b.a, .int .i64 b.m, .int .i64 b.y] 136))
  go_enter Try.func97, Try.ntmps97
  go_wp2
  go_ret
  exact ⟨rfl, HB0.out⟩
set_option maxRecDepth 100000 in
set_option maxHeartbeats 1000000 in
theorem eqEntryS (A A' : Option Addr) (c c' : Nat) (L : List En) (w : World) (hn : L.length ≤ 1048576) (hp : Ens w A L) (hp' : Ens w A' L) :
    Calls Try.prog 43 #[.slice A L.length c, .slice A' L.length c'] w fun e w' => e = .returned (.bool true) ∧ Below w.heap.size w w' := by
  have HP := vl hp
  have HP' := vl hp'
  clear hp hp'
  go_enter Try.func43, Try.ntmps43
  go_wp2
  go_loopw [5] (fun i wr => ∃ k : Nat, k ≤ L.length ∧ i = .int .i64 k ∧ Veil (Below w.heap.size w wr)) (fun i _ => L.length - (intOf i).toNat)
  case atStart => exact ⟨0, by omega, rfl, vl (Below.refl _ _)⟩
  case round =>
    obtain ⟨k, hk, rfl, HB⟩ := hrel
    by_cases hlt : k < L.length
    · obtain ⟨b, hb⟩ := get_of hlt
      obtain ⟨g, o, rfl, hc⟩ := (HP.out.below HB.out) (by omega)
      obtain ⟨x0, x1, x2, x3, x4⟩ := hc k b hb
      obtain ⟨g', o', rfl, hc'⟩ := (HP'.out.below HB.out) (by omega)
      obtain ⟨y0, y1, y2, y3, y4⟩ := hc' k b hb
      clear hc hc' hb
      go_wp2
      go_still_tail 8, (by kernel_rfl)
      change wpList _ _ _ _ _ wr.drew
      go_wp2_with (go_at_call 97; refine (eqEntry b _).mono ?_; rintro e w1 ⟨rfl, hb1⟩)
      have HB1 := vl (HB.out.drew.trans (hb1.mono HB.out.size))
      clear hb1
      go_roundw
      case rel => exact ⟨k + 1, by omega, by go_num, HB1⟩
      case measure => simp [intOf]; omega
    · go_wp2
      go_ret
      exact ⟨rfl, HB.out⟩
end Go.Proofs.Ytngmpimoebggdaa.C1
