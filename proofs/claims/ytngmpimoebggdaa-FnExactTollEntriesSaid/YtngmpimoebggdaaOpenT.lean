/- A law's argument that is a boat or a train, opened to its cells. -/
import Derived.Test.YtngmpimoebggdaaOpen
import Derived.Test.YtngmpimoebggdaaTrn
import Derived.Lib.SmallJoins
namespace Go.Proofs.Ytngmpimoebggdaa.C1
open Go.ChangeShapes Go.WideShapes Go.ChangeAt Go.RowKit Go.Deep Go.Joins Go.Proofs.Ytngmpimoebggdaa.Opened
set_option linter.unusedVariables false

def SrcB6 (w : World) (a : Addr) (b : Bt) : Prop :=
  w.cell? a = some (.int .i64 b.i) ∧ w.cell? ⟨a.block, a.off + 1, none⟩ = some (.int .i64 b.l) ∧ w.cell? ⟨a.block, a.off + 2, none⟩ = some (.int .i64 b.w) ∧ w.cell? ⟨a.block, a.off + 3, none⟩ = some (.int .i64 b.d) ∧ w.cell? ⟨a.block, a.off + 4, none⟩ = some (.int .i64 b.s) ∧ w.cell? ⟨a.block, a.off + 5, none⟩ = some (.int .i64 b.c)
def SrcBts (w : World) (A : Option Addr) (L : List Bt) : Prop := 0 < L.length → ∃ ad, A = some ad ∧ ∀ i b, L[i]? = some b → SrcB6 w (ad.add (i * 6)) b
def SrcTrn (w : World) (A : Option Addr) (T : List (List Bt)) : Prop := 0 < T.length → ∃ ad, A = some ad ∧ ∀ i r, T[i]? = some r → ∃ Ai ci, w.cell? (ad.add i) = some (.slice Ai r.length ci) ∧ Veil (SrcBts w Ai r)
theorem SrcBts.below {w w' : World} {A : Option Addr} {L : List Bt} (h : SrcBts w A L) (hb : Below w.heap.size w w') : SrcBts w' A L := fun hn => by
  obtain ⟨ad, e, hc⟩ := h hn
  refine ⟨ad, e, fun i b hi => ?_⟩
  obtain ⟨h0, h1, h2, h3, h4, h5⟩ := hc i b hi
  exact ⟨(hb.cell (cell_lt' h0)).trans h0, (hb.cell (cell_lt' h1)).trans h1, (hb.cell (cell_lt' h2)).trans h2, (hb.cell (cell_lt' h3)).trans h3, (hb.cell (cell_lt' h4)).trans h4, (hb.cell (cell_lt' h5)).trans h5⟩
theorem SrcTrn.below {w w' : World} {A : Option Addr} {T : List (List Bt)} (h : SrcTrn w A T) (hb : Below w.heap.size w w') : SrcTrn w' A T := fun hn => by
  obtain ⟨ad, e, hc⟩ := h hn
  refine ⟨ad, e, fun i r hi => ?_⟩
  obtain ⟨Ai, ci, h0, h1⟩ := hc i r hi
  exact ⟨Ai, ci, (hb.cell (cell_lt' h0)).trans h0, vl (h1.out.below hb)⟩
/-- What is known of an argument. -/
structure ArgT (w : World) (A : Option Addr) (T : List (List Bt)) : Prop where
  len : T.length ≤ 9223372036854775807
  row : ∀ (i : Nat) (r : List Bt), T[i]? = some r → r.length ≤ 9223372036854775807
  src : SrcTrn w A T
theorem ArgT.below {w w' : World} {A : Option Addr} {T : List (List Bt)} (h : ArgT w A T) (hb : Below w.heap.size w w') : ArgT w' A T := ⟨h.len, h.row, h.src.below hb⟩
theorem map_range {α : Type} {n i : Nat} {f : Nat → α} {x : α} (h : ((List.range n).map f)[i]? = some x) : i < n ∧ x = f i := by
  simp only [List.getElem?_map, Option.map_eq_some_iff] at h
  obtain ⟨j, h1, h2⟩ := h
  have hl := (List.getElem?_eq_some_iff.1 h1)
  obtain ⟨hl, e⟩ := hl
  simp at hl e
  subst e
  exact ⟨hl, h2.symm⟩
section
variable {H : Type} {enc : TypeId × Value → H} {w : World} {base : Nat} {spare : Nat → Bool} {held : Bool}
set_option maxRecDepth 100000 in
theorem boats_of {fuel : Nat} {v : Value} {x : DataW H × List MemPlace} (h : DataW.trod enc Try.prog w base spare held fuel 172 [v] = some x) :
    ∃ (A : Option Addr) (c : Nat) (L : List Bt), v = .slice A L.length c ∧ L.length ≤ 9223372036854775807 ∧ SrcBts w A L := by
  rcases open_slice Try.underlying172 h with ⟨hcs, _⟩ | ⟨a, len, cap, m, fu, D, Pl, hcs, _, hl, hm, hmm, _, hi⟩
  · have hv : v = .slice none 0 0 := by simpa using hcs
    exact ⟨none, 0, [], hv, by simp, fun h => absurd h (by simp)⟩
  · have hv : v = .slice (some a) len cap := by simpa using hcs
    have hle : len ≤ m := by rw [hmm]; split <;> omega
    obtain ⟨f, hf⟩ := choose_lt (α := Bt) (n := len) (p := fun i b => SrcB6 w (a.add (i * 6)) b) (fun i hin => by
      obtain ⟨cs', hc, htr⟩ := hi i (by omega)
      rw [show Try.prog.cellsOf 212 = 6 from by kernel_rfl] at hc
      obtain ⟨_, hlen, hat⟩ := World.cells?_some hc
      obtain ⟨_, g, hg⟩ := ints_of Try.underlying212 (by kernel_rfl) (by kernel_rfl) Try.underlying3 (by kernel_rfl) htr
      exact ⟨⟨g 0, g 1, g 2, g 3, g 4, g 5⟩, (hat 0 (by decide)).trans (hg 0 (by decide)).1, (hat 1 (by decide)).trans (hg 1 (by decide)).1, (hat 2 (by decide)).trans (hg 2 (by decide)).1, (hat 3 (by decide)).trans (hg 3 (by decide)).1, (hat 4 (by decide)).trans (hg 4 (by decide)).1, (hat 5 (by decide)).trans (hg 5 (by decide)).1⟩)
    refine ⟨some a, cap, (List.range len).map f, by simp [hv], ?_, fun _ => ⟨a, rfl, fun i b hb => ?_⟩⟩
    · unfold maxLen at hm; simp; omega
    · obtain ⟨h1, rfl⟩ := map_range hb
      exact hf i h1
set_option maxRecDepth 100000 in
theorem rows_of {fuel : Nat} {v : Value} {x : DataW H × List MemPlace} (h : DataW.trod enc Try.prog w base spare held fuel 22 [v] = some x) :
    ∃ (A : Option Addr) (c : Nat) (T : List (List Bt)), v = .slice A T.length c ∧ ArgT w A T := by
  rcases open_slice1 Try.underlying22 (by kernel_rfl) h with ⟨hcs, _⟩ | ⟨a, len, cap, m, fu, V, D, Pl, hcs, _, hl, hm, hmm, _, hi⟩
  · have hv : v = .slice none 0 0 := by simpa using hcs
    exact ⟨none, 0, [], hv, by simp, fun i r hr => by simp at hr, fun h => absurd h (by simp)⟩
  · have hv : v = .slice (some a) len cap := by simpa using hcs
    have hle : len ≤ m := by rw [hmm]; split <;> omega
    obtain ⟨f, hf⟩ := choose_lt (α := List Bt) (n := len) (p := fun i r => ∃ Ai ci, w.cell? (a.add i) = some (.slice Ai r.length ci) ∧ r.length ≤ 9223372036854775807 ∧ SrcBts w Ai r) (fun i hin => by
      obtain ⟨hc, htr⟩ := hi i (by omega)
      obtain ⟨A, c, L, e, h1, h2⟩ := boats_of htr
      exact ⟨L, A, c, by rw [hc, e], h1, h2⟩)
    refine ⟨some a, cap, (List.range len).map f, by simp [hv], ⟨?_, fun i r hr => ?_, fun _ => ⟨a, rfl, fun i r hr => ?_⟩⟩⟩
    · unfold maxLen at hm; simp; omega
    · obtain ⟨h1, rfl⟩ := map_range hr
      obtain ⟨_, _, _, h2, _⟩ := hf i h1
      exact h2
    · obtain ⟨h1, rfl⟩ := map_range hr
      obtain ⟨Ai, ci, h2, _, h3⟩ := hf i h1
      exact ⟨Ai, ci, h2, vl h3⟩
set_option maxRecDepth 100000 in
theorem open_train {r : Reach} {b0 : Nat} {v : Value} {d : DataW H} {ps : List MemPlace} (hv : Value.okWide Try.prog w r b0 24 v) (h : DataW.Trod enc Try.prog w base spare held 24 v d ps) :
    ∃ (up : Bool) (A : Option Addr) (c : Nat) (T : List (List Bt)), v = .agg #[.bool up, .slice A T.length c] ∧ ArgT w A T := by
  obtain ⟨v0, v1, y0, y1, n, rfl, _, _, h0, h1⟩ := open_agg2 Try.underlying24 (by kernel_rfl) (by kernel_rfl) hv h
  obtain ⟨A, c, T, rfl, hT⟩ := rows_of h1
  obtain ⟨b, hb, _⟩ := DataW.trod_bool Try.underlying4 h0
  exact ⟨b, A, c, T, by rw [(List.cons.inj hb).1], hT⟩
set_option maxRecDepth 100000 in
theorem open_boat {r : Reach} {b0 : Nat} {v : Value} {d : DataW H} {ps : List MemPlace} (hv : Value.okWide Try.prog w r b0 212 v) (h : DataW.Trod enc Try.prog w base spare held 212 v d ps) :
    ∃ b : Bt, v = .agg b.cells.toArray := by
  obtain ⟨cs, rfl, hsz⟩ := okWide_struct Try.underlying212 hv
  obtain ⟨fuel, hf⟩ := h
  obtain ⟨hl, g, hg⟩ := ints_of Try.underlying212 (by kernel_rfl) (by kernel_rfl) Try.underlying3 (by kernel_rfl) hf
  rw [show Value.cells (.agg cs) = cs from rfl] at hl hg
  simp at hl hg
  refine ⟨⟨g 0, g 1, g 2, g 3, g 4, g 5⟩, congrArg Value.agg (Array.ext (by simpa [Bt.cells] using hl) fun i h1 h2 => ?_)⟩
  have e := (hg i (by omega)).1
  rw [Array.getElem?_eq_getElem h1] at e
  injection e with e
  rw [e]
  have h6 : i < 6 := by omega
  match i, h6 with
  | 0, _ => rfl
  | 1, _ => rfl
  | 2, _ => rfl
  | 3, _ => rfl
  | 4, _ => rfl
  | 5, _ => rfl
end
end Go.Proofs.Ytngmpimoebggdaa.C1
