/- A law's argument that is a reach, or a slice of reaches, opened to its cells. -/
import Derived.Test.YtngmpimoebggdaaOpen
import Derived.Test.YtngmpimoebggdaaOpenI
import Derived.Test.YtngmpimoebggdaaReachM
import Derived.Test.YtngmpimoebggdaaInts
import Derived.Lib.SmallJoins
namespace Go.Proofs.Ytngmpimoebggdaa.C1
open Go.ChangeShapes Go.WideShapes Go.ChangeAt Go.RowKit Go.Deep Go.Joins Go.Proofs.Ytngmpimoebggdaa.Opened
set_option linter.unusedVariables false

section
variable {H : Type} {enc : TypeId × Value → H} {w : World} {base : Nat} {spare : Nat → Bool} {held : Bool}
theorem pts_of {fuel : Nat} {v : Value} {x : DataW H × List MemPlace} (h : DataW.trod enc Try.prog w base spare held fuel 46 [v] = some x) :
    ∃ (A : Option Addr) (n c : Nat) (X Y : Nat → Int), v = .slice A n c ∧ n ≤ 9223372036854775807 ∧ SrcPts w A n X Y := by
  rcases open_slice Try.underlying46 h with ⟨hcs, _⟩ | ⟨a, len, cap, m, fu, D, Pl, hcs, _, hl, hm, hmm, _, hi⟩
  · have hv : v = .slice none 0 0 := by simpa using hcs
    exact ⟨none, 0, 0, fun _ => 0, fun _ => 0, hv, by omega, fun h => absurd h (by omega)⟩
  · have hv : v = .slice (some a) len cap := by simpa using hcs
    have hle : len ≤ m := by rw [hmm]; split <;> omega
    obtain ⟨f, hf⟩ := choose_lt (α := Nat → Int) (n := len) (p := fun i g => ∀ j, j < 2 → w.cell? ((a.add (i * 2)).add j) = some (.int .i64 (g j)) ∧ (Lit.int .i64 (g j)).wf = true) (fun i hin => by
      obtain ⟨cs', hc, htr⟩ := hi i (by omega)
      rw [show Try.prog.cellsOf 190 = 2 from by kernel_rfl] at hc
      obtain ⟨_, hlen, hat⟩ := World.cells?_some hc
      obtain ⟨_, g, hg⟩ := ints_of Try.underlying190 (by kernel_rfl) (by kernel_rfl) Try.underlying3 (by kernel_rfl) htr
      exact ⟨g, fun j hj => ⟨(hat j hj).trans (hg j hj).1, (hg j hj).2⟩⟩)
    refine ⟨some a, len, cap, fun i => f i 0, fun i => f i 1, hv, ?_, src_pts (f := f) fun _ => ⟨a, rfl, fun i hin => hf i hin⟩⟩
    unfold maxLen at hm; omega
/-- What is known of an argument. -/
def ArgR (w : World) (r : Rc) (A D : Option Addr) : Prop :=
  r.n ≤ 9223372036854775807 ∧ r.m ≤ 9223372036854775807 ∧ -9223372036854775808 ≤ r.v ∧ r.v ≤ 9223372036854775807 ∧ SrcPts w A r.n r.X r.Y ∧ SrcI w D r.m r.Z
theorem reach_cells {n0 n1 n2 : Nat} {v0 v1 v2 : Value} {y0 y1 y2 : DataW H × List MemPlace} (h0 : DataW.trod enc Try.prog w base spare held n0 46 [v0] = some y0)
    (h1 : DataW.trod enc Try.prog w base spare held n1 3 [v1] = some y1) (h2 : DataW.trod enc Try.prog w base spare held n2 47 [v2] = some y2) :
    ∃ (r : Rc) (A D : Option Addr) (c d : Nat), v0 = .slice A r.n c ∧ v1 = .int .i64 r.v ∧ v2 = .slice D r.m d ∧ ArgR w r A D := by
  obtain ⟨A, n, c, X, Y, rfl, hn, hp⟩ := pts_of h0
  obtain ⟨z, hz, _, hw⟩ := DataW.trod_int Try.underlying3 h1
  obtain ⟨D, m, d, Z, rfl, hm, hd⟩ := ints_of_s h2
  have hb : -9223372036854775808 ≤ z ∧ z ≤ 9223372036854775807 := bounds_i64 hw
  exact ⟨⟨n, X, Y, z, m, Z⟩, A, D, c, d, rfl, (List.cons.inj hz).1, rfl, hn, hm, hb.1, hb.2, hp, hd⟩
set_option maxRecDepth 100000 in
theorem open_reach {r : Reach} {b0 : Nat} {v : Value} {d : DataW H} {ps : List MemPlace} (hv : Value.okWide Try.prog w r b0 49 v) (h : DataW.Trod enc Try.prog w base spare held 49 v d ps) :
    ∃ (r : Rc) (A D : Option Addr) (c d : Nat), v = .agg #[.slice A r.n c, .int .i64 r.v, .slice D r.m d] ∧ ArgR w r A D := by
  obtain ⟨v0, v1, v2, y0, y1, y2, n, rfl, _, _, h0, h1, h2⟩ := open_agg3 Try.underlying49 (by kernel_rfl) (by kernel_rfl) hv h
  obtain ⟨r, A, D, c, d, rfl, rfl, rfl, hr⟩ := reach_cells h0 h1 h2
  exact ⟨r, A, D, c, d, rfl, hr⟩
end
end Go.Proofs.Ytngmpimoebggdaa.C1
