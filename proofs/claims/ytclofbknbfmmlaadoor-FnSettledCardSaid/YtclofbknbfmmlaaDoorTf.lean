/- Tariffs: in memory, as a law's argument, their conversion, size and comparison by the laws. -/
import Derived.Test.YtclofbknbfmmlaaDoorApp
import Derived.Test.YtclofbknbfmmlaaDoorOpenI
import Derived.Test.YtclofbknbfmmlaaDoorIntK
import Derived.Test.YtclofbknbfmmlaaDoorTs
namespace Go.Proofs.YtclofbknbfmmlaaDoor.C1
open Go.ChangeShapes Go.WideShapes Go.ChangeAt Go.RowKit Go.Deep Go.Joins Go.Proofs.YtclofbknbfmmlaaDoor.Opened
set_option linter.unusedVariables false

/-- A tariff: its base, its price for an area, n prices of classes, m weights. -/
structure Tf where
  b : Int
  p : Int
  n : Nat
  C : Nat → Int
  m : Nat
  W : Nat → Int
def ArgTf (w : World) (T : Tf) (A D : Option Addr) : Prop :=
  T.n ≤ 9223372036854775807 ∧ T.m ≤ 9223372036854775807 ∧ SrcI w A T.n T.C ∧ SrcI w D T.m T.W
/-- A tariff whose slices lie in blocks of their own, from B on and below L. -/
def OwnTf (w : World) (B L : Nat) (A D : Option Addr) (T : Tf) (g1 g2 : Nat) : Prop :=
  RowI w A T.n g1 T.C ∧ Free w T.n g1 ∧ RowI w D T.m g2 T.W ∧ Free w T.m g2 ∧ (0 < T.n → B ≤ g1 ∧ g1 < L) ∧ (0 < T.m → B ≤ g2 ∧ g2 < L) ∧ (0 < T.n → 0 < T.m → g1 ≠ g2)
theorem OwnTf.below {w w' : World} {B L g1 g2 : Nat} {A D : Option Addr} {T : Tf} (h : OwnTf w B L A D T g1 g2) (hb : Below w.heap.size w w') : OwnTf w' B L A D T g1 g2 :=
  ⟨h.1.below hb, h.2.1.below (fun hn => h.1.lt hn) hb, h.2.2.1.below hb, h.2.2.2.1.below (fun hn => h.2.2.1.lt hn) hb, h.2.2.2.2⟩
theorem OwnTf.touch {w w' : World} {B L B' L' g1 g2 : Nat} {A D : Option Addr} {T : Tf} (h : OwnTf w B L A D T g1 g2) (t : Touch w w' B' L') (hd : L ≤ B' ∨ L' ≤ B) : OwnTf w' B L A D T g1 g2 := by
  obtain ⟨h1, h2, h3, h4, h5, h6, h7⟩ := h
  have o1 : 0 < T.n → g1 < B' ∨ L' ≤ g1 := fun hn => by have := h5 hn; omega
  have o2 : 0 < T.m → g2 < B' ∨ L' ≤ g2 := fun hn => by have := h6 hn; omega
  exact ⟨t.rowI h1 o1, t.free h2 (fun hn => h1.lt hn) o1, t.rowI h3 o2, t.free h4 (fun hn => h3.lt hn) o2, h5, h6, h7⟩
/-- What a function that gives a tariff leaves. -/
def GivesTf (w : World) (T : Tf) (e : Ending) (w' : World) : Prop :=
  (∃ A c D d g1 g2, e = .returned (.agg #[.int .i64 T.b, .int .i64 T.p, .slice A T.n c, .slice D T.m d]) ∧ OwnTf w' w.heap.size w'.heap.size A D T g1 g2) ∧ Below w.heap.size w w'
end Go.Proofs.YtclofbknbfmmlaaDoor.C1
