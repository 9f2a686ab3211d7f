/- How a law's arguments lie in memory: structs of integers, and slices of them, opened to their cells. -/
import Derived.Test.YtngmpimoebggdaaRows
import Derived.WalkKit
import Derived.ProofKit
import Derived.OpenShut
import Derived.Deep.Slices
import Derived.Deep.Fields
namespace Go.Proofs.Ytngmpimoebggdaa.Opened
open Go.ChangeShapes Go.WideShapes Go.ChangeAt Go.RowKit Go.Deep
set_option linter.unusedVariables false

def allOf (ti : TypeId) (fs : Array Field) : Bool := fs.toList.all fun f => f.type == ti
theorem allOf_at {ti : TypeId} {fs : Array Field} (h : allOf ti fs = true) {j : Nat} {f : Field} (hj : fs[j]? = some f) : f.type = ti := by
  have hm : f ∈ fs.toList := by
    have := Array.mem_of_getElem? hj
    simpa using this
  have := List.all_eq_true.1 h f hm
  simpa using this

section
variable {H : Type} {enc : TypeId × Value → H} {P : Program} {w : World} {base : Nat} {spare : Nat → Bool} {held : Bool}

/-- A struct of integers: its cells are its numbers. -/
theorem ints_of {e ti : TypeId} {fs : Array Field} {fuel : Nat} {cs : List Value} {x : DataW H × List MemPlace} (he : P.underlying e = some (.struct fs)) (hone : oneCellFields P fs = true) (hC : P.cellsOf e = fs.size)
    (hI : P.underlying ti = some (.int .i64)) (hall : allOf ti fs = true) (h : DataW.trod enc P w base spare held fuel e cs = some x) :
    cs.length = fs.size ∧ ∃ f : Nat → Int, ∀ j, j < fs.size → cs[j]? = some (.int .i64 (f j)) ∧ (Lit.int .i64 (f j)).wf = true := by
  obtain ⟨xs, n, _, _, hlen, _, hf⟩ := DataW.trod_struct he h
  rw [hC] at hlen
  refine ⟨hlen, ?_⟩
  obtain ⟨f, hf'⟩ := choose_lt (α := Int) (n := fs.size) (p := fun j z => cs[j]? = some (.int .i64 z) ∧ (Lit.int .i64 z).wf = true) (fun j hj => by
    have hfj : fs[j]? = some fs[j] := Array.getElem?_eq_getElem hj
    obtain ⟨ho, hk⟩ := hone_of hone j _ hfj
    have h1 := hf j _ hfj
    rw [ho, hk, allOf_at hall hfj, List.drop_eq_getElem_cons (by omega), List.take_succ_cons, List.take_zero] at h1
    have hxs : ∃ y, xs[j]? = some y := by
      have : j < xs.length := by omega
      exact ⟨_, List.getElem?_eq_getElem this⟩
    obtain ⟨y, hy⟩ := hxs
    rw [hy] at h1
    obtain ⟨z, hz, _, hw⟩ := DataW.trod_int hI h1
    have hz' : cs[j]'(by omega) = .int .i64 z := (List.cons.inj hz).1
    exact ⟨z, by rw [List.getElem?_eq_getElem (by omega), hz'], hw⟩)
  exact ⟨f, hf'⟩

/-- A slice of structs of k integers. -/
theorem slice_ints {t e ti : TypeId} {fs : Array Field} {r : Reach} {b0 : Nat} {v : Value} {d : DataW H} {ps : List MemPlace} (ht : P.underlying t = some (.slice e)) (he : P.underlying e = some (.struct fs)) (hone : oneCellFields P fs = true) (hC : P.cellsOf e = fs.size)
    (hI : P.underlying ti = some (.int .i64)) (hall : allOf ti fs = true) (hv : Value.okWide P w r b0 t v) (h : DataW.Trod enc P w base spare held t v d ps) :
    ∃ (A : Option Addr) (n cap : Nat) (f : Nat → Nat → Int), v = .slice A n cap ∧ n ≤ 9223372036854775807 ∧
      (0 < n → ∃ ad, A = some ad ∧ ∀ i, i < n → ∀ j, j < fs.size → w.cell? ((ad.add (i * fs.size)).add j) = some (.int .i64 (f i j)) ∧ (Lit.int .i64 (f i j)).wf = true) := by
  obtain ⟨A, n, cap, rfl⟩ := okWide_slice ht hv
  obtain ⟨fuel, hf⟩ := h
  rcases open_slice ht hf with ⟨hcs, _⟩ | ⟨a, len, cap', m, fu, D, Pl, hcs, _, hl, hm, hmm, _, hi⟩
  · have : Value.slice A n cap = .slice none 0 0 := by simpa [Value.cells] using hcs
    injection this with h1 h2 h3
    exact ⟨A, n, cap, fun _ _ => 0, rfl, by omega, fun h => absurd h (by omega)⟩
  · have : Value.slice A n cap = .slice (some a) len cap' := by simpa [Value.cells] using hcs
    injection this with h1 h2 h3
    subst h1; subst h2; subst h3
    have hle : n ≤ m := by rw [hmm]; split <;> omega
    obtain ⟨f, hf'⟩ := choose_lt (α := Nat → Int) (n := n) (p := fun i g => ∀ j, j < fs.size → w.cell? ((a.add (i * fs.size)).add j) = some (.int .i64 (g j)) ∧ (Lit.int .i64 (g j)).wf = true) (fun i hin => by
      obtain ⟨cs', hc, htr⟩ := hi i (by omega)
      rw [hC] at hc
      obtain ⟨_, hlen, hat⟩ := World.cells?_some hc
      obtain ⟨_, g, hg⟩ := ints_of he hone hC hI hall htr
      exact ⟨g, fun j hj => ⟨(hat j hj).trans (hg j hj).1, (hg j hj).2⟩⟩)
    refine ⟨some a, n, cap, f, rfl, ?_, fun _ => ⟨a, rfl, fun i hin => hf' i hin⟩⟩
    unfold maxLen at hm; omega

/-- A slice of integers. -/
theorem slice_int {t ti : TypeId} {r : Reach} {b0 : Nat} {v : Value} {d : DataW H} {ps : List MemPlace} (ht : P.underlying t = some (.slice ti)) (hC : P.cellsOf ti = 1)
    (hI : P.underlying ti = some (.int .i64)) (hv : Value.okWide P w r b0 t v) (h : DataW.Trod enc P w base spare held t v d ps) :
    ∃ (A : Option Addr) (n cap : Nat) (f : Nat → Int), v = .slice A n cap ∧ n ≤ 9223372036854775807 ∧ (0 < n → ∃ ad, A = some ad ∧ ∀ i, i < n → w.cell? (ad.add i) = some (.int .i64 (f i)) ∧ (Lit.int .i64 (f i)).wf = true) := by
  obtain ⟨A, n, cap, rfl⟩ := okWide_slice ht hv
  obtain ⟨fuel, hf⟩ := h
  rcases open_slice1 ht hC hf with ⟨hcs, _⟩ | ⟨a, len, cap', m, fu, V, D, Pl, hcs, _, hl, hm, hmm, _, hi⟩
  · have : Value.slice A n cap = .slice none 0 0 := by simpa [Value.cells] using hcs
    injection this with h1 h2 h3
    exact ⟨A, n, cap, fun _ => 0, rfl, by omega, fun h => absurd h (by omega)⟩
  · have : Value.slice A n cap = .slice (some a) len cap' := by simpa [Value.cells] using hcs
    injection this with h1 h2 h3
    subst h1; subst h2; subst h3
    have hle : n ≤ m := by rw [hmm]; split <;> omega
    obtain ⟨f, hf'⟩ := choose_lt (α := Int) (n := n) (p := fun i z => w.cell? (a.add i) = some (.int .i64 z) ∧ (Lit.int .i64 z).wf = true) (fun i hin => by
      obtain ⟨hc, htr⟩ := hi i (by omega)
      obtain ⟨z, hz, _, hw⟩ := DataW.trod_int hI htr
      have hz' : V i = .int .i64 z := (List.cons.inj hz).1
      exact ⟨z, by rw [hc, hz'], hw⟩)
    refine ⟨some a, n, cap, f, rfl, ?_, fun _ => ⟨a, rfl, fun i hin => hf' i hin⟩⟩
    unfold maxLen at hm; omega

/-- A slice of bytes. -/
theorem slice_bytes {t ti : TypeId} {r : Reach} {b0 : Nat} {v : Value} {d : DataW H} {ps : List MemPlace} (ht : P.underlying t = some (.slice ti)) (hC : P.cellsOf ti = 1)
    (hI : P.underlying ti = some (.int .u8)) (hv : Value.okWide P w r b0 t v) (h : DataW.Trod enc P w base spare held t v d ps) :
    ∃ (A : Option Addr) (n cap : Nat) (f : Nat → Int), v = .slice A n cap ∧ n ≤ 9223372036854775807 ∧ (0 < n → ∃ ad, A = some ad ∧ ∀ i, i < n → w.cell? (ad.add i) = some (.int .u8 (f i)) ∧ 0 ≤ f i ∧ f i ≤ 255) := by
  obtain ⟨A, n, cap, rfl⟩ := okWide_slice ht hv
  obtain ⟨fuel, hf⟩ := h
  rcases open_slice1 ht hC hf with ⟨hcs, _⟩ | ⟨a, len, cap', m, fu, V, D, Pl, hcs, _, hl, hm, hmm, _, hi⟩
  · have : Value.slice A n cap = .slice none 0 0 := by simpa [Value.cells] using hcs
    injection this with h1 h2 h3
    exact ⟨A, n, cap, fun _ => 0, rfl, by omega, fun h => absurd h (by omega)⟩
  · have : Value.slice A n cap = .slice (some a) len cap' := by simpa [Value.cells] using hcs
    injection this with h1 h2 h3
    subst h1; subst h2; subst h3
    have hle : n ≤ m := by rw [hmm]; split <;> omega
    obtain ⟨f, hf'⟩ := choose_lt (α := Int) (n := n) (p := fun i z => w.cell? (a.add i) = some (.int .u8 z) ∧ 0 ≤ z ∧ z ≤ 255) (fun i hin => by
      obtain ⟨hc, htr⟩ := hi i (by omega)
      obtain ⟨z, hz, _, hw⟩ := DataW.trod_int hI htr
      have hz' : V i = .int .u8 z := (List.cons.inj hz).1
      exact ⟨z, by rw [hc, hz'], bounds_u8 hw⟩)
    refine ⟨some a, n, cap, f, rfl, ?_, fun _ => ⟨a, rfl, fun i hin => hf' i hin⟩⟩
    unfold maxLen at hm; omega
end
end Go.Proofs.Ytngmpimoebggdaa.Opened
