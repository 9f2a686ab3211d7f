/- A law's argument that is a call, opened to its cells. -/
import Derived.Test.YtmfeleocjmdooaaClM
import Derived.Test.YtmfeleocjmdooaaOpenT
import Derived.Lib.SmallJoins
namespace Go.Proofs.Ytmfeleocjmdooaa.C1
open Go.ChangeShapes Go.WideShapes Go.ChangeAt Go.RowKit Go.Deep Go.Joins Go.Proofs.Ytmfeleocjmdooaa.Opened
set_option linter.unusedVariables false

section
variable {H : Type} {enc : TypeId × Value → H} {w : World} {base : Nat} {spare : Nat → Bool} {held : Bool}
set_option maxRecDepth 100000 in
theorem call_of {fuel : Nat} {c0 c1 c2 c3 : Value} {x : DataW H × List MemPlace} (h : DataW.trod enc Try.prog w base spare held fuel 97 [c0, c1, c2, c3] = some x) :
    ∃ (C : Cl) (A : Option Addr) (c : Nat), c0 = .bool C.up ∧ c1 = .slice A C.T.length c ∧ c2 = .int .i64 C.s ∧ c3 = .int .i64 C.b ∧ ArgT w A C.T := by
  obtain ⟨xs, n, _, _, _, hxl, hfl⟩ := DataW.trod_struct Try.underlying97 h
  have hx : xs.length = 3 := hxl
  match xs, hx with
  | [y0, y1, y2], _ =>
    have e2 : Try.prog.cellsOf 58 = 2 := by kernel_rfl
    have e1 : Try.prog.cellsOf 3 = 1 := by kernel_rfl
    have h0 : DataW.trod enc Try.prog w base spare held n 58 (List.take (Try.prog.cellsOf 58) [c0, c1, c2, c3]) = some y0 := hfl 0 _ rfl
    have h1 : DataW.trod enc Try.prog w base spare held n 3 (List.take (Try.prog.cellsOf 3) [c2, c3]) = some y1 := hfl 1 _ rfl
    have h2 : DataW.trod enc Try.prog w base spare held n 3 (List.take (Try.prog.cellsOf 3) [c3]) = some y2 := hfl 2 _ rfl
    rw [e2] at h0
    rw [e1] at h1 h2
    obtain ⟨z1, hz1, _⟩ := DataW.trod_int Try.underlying3 h1
    obtain ⟨z2, hz2, _⟩ := DataW.trod_int Try.underlying3 h2
    obtain ⟨ys, m, _, _, _, hyl, hyf⟩ := DataW.trod_struct Try.underlying58 h0
    have hy : ys.length = 2 := hyl
    match ys, hy with
    | [t0, t1], _ =>
      have eb : Try.prog.cellsOf 4 = 1 := by kernel_rfl
      have er : Try.prog.cellsOf 56 = 1 := by kernel_rfl
      have g0 : DataW.trod enc Try.prog w base spare held m 4 (List.take (Try.prog.cellsOf 4) [c0, c1]) = some t0 := hyf 0 _ rfl
      have g1 : DataW.trod enc Try.prog w base spare held m 56 (List.take (Try.prog.cellsOf 56) [c1]) = some t1 := hyf 1 _ rfl
      rw [eb] at g0
      rw [er] at g1
      obtain ⟨A, c, T, hT, hA⟩ := rows_of g1
      obtain ⟨b, hb, _⟩ := DataW.trod_bool Try.underlying4 g0
      exact ⟨⟨b, T, z1, z2⟩, A, c, (List.cons.inj hb).1, hT, (List.cons.inj hz1).1, (List.cons.inj hz2).1, hA⟩
set_option maxRecDepth 100000 in
theorem open_call {r : Reach} {b0 : Nat} {v : Value} {d : DataW H} {ps : List MemPlace} (hv : Value.okWide Try.prog w r b0 97 v) (h : DataW.Trod enc Try.prog w base spare held 97 v d ps) :
    ∃ (C : Cl) (A : Option Addr) (c : Nat), v = .agg #[.bool C.up, .slice A C.T.length c, .int .i64 C.s, .int .i64 C.b] ∧ ArgT w A C.T := by
  obtain ⟨cs, rfl, hsz⟩ := okWide_struct Try.underlying97 hv
  obtain ⟨c0, c1, c2, c3, rfl⟩ := array4 (hsz.trans (by kernel_rfl))
  obtain ⟨fuel, hf⟩ := h
  obtain ⟨C, A, c, rfl, rfl, rfl, rfl, hA⟩ := call_of hf
  exact ⟨C, A, c, rfl, hA⟩
end
end Go.Proofs.Ytmfeleocjmdooaa.C1
