/- A law's arguments that are ways and movers, opened to their cells. -/
import Derived.Test.YtngmpimoebggdaaSaM
import Derived.Test.YtngmpimoebggdaaOpenT
import Derived.Lib.SmallJoins
namespace Go.Proofs.Ytngmpimoebggdaa.C1
open Go.ChangeShapes Go.WideShapes Go.ChangeAt Go.RowKit Go.Deep Go.Joins Go.Proofs.Ytngmpimoebggdaa.Opened
set_option linter.unusedVariables false

section
variable {H : Type} {enc : TypeId × Value → H} {w : World} {base : Nat} {spare : Nat → Bool} {held : Bool}
set_option maxRecDepth 100000 in
theorem open_way {r : Reach} {b0 : Nat} {v : Value} {d : DataW H} {ps : List MemPlace} (hv : Value.okWide Try.prog w r b0 36 v) (h : DataW.Trod enc Try.prog w base spare held 36 v d ps) :
    ∃ Y : Wy, v = .agg #[.int .i64 Y.l, .int .i64 Y.b] := by
  obtain ⟨v0, v1, y0, y1, n, rfl, _, _, h0, h1⟩ := open_agg2 Try.underlying36 (by kernel_rfl) (by kernel_rfl) hv h
  obtain ⟨b, hb, _⟩ := DataW.trod_int Try.underlying3 h0
  obtain ⟨z, hz, _⟩ := DataW.trod_int Try.underlying3 h1
  exact ⟨⟨b, z⟩, by rw [(List.cons.inj hb).1, (List.cons.inj hz).1]⟩
set_option maxRecDepth 100000 in
theorem mover_of {fuel : Nat} {c0 c1 c2 : Value} {x : DataW H × List MemPlace} (h : DataW.trod enc Try.prog w base spare held fuel 34 [c0, c1, c2] = some x) :
    ∃ (C : Mv) (A : Option Addr) (c : Nat), c0 = .bool C.up ∧ c1 = .slice A C.T.length c ∧ c2 = .int .i64 C.p ∧ ArgT w A C.T := by
  obtain ⟨xs, n, _, _, _, hxl, hfl⟩ := DataW.trod_struct Try.underlying34 h
  have hx : xs.length = 2 := hxl
  match xs, hx with
  | [y0, y1], _ =>
    have e2 : Try.prog.cellsOf 24 = 2 := by kernel_rfl
    have e1 : Try.prog.cellsOf 3 = 1 := by kernel_rfl
    have h0 : DataW.trod enc Try.prog w base spare held n 24 (List.take (Try.prog.cellsOf 24) [c0, c1, c2]) = some y0 := hfl 0 _ rfl
    have h1 : DataW.trod enc Try.prog w base spare held n 3 (List.take (Try.prog.cellsOf 3) [c2]) = some y1 := hfl 1 _ rfl
    rw [e2] at h0
    rw [e1] at h1
    obtain ⟨z1, hz1, _⟩ := DataW.trod_int Try.underlying3 h1
    obtain ⟨ys, m, _, _, _, hyl, hyf⟩ := DataW.trod_struct Try.underlying24 h0
    have hy : ys.length = 2 := hyl
    match ys, hy with
    | [t0, t1], _ =>
      have eb : Try.prog.cellsOf 4 = 1 := by kernel_rfl
      have er : Try.prog.cellsOf 22 = 1 := by kernel_rfl
      have g0 : DataW.trod enc Try.prog w base spare held m 4 (List.take (Try.prog.cellsOf 4) [c0, c1]) = some t0 := hyf 0 _ rfl
      have g1 : DataW.trod enc Try.prog w base spare held m 22 (List.take (Try.prog.cellsOf 22) [c1]) = some t1 := hyf 1 _ rfl
      rw [eb] at g0
      rw [er] at g1
      obtain ⟨A, c, T, hT, hA⟩ := rows_of g1
      obtain ⟨b, hb, _⟩ := DataW.trod_bool Try.underlying4 g0
      exact ⟨⟨b, T, z1⟩, A, c, (List.cons.inj hb).1, hT, (List.cons.inj hz1).1, hA⟩
set_option maxRecDepth 100000 in
theorem open_mover {r : Reach} {b0 : Nat} {v : Value} {d : DataW H} {ps : List MemPlace} (hv : Value.okWide Try.prog w r b0 34 v) (h : DataW.Trod enc Try.prog w base spare held 34 v d ps) :
    ∃ (C : Mv) (A : Option Addr) (c : Nat), v = .agg #[.bool C.up, .slice A C.T.length c, .int .i64 C.p] ∧ ArgT w A C.T := by
  obtain ⟨cs, rfl, hsz⟩ := okWide_struct Try.underlying34 hv
  obtain ⟨c0, c1, c2, rfl⟩ := array3 (hsz.trans (by kernel_rfl))
  obtain ⟨fuel, hf⟩ := h
  obtain ⟨C, A, c, rfl, rfl, rfl, hA⟩ := mover_of hf
  exact ⟨C, A, c, rfl, hA⟩
end
end Go.Proofs.Ytngmpimoebggdaa.C1
