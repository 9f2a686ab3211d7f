/-
  For every input the Go function 'laws.FnExactNoteTurn' returns true, and each argument reads afterwards as it read before. No further condition.
-/
import Derived.Test.YtaacgajpjkfplaaTsG
import Derived.Test.YtaacgajpjkfplaaLift
import Derived.Test.YtaacgajpjkfplaaOpen
import Derived.ChangeMaps5
namespace Go.Proofs.Ytaacgajpjkfplaa.fnExactNoteTurn
open Go.Proofs.Ytaacgajpjkfplaa.C1 Go.Proofs.Ytaacgajpjkfplaa.Lift Go.Proofs.Ytaacgajpjkfplaa.Opened
open Go.ChangeShapes Go.WideShapes Go.ChangeAt Go.RowKit Go.ChangeMaps
set_option linter.unusedVariables false

set_option maxHeartbeats 1000000 in
theorem walk (T0 : Tn) (b1 : Bool) (w : World) :
    Calls Try.prog 6 #[.agg #[.bool T0.u, .int .i64 T0.c], .bool b1] w fun e w' => e = .returned (.bool true) ∧ Below w.heap.size w w' := by
  have HB0 := Lib.hid ((Below.refl w.heap.size w).alloc (Nat.le_refl _) (.cells #[.bool T0.u, .int .i64 T0.c] 38))
  have HX0 := Lib.hid (Box2.new w (.bool T0.u) (.int .i64 T0.c) 38)
  go_enter Try.func6, Try.ntmps6
  go_wp2_with fail
  refine (toTurn T0 _).mono ?_
  rintro e w1 ⟨rfl, hb1⟩
  have HB1 := Lib.hid (HB0.out.trans (hb1.mono (by simp)))
  have HX1 := Lib.hid (HX0.out.below hb1)
  have q1 := HX1.out.lt
  clear hb1 HX0
  go_wp2_with fail
  refine (note_spec T0 b1 _).mono ?_
  rintro e w2 ⟨rfl, hb2⟩
  have HB2 := Lib.hid (HB1.out.trans (hb2.mono HB1.out.size))
  have HX2 := Lib.hid (HX1.out.below hb2)
  have q2 := HX2.out.lt
  clear hb2 HX1
  obtain ⟨x0, x1⟩ := HX2.out.at
  go_wp2_with fail
  refine (toTurn T0 _).mono ?_
  rintro e w3 ⟨rfl, hb3⟩
  have hb3' := ((Below.refl w2.heap.size w2).alloc (Nat.le_refl _) (.cells #[.bool (noteT T0 b1).u, .int .i64 (noteT T0 b1).c] 40)).trans (hb3.mono (by simp))
  have HG3 := Lib.hid ((Box2.new w2 (.bool (noteT T0 b1).u) (.int .i64 (noteT T0 b1).c) 40).below hb3)
  have HB3 := Lib.hid (HB2.out.trans (hb3'.mono HB2.out.size))
  clear hb3 hb3' HX2 x0 x1
  go_wp2_with fail
  refine (note_impl T0 b1 _).mono ?_
  rintro e w4 ⟨rfl, hb4⟩
  have HB4 := Lib.hid (HB3.out.trans (hb4.mono HB3.out.size))
  have HG4 := Lib.hid (HG3.out.below hb4)
  have q4 := HG4.out.lt
  obtain ⟨y0, y1⟩ := HG4.out.at
  clear hb4 HG3
  go_wp2_with fail
  refine (eqTurn (noteT T0 b1) _).mono ?_
  rintro e w5 ⟨rfl, hb5⟩
  have HB5 := Lib.hid ((HB4.out.alloc HB4.out.size (.cells #[.bool (noteT T0 b1).u, .int .i64 (noteT T0 b1).c] 40)).trans (hb5.mono (by simp; have := HB4.out.size; omega)))
  clear hb5 y0 y1
  go_wp2
  go_ret
  exact ⟨rfl, HB5.out⟩

theorem parOk : Try.f6.params.toList.all (fun t => Try.prog.readableRec t && decide (t < Try.prog.types.size)) = true := by kernel_rfl
set_option maxRecDepth 100000 in
theorem lifted (os : Os) (started : os.Started) (H : Type) (enc : TypeId × Value → H) :
    ReturnsInHanded {} Try.checked os 6 .any (Rows.fnExactNoteTurnSpec.pre6 enc Try.prog Try.f6 Rows.fnExactNoteTurnRow.domain false) (Rows.fnExactNoteTurnSpec.post enc Try.prog Try.f6 false true false false) := by
  refine law_lifted (C := Try.checked) own started (by kernel_rfl) Try.func6 laid (fun t ht => by
      have h := List.all_eq_true.1 parOk t ht
      rw [Bool.and_eq_true] at h
      exact ⟨h.1, of_decide_eq_true h.2⟩) rfl Try.underlying4 rfl
    (fun xs hx => by
      rw [show Try.f6.params.toList.length = 2 from by rw [Try.params6]; rfl] at hx
      match xs, hx with
      | [d0, d1], _ => rfl)
    (ChangeSpec.witness6 (enc := enc) (C := Try.checked) false ⟨#[], #[.agg #[.bool false, .int .i64 0], .bool false], []⟩ 8 (by kernel_rfl) (by kernel_rfl) (by kernel_rfl) (by kernel_rfl)) ?_
  intro W base args ds p hval0 hA0 _
  have hval : ∀ (j : Nat) t v, Try.f6.params[j]? = some t → args[j]? = some v → Value.okWide Try.prog W .any base t v := hval0
  have hA : DataW.TrodAll enc Try.prog W 0 (fun _ => true) true Try.f6.params.toList args.toList ds p := hA0
  clear hA0 hval0
  rw [Try.params6] at hA hval
  obtain ⟨v0, vs0, d0, ds0, p0, q0, hargs, rfl, rfl, h0, r0⟩ := trodAll_cons hA
  obtain ⟨v1, vs1, d1, ds1, p1, q1, rfl, rfl, rfl, h1, r1⟩ := trodAll_cons r0
  obtain ⟨rfl, rfl, rfl⟩ := trodAll_nil r1
  obtain rfl : args = #[v0, v1] := by cases args; simp_all
  obtain ⟨T0, rfl⟩ := open_turn (hval 0 38 _ rfl rfl) h0
  obtain ⟨a1, rfl, rfl, _⟩ := open_bool Try.underlying4 (hval 1 4 _ rfl rfl) h1
  exact walk T0 a1 W 

/-- The statement. -/
theorem proved : Rows.FnExactNoteTurnSaid :=
  OpenClaim.holds_of_wide 6 Try.f6 rfl rfl rfl rfl rfl rfl rfl ⟨rfl, rfl, rfl, rfl, rfl⟩ rfl rfl rfl rfl rfl (by kernel_rfl) Try.func6 (by kernel_rfl)
    (of_decide_eq_true (by kernel_rfl)) (by unfold Func.isWrapper; first | (rw [if_pos (by decide +kernel)]; kernel_rfl) | (rw [if_neg (by decide +kernel)]; exact ⟨rfl, rfl⟩))
    (fun os started H enc _ => lifted os started H enc)
#print axioms proved
end Go.Proofs.Ytaacgajpjkfplaa.fnExactNoteTurn
