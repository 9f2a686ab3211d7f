/-
  For every input the Go function 'laws.FnExactFormatEntry' returns true, and each argument reads afterwards as it read before. No further condition.
-/
import Derived.Test.YtclofbknbfmmlaaDoorEnF
import Derived.Test.YtclofbknbfmmlaaDoorLift
import Derived.Test.YtclofbknbfmmlaaDoorOpen
import Derived.Test.YtclofbknbfmmlaaDoorLaid
import Derived.ChangeMaps5
namespace Go.Proofs.YtclofbknbfmmlaaDoor.fnExactFormatEntry
open Go.Proofs.YtclofbknbfmmlaaDoor.C1 Go.Proofs.YtclofbknbfmmlaaDoor.Lift Go.Proofs.YtclofbknbfmmlaaDoor.Opened
open Go.ChangeShapes Go.WideShapes Go.ChangeAt Go.RowKit Go.ChangeMaps
set_option linter.unusedVariables false

set_option maxHeartbeats 2000000 in
theorem walk (b : En) (w : World) (ht : Pow10 w) :
    Calls Tryd.prog 7 #[.agg #[.int .i64 b.f, .int .i64 b.t, .int .i64 b.a, .int .i64 b.m, .int .i64 b.y]] w fun e w' => e = .returned (.bool true) ∧ Below w.heap.size w w' := by
  have HT := vl ht
  clear ht
  have HB0 := vl ((Below.refl w.heap.size w).alloc (Nat.le_refl _) (.cells #[.int .i64 b.f, .int .i64 b.t, .int .i64 b.a, .int .i64 b.m, .int .i64 b.y] 56))
  have HX0 := vl (BxE.new w b 56)
  obtain ⟨x0, x1, x2, x3, x4⟩ := HX0.out
  go_enter Tryd.func7, Tryd.ntmps7
  go_wp2_with fail
  refine (toEntry b _).mono ?_
  rintro e w1 ⟨rfl, hb1⟩
  have HB1 := vl (HB0.out.trans (hb1.mono HB0.out.size))
  have HX1 := vl (HX0.out.below hb1)
  clear hb1 x0 x1 x2 x3 x4
  go_wp2_with fail
  refine (fmte_spec b _).mono ?_
  rintro e w2 ⟨rfl, hb2⟩
  have HB2 := vl (HB1.out.trans (hb2.mono HB1.out.size))
  have HX2 := vl (HX1.out.below hb2)
  clear hb2
  obtain ⟨x0, x1, x2, x3, x4⟩ := HX2.out
  go_wp2_with fail
  refine (toEntry b _).mono ?_
  rintro e w3 ⟨rfl, hb3⟩
  have HB3 := vl (HB2.out.trans (hb3.mono HB2.out.size))
  clear hb3 x0 x1 x2 x3 x4
  go_wp2_with fail
  refine (fmte_impl b _ (HT.out.below HB3.out)).mono ?_
  rintro e w4 ⟨rfl, hb4⟩
  have HB4 := vl (HB3.out.trans (hb4.mono HB3.out.size))
  clear hb4
  go_wp2
  go_ret
  exact ⟨rfl, HB4.out⟩

theorem parOk : Tryd.f7.params.toList.all (fun t => Tryd.prog.readableRec t && decide (t < Tryd.prog.types.size)) = true := by kernel_rfl
theorem laid_met (os : Os) : laidMetH Tryd.prog Rows.fnExactFormatEntryRow.laid ((World.doorLaid Tryd.prog 400 os).forCall (fun _ _ => 0) ⟨#[], #[.agg #[.int .i64 0, .int .i64 0, .int .i64 0, .int .i64 0, .int .i64 0]], []⟩).memory :=
  laidMetH_of_parts3 (fuel := 8) (laidMet_of_run' 8 (by kernel_rfl) (by kernel_rfl)) (by kernel_rfl) (by kernel_rfl)
theorem reads (os : Os) {H : Type} (enc : TypeId × Value → H) : ∃ places, DataW.whole enc Tryd.prog ((World.doorLaid Tryd.prog 400 os).forCall (fun _ _ => 0) ⟨#[], #[.agg #[.int .i64 0, .int .i64 0, .int .i64 0, .int .i64 0, .int .i64 0]], []⟩).memory Tryd.f7.params.toList Rows.fnExactFormatEntrySpec.vars false #[.agg #[.int .i64 0, .int .i64 0, .int .i64 0, .int .i64 0, .int .i64 0]].toList 8 = some ([.agg [.lit (.int .i64 0), .lit (.int .i64 0), .lit (.int .i64 0), .lit (.int .i64 0), .lit (.int .i64 0)]], [], places) :=
  ⟨[], by kernel_rfl⟩
set_option maxRecDepth 100000 in
theorem lifted (os : Os) (started : os.Started) (H : Type) (enc : TypeId × Value → H) (F : Stop.Interp) :
    ReturnsInHanded {} Tryd.checked os 7 .any ((OpenSpec.ofChange Rows.fnExactFormatEntrySpec).preRow enc Tryd.prog Tryd.f7 Rows.fnExactFormatEntryRow.domain false Rows.fnExactFormatEntryRow.laid) (((OpenSpec.ofChange Rows.fnExactFormatEntrySpec).at F).post enc Tryd.prog Tryd.f7 false true false false) := by
  obtain ⟨places, hx⟩ := reads os enc
  refine law_laid (C := Tryd.checked) own started (by kernel_rfl) Tryd.func7 laid (fun t ht => by
      have h := List.all_eq_true.1 parOk t ht
      rw [Bool.and_eq_true] at h
      exact ⟨h.1, of_decide_eq_true h.2⟩) rfl Tryd.underlying4 rfl
    (fun xs hx => by
      rw [show Tryd.f7.params.toList.length = 1 from by rw [Tryd.params7]; rfl] at hx
      match xs, hx with
      | [d0], _ => rfl)
    (witness_row_atRef (enc := enc) (C := Tryd.checked) false (World.doorLaid Tryd.prog 400 os) #[.agg #[.int .i64 0, .int .i64 0, .int .i64 0, .int .i64 0, .int .i64 0]] rfl (by kernel_rfl) (by kernel_rfl) (by kernel_rfl)
      (OpenSpec.preRow_of_cond 8 hx (by kernel_rfl) (fun k hk => by cases hk) (by kernel_rfl) (laid_met os))) ?_
  intro W base args ds p hval0 hA0 _ hL
  rw [MakeChecks.laidMetH_plain _ _ _ (by kernel_rfl)] at hL
  have F0 := pow10 hL (by repeat (first | exact List.Mem.head _ | apply List.Mem.tail))
  have hval : ∀ (j : Nat) t v, Tryd.f7.params[j]? = some t → args[j]? = some v → Value.okWide Tryd.prog W .any base t v := hval0
  have hA : DataW.TrodAll enc Tryd.prog W 0 (fun _ => true) true Tryd.f7.params.toList args.toList ds p := hA0
  clear hA0 hval0
  rw [Tryd.params7] at hA hval
  obtain ⟨v0, vs0, d0, ds0, p0, q0, hargs, rfl, rfl, h0, r0⟩ := trodAll_cons hA
  obtain ⟨rfl, rfl, rfl⟩ := trodAll_nil r0
  obtain rfl : args = #[v0] := by cases args; simp_all
  obtain ⟨e0, rfl⟩ := open_entry (hval 0 56 _ rfl rfl) h0
  exact walk e0 W  F0
theorem said : Rows.FnExactFormatEntrySaid :=
  OpenClaim.holds_of_cond 7 Tryd.f7 rfl rfl rfl rfl rfl rfl rfl ⟨rfl, rfl, rfl, rfl, rfl⟩ rfl rfl rfl rfl rfl (by kernel_rfl) Tryd.func7 (by kernel_rfl)
    (of_decide_eq_true (by kernel_rfl)) (by unfold Func.isWrapper; first | (rw [if_pos (by decide +kernel)]; kernel_rfl) | (rw [if_neg (by decide +kernel)]; exact ⟨rfl, rfl⟩))
    (fun os started H enc _ F => by rw [OpenClaim.pre_eq_preRow]; exact lifted os started H enc F)
theorem plain (f : FuncId) (fn : Func) (hf : Tryd.pinned.checked.prog.funcNamed Rows.fnExactFormatEntryRow.func = some f) (hfn : Tryd.pinned.checked.prog.funcs[f]? = some fn) :
    true = Tryd.pinned.checked.prog.looks [] ∧ ∀ (j : Nat) t, fn.params[j]? = some t → Tryd.pinned.checked.prog.wantsStandIn t = false := by
  obtain rfl : f = 7 := Option.some.inj ((show Tryd.prog.funcNamed Rows.fnExactFormatEntryRow.func = some 7 by kernel_rfl).symm.trans hf) |>.symm
  obtain rfl : fn = Tryd.f7 := (Option.some.inj (Tryd.func7.symm.trans hfn)).symm
  refine ⟨by kernel_rfl, fun j t ht => ?_⟩
  have hw : Tryd.f7.params.toList.all (fun t => Tryd.prog.wantsStandIn t == false) = true := by kernel_rfl
  have := List.all_eq_true.1 hw t (by simpa using Array.mem_of_getElem? ht)
  exact (show Tryd.prog.wantsStandIn t = false by simpa using this)
/-- The statement: the tied card. -/
theorem proved : Rows.FnExactFormatEntryCardSaid :=
  Claim7.holds_tied_plain_at .later [] _ _ _ _ said (fun _ h => by cases h) (by kernel_rfl) (fun _ h => by cases h) fnExactFormatEntry_row_tie rfl ⟨rfl, rfl⟩ (by kernel_rfl) rfl plain (by kernel_rfl)
#print axioms proved
end Go.Proofs.YtclofbknbfmmlaaDoor.fnExactFormatEntry
