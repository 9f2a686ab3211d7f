/-
  For every input the Go function 'laws.FnExactSplitFields' returns true, and each argument reads afterwards as it read before. No further condition.
-/
import Derived.Test.YtafjichhahbihaaDoorSplit
import Derived.Test.YtafjichhahbihaaDoorLift
import Derived.Test.YtafjichhahbihaaDoorOpen
import Derived.Test.YtafjichhahbihaaDoorLaid
import Derived.ChangeMaps5
namespace Go.Proofs.YtafjichhahbihaaDoor.fnExactSplitFields
open Go.Proofs.YtafjichhahbihaaDoor.C1 Go.Proofs.YtafjichhahbihaaDoor.Lift Go.Proofs.YtafjichhahbihaaDoor.Opened
open Go.ChangeShapes Go.WideShapes Go.ChangeAt Go.RowKit Go.ChangeMaps
set_option linter.unusedVariables false

theorem outL_le (s : ByteArray) : (outL s).length ≤ 24 := by
  unfold outL
  split
  · rename_i h; exact h.2.2
  · simp
set_option maxHeartbeats 1000000 in
theorem walk (s : ByteArray) (w : World) (hs : s.size ≤ 9223372036854775807) (ht : Ascii w) :
    Calls Tryd.prog 8 #[.string s] w fun e w' => e = .returned (.bool true) ∧ Below w.heap.size w w' := by
  have HT := Lib.hid ht
  have hn := outL_le s
  obtain ⟨b, HK⟩ : ∃ b, Hid (okS s = b) := ⟨_, rfl⟩
  clear ht
  by_cases hbig : 1048576 < s.size
  · go_enter Tryd.func8, Tryd.ntmps8
    go_wp2
    go_ret
    exact ⟨rfl, Below.refl _ _⟩
  have hl : s.size ≤ 1048576 := by omega
  clear hbig
  go_enter Tryd.func8, Tryd.ntmps8
  go_wp2_with fail
  refine (split_spec s _ hs).mono ?_
  rintro e w1 ⟨A1, c1, rfl, ho1, hb1⟩
  rw [HK.out]
  have HO1 := Lib.hid ho1
  have HB1 := Lib.hid hb1
  clear ho1 hb1
  go_wp2_with fail
  refine (split_impl s _ hs (HT.out.below HB1.out)).mono ?_
  rintro e w2 ⟨A2, c2, rfl, ho2, hb2⟩
  rw [HK.out]
  have HO2 := Lib.hid ho2
  have HO1' := Lib.hid (own_below HO1.out hb2)
  have HB2 := Lib.hid (HB1.out.trans (hb2.mono HB1.out.size))
  have HS1 := Lib.hid HB1.out.size
  have HX1 := Lib.hid (fun g (hg : (Value.slice A1 (outL s).length c1).ownBlock = some g) => own_block_lt HO1.out hg)
  have HX2 := Lib.hid (fun g (hg : (Value.slice A2 (outL s).length c2).ownBlock = some g) => HO2.out.lt g hg)
  clear ho2 hb2 HO1 HB1
  go_wp2_with fail
  refine (eqStringS _ _ _ _ _ _ _ (outL s) _ (by omega) HO2.out HO1'.out).mono ?_
  rintro e w3 ⟨rfl, hb3⟩
  have HO2a := Lib.hid (own_below HO2.out hb3)
  have HO1a := Lib.hid (own_below HO1'.out hb3)
  have HB3 := Lib.hid (HB2.out.trans (hb3.mono HB2.out.size))
  clear hb3 HO2 HO1' HB2
  go_wp2_with fail
  refine (markStringS _ _ _ _ 1 (outL s) _ (by omega) (by omega) HO2a.out).mono ?_
  rintro e w4 ⟨rfl, ho4, hg4⟩
  have HO2b := Lib.hid ho4
  have HO1b : Hid (w4.ownsRow w.heap.size 9 1 (.slice A1 (outL s).length c1) (outL s).length (strs (outL s))) := by
    refine HO1a.out.kept hg4 ?_
    cases h1 : (Value.slice A1 (outL s).length c1).ownBlock with
    | none => exact .inl rfl
    | some g1 =>
      right
      intro h2
      have a := HX1.out g1 h1
      have b' := (HX2.out g1 h2.symm).1
      omega
  have HB4 := Lib.hid (HB3.out.grown hg4 HB3.out.size (fun k hk => by have := (HX2.out k hk).1; have := HS1.out; omega))
  clear ho4 hg4 HO2a HO1a HB3
  go_wp2_with fail
  refine (heldStringS _ _ _ _ 1 _ (by omega) (by omega) HO2b.out).mono ?_
  rintro e w5 ⟨rfl, hb5⟩
  have HO2c := Lib.hid (own_below HO2b.out hb5)
  have HO1c := Lib.hid (own_below HO1b.out hb5)
  have HB5 := Lib.hid (HB4.out.trans (hb5.mono HB4.out.size))
  clear hb5 HO2b HO1b HB4
  go_wp2_with fail
  refine (split_impl s _ hs (HT.out.below HB5.out)).mono ?_
  rintro e w6 ⟨A3, c3, rfl, ho6, hb6⟩
  rw [HK.out]
  have HO3 := Lib.hid ho6
  have HO2d := Lib.hid (own_below HO2c.out hb6)
  have HO1d := Lib.hid (own_below HO1c.out hb6)
  have HB6 := Lib.hid (HB5.out.trans (hb6.mono HB5.out.size))
  clear ho6 hb6 HO2c HO1c HB5
  go_wp2_with fail
  refine (eqStringS _ _ _ _ _ _ _ (outL s) _ (by omega) HO3.out HO1d.out).mono ?_
  rintro e w7 ⟨rfl, hb7⟩
  have HO2e := Lib.hid (own_below HO2d.out hb7)
  have HB7 := Lib.hid (HB6.out.trans (hb7.mono HB6.out.size))
  clear hb7 HO3 HO2d HO1d HB6
  go_wp2_with fail
  refine (heldStringS _ _ _ _ 1 _ (by omega) (by omega) HO2e.out).mono ?_
  rintro e w8 ⟨rfl, hb8⟩
  have HB8 := Lib.hid (HB7.out.trans (hb8.mono HB7.out.size))
  clear hb8
  go_wp2
  go_ret
  exact ⟨rfl, HB8.out⟩

theorem own : ownKnob Tryd.prog.godebug = none := by kernel_rfl
theorem laid : laidOutB Tryd.prog = true := by kernel_rfl
theorem parOk : Tryd.f8.params.toList.all (fun t => Tryd.prog.readableRec t && decide (t < Tryd.prog.types.size)) = true := by kernel_rfl
theorem laid_met (os : Os) : laidMetH Tryd.prog Rows.fnExactSplitFieldsRow.laid ((World.doorLaid Tryd.prog 400 os).forCall (fun _ _ => 0) ⟨#[], #[.string ⟨#[]⟩], []⟩).memory :=
  laidMetH_of_parts3 (fuel := 8) (laidMet_of_run' 8 (by kernel_rfl) (by kernel_rfl)) (by kernel_rfl) (by kernel_rfl)
theorem reads (os : Os) {H : Type} (enc : TypeId × Value → H) : ∃ places, DataW.whole enc Tryd.prog ((World.doorLaid Tryd.prog 400 os).forCall (fun _ _ => 0) ⟨#[], #[.string ⟨#[]⟩], []⟩).memory Tryd.f8.params.toList Rows.fnExactSplitFieldsSpec.vars false #[.string ⟨#[]⟩].toList 8 = some ([.lit (.string [])], [], places) :=
  ⟨[], by kernel_rfl⟩
set_option maxRecDepth 100000 in
theorem lifted (os : Os) (started : os.Started) (H : Type) (enc : TypeId × Value → H) (F : Stop.Interp) :
    ReturnsInHanded {} Tryd.checked os 8 .any ((OpenSpec.ofChange Rows.fnExactSplitFieldsSpec).preRow enc Tryd.prog Tryd.f8 Rows.fnExactSplitFieldsRow.domain false Rows.fnExactSplitFieldsRow.laid) (((OpenSpec.ofChange Rows.fnExactSplitFieldsSpec).at F).post enc Tryd.prog Tryd.f8 false true false false) := by
  obtain ⟨places, hx⟩ := reads os enc
  refine law_laid (C := Tryd.checked) own started (by kernel_rfl) Tryd.func8 laid (fun t ht => by
      have h := List.all_eq_true.1 parOk t ht
      rw [Bool.and_eq_true] at h
      exact ⟨h.1, of_decide_eq_true h.2⟩) rfl Tryd.underlying4 rfl
    (fun xs hx => by
      rw [show Tryd.f8.params.toList.length = 1 from by rw [Tryd.params8]; rfl] at hx
      match xs, hx with
      | [d0], _ => rfl)
    (witness_row_atRef (enc := enc) (C := Tryd.checked) false (World.doorLaid Tryd.prog 400 os) #[.string ⟨#[]⟩] rfl (by kernel_rfl) (by kernel_rfl) (by kernel_rfl)
      (OpenSpec.preRow_of_cond 8 hx (by kernel_rfl) (fun k hk => by cases hk) (by kernel_rfl) (laid_met os))) ?_
  intro W base args ds p hval0 hA0 _ hL
  rw [MakeChecks.laidMetH_plain _ _ _ (by kernel_rfl)] at hL
  have F0 := ascii hL (by repeat (first | exact List.Mem.head _ | apply List.Mem.tail))
  have hval : ∀ (j : Nat) t v, Tryd.f8.params[j]? = some t → args[j]? = some v → Value.okWide Tryd.prog W .any base t v := hval0
  have hA : DataW.TrodAll enc Tryd.prog W 0 (fun _ => true) true Tryd.f8.params.toList args.toList ds p := hA0
  clear hA0 hval0
  rw [Tryd.params8] at hA hval
  obtain ⟨v0, vs0, d0, ds0, p0, q0, hargs, rfl, rfl, h0, r0⟩ := trodAll_cons hA
  obtain ⟨rfl, rfl, rfl⟩ := trodAll_nil r0
  obtain rfl : args = #[v0] := by cases args; simp_all
  obtain ⟨a0, rfl, rfl, _, x0⟩ := open_string Tryd.underlying9 (hval 0 9 _ rfl rfl) h0
  exact walk a0 W (by unfold maxLen at x0; exact x0) F0
theorem said : Rows.FnExactSplitFieldsSaid :=
  OpenClaim.holds_of_cond 8 Tryd.f8 rfl rfl rfl rfl rfl rfl rfl ⟨rfl, rfl, rfl, rfl, rfl⟩ rfl rfl rfl rfl rfl (by kernel_rfl) Tryd.func8 (by kernel_rfl)
    (of_decide_eq_true (by kernel_rfl)) (by unfold Func.isWrapper; first | (rw [if_pos (by decide +kernel)]; kernel_rfl) | (rw [if_neg (by decide +kernel)]; exact ⟨rfl, rfl⟩))
    (fun os started H enc _ F => by rw [OpenClaim.pre_eq_preRow]; exact lifted os started H enc F)
theorem plain (f : FuncId) (fn : Func) (hf : Tryd.pinned.checked.prog.funcNamed Rows.fnExactSplitFieldsRow.func = some f) (hfn : Tryd.pinned.checked.prog.funcs[f]? = some fn) :
    false = Tryd.pinned.checked.prog.looks [] ∧ ∀ (j : Nat) t, fn.params[j]? = some t → Tryd.pinned.checked.prog.wantsStandIn t = false := by
  obtain rfl : f = 8 := Option.some.inj ((show Tryd.prog.funcNamed Rows.fnExactSplitFieldsRow.func = some 8 by kernel_rfl).symm.trans hf) |>.symm
  obtain rfl : fn = Tryd.f8 := (Option.some.inj (Tryd.func8.symm.trans hfn)).symm
  refine ⟨by kernel_rfl, fun j t ht => ?_⟩
  have hw : Tryd.f8.params.toList.all (fun t => Tryd.prog.wantsStandIn t == false) = true := by kernel_rfl
  have := List.all_eq_true.1 hw t (by simpa using Array.mem_of_getElem? ht)
  exact (show Tryd.prog.wantsStandIn t = false by simpa using this)
/-- The statement: the tied card. -/
theorem proved : Rows.FnExactSplitFieldsCardSaid :=
  Claim7.holds_tied_plain_at .later [] _ _ _ _ said (fun _ h => by cases h) (by kernel_rfl) (fun _ h => by cases h) fnExactSplitFields_row_tie rfl ⟨rfl, rfl⟩ (by kernel_rfl) rfl plain (by kernel_rfl)
#print axioms proved
end Go.Proofs.YtafjichhahbihaaDoor.fnExactSplitFields
