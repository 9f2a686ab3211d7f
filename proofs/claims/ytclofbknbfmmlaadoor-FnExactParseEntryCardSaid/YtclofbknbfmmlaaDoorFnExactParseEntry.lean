/-
  For every input the Go function 'laws.FnExactParseEntry' returns true, and each argument reads afterwards as it read before. No further condition.
-/
import Derived.Test.YtclofbknbfmmlaaDoorPaI
import Derived.Test.YtclofbknbfmmlaaDoorLift
import Derived.Test.YtclofbknbfmmlaaDoorOpen
import Derived.Test.YtclofbknbfmmlaaDoorLaid
import Derived.ChangeMaps5
namespace Go.Proofs.YtclofbknbfmmlaaDoor.fnExactParseEntry
open Go.Proofs.YtclofbknbfmmlaaDoor.C1 Go.Proofs.YtclofbknbfmmlaaDoor.Lift Go.Proofs.YtclofbknbfmmlaaDoor.Opened
open Go.ChangeShapes Go.WideShapes Go.ChangeAt Go.RowKit Go.ChangeMaps
set_option linter.unusedVariables false

theorem parV_parts (l : List UInt8) : ∃ (b : En) (ok : Bool), parV l = .tuple #[.agg #[.int .i64 b.f, .int .i64 b.t, .int .i64 b.a, .int .i64 b.m, .int .i64 b.y], .bool ok] := ⟨(parE l).1, (parE l).2, rfl⟩
set_option maxHeartbeats 2000000 in
theorem walk (s : ByteArray) (w : World) (hs : s.size ≤ 9223372036854775807) (ht : Pow10 w) (ha : Ascii w) :
    Calls Tryd.prog 8 #[.string s] w fun e w' => e = .returned (.bool true) ∧ Below w.heap.size w w' := by
  have HT := vl ht
  have HA := vl ha
  clear ht ha
  by_cases hbig : 1048576 < s.size
  · go_enter Tryd.func8, Tryd.ntmps8
    go_wp2
    go_ret
    exact ⟨rfl, Below.refl _ _⟩
  have hl : s.size ≤ 1048576 := by omega
  clear hbig
  obtain ⟨b, ok, hb0⟩ := parV_parts s.data.toList
  have HR := vl hb0
  clear hb0
  go_enter Tryd.func8, Tryd.ntmps8
  go_wp2_with fail
  refine (pare_spec s _ hl).mono ?_
  rintro e w1 ⟨rfl, hb1⟩
  rw [HR.out]
  have HX1 := vl (BxE.new w1 b 36)
  have hba := (Below.refl w1.heap.size w1).alloc (Nat.le_refl _) (.cells #[.int .i64 b.f, .int .i64 b.t, .int .i64 b.a, .int .i64 b.m, .int .i64 b.y] 36)
  have HB1 := vl (hb1.trans (hba.mono hb1.size))
  clear hb1 hba
  go_wp2_with fail
  generalize hW1 : w1.alloc (.cells #[.int .i64 b.f, .int .i64 b.t, .int .i64 b.a, .int .i64 b.m, .int .i64 b.y] 36) = u1 at HX1 HB1 ⊢
  clear hW1
  refine (pare_impl s _ hl (HT.out.below HB1.out) (HA.out.below HB1.out)).mono ?_
  rintro e w2 ⟨rfl, hb2⟩
  rw [HR.out]
  have HB2 := vl (HB1.out.trans (hb2.mono HB1.out.size))
  have hba := (Below.refl w2.heap.size w2).alloc (Nat.le_refl _) (.cells #[.int .i64 b.f, .int .i64 b.t, .int .i64 b.a, .int .i64 b.m, .int .i64 b.y] 36)
  have HX2 := vl ((HX1.out.below hb2).below hba)
  have HY2 := vl (BxE.new w2 b 36)
  have HB3 := vl (HB2.out.trans (hba.mono HB2.out.size))
  clear hb2 hba HB1 HX1 HB2
  obtain ⟨x0, x1, x2, x3, x4⟩ := HX2.out
  obtain ⟨y0, y1, y2, y3, y4⟩ := HY2.out
  go_wp2_with fail
  refine (eqEntry b _).mono ?_
  rintro e w3 ⟨rfl, hb3⟩
  have HB4 := vl (HB3.out.trans (hb3.mono HB3.out.size))
  clear hb3 x0 x1 x2 x3 x4 y0 y1 y2 y3 y4
  go_wp2
  go_ret
  exact ⟨rfl, HB4.out⟩

theorem parOk : Tryd.f8.params.toList.all (fun t => Tryd.prog.readableRec t && decide (t < Tryd.prog.types.size)) = true := by kernel_rfl
theorem laid_met (os : Os) : laidMetH Tryd.prog Rows.fnExactParseEntryRow.laid ((World.doorLaid Tryd.prog 400 os).forCall (fun _ _ => 0) ⟨#[], #[.string ⟨#[]⟩], []⟩).memory :=
  laidMetH_of_parts3 (fuel := 8) (laidMet_of_run' 8 (by kernel_rfl) (by kernel_rfl)) (by kernel_rfl) (by kernel_rfl)
theorem reads (os : Os) {H : Type} (enc : TypeId × Value → H) : ∃ places, DataW.whole enc Tryd.prog ((World.doorLaid Tryd.prog 400 os).forCall (fun _ _ => 0) ⟨#[], #[.string ⟨#[]⟩], []⟩).memory Tryd.f8.params.toList Rows.fnExactParseEntrySpec.vars false #[.string ⟨#[]⟩].toList 8 = some ([.lit (.string [])], [], places) :=
  ⟨[], by kernel_rfl⟩
set_option maxRecDepth 100000 in
theorem lifted (os : Os) (started : os.Started) (H : Type) (enc : TypeId × Value → H) (F : Stop.Interp) :
    ReturnsInHanded {} Tryd.checked os 8 .any ((OpenSpec.ofChange Rows.fnExactParseEntrySpec).preRow enc Tryd.prog Tryd.f8 Rows.fnExactParseEntryRow.domain false Rows.fnExactParseEntryRow.laid) (((OpenSpec.ofChange Rows.fnExactParseEntrySpec).at F).post enc Tryd.prog Tryd.f8 false true false false) := by
  obtain ⟨places, hx⟩ := reads os enc
  refine law_laid (C := Tryd.checked) own started (by kernel_rfl) Tryd.func8 laid (fun t ht => by
      have h := List.all_eq_true.1 parOk t ht
      rw [Bool.and_eq_true] at h
      exact ⟨h.1, of_decide_eq_true h.2⟩) rfl Tryd.underlying4 rfl
    (fun xs hx => by
      rw [show Tryd.f8.params.toList.length = 1 from by rw [Tryd.params8]; rfl] at hx
      match xs, hx with
      | [d0], _ => rfl)
    (witness_row_atRef (enc := enc) (C := Tryd.checked) false (World.doorLaid Tryd.prog 400 os) #[.string ⟨#[]⟩] rfl (by kernel_rfl) (by kernel_rfl) (by kernel_rfl)
      (OpenSpec.preRow_of_cond 8 hx (by kernel_rfl) (fun k hk => by cases hk) (by kernel_rfl) (laid_met os))) ?_
  intro W base args ds p hval0 hA0 _ hL
  rw [MakeChecks.laidMetH_plain _ _ _ (by kernel_rfl)] at hL
  have F0 := pow10 hL (by repeat (first | exact List.Mem.head _ | apply List.Mem.tail))
  have F1 := ascii hL (by repeat (first | exact List.Mem.head _ | apply List.Mem.tail))
  have hval : ∀ (j : Nat) t v, Tryd.f8.params[j]? = some t → args[j]? = some v → Value.okWide Tryd.prog W .any base t v := hval0
  have hA : DataW.TrodAll enc Tryd.prog W 0 (fun _ => true) true Tryd.f8.params.toList args.toList ds p := hA0
  clear hA0 hval0
  rw [Tryd.params8] at hA hval
  obtain ⟨v0, vs0, d0, ds0, p0, q0, hargs, rfl, rfl, h0, r0⟩ := trodAll_cons hA
  obtain ⟨rfl, rfl, rfl⟩ := trodAll_nil r0
  obtain rfl : args = #[v0] := by cases args; simp_all
  obtain ⟨a0, rfl, rfl, _, x0⟩ := open_string Tryd.underlying9 (hval 0 9 _ rfl rfl) h0
  exact walk a0 W (by unfold maxLen at x0; exact x0) F0 F1
theorem said : Rows.FnExactParseEntrySaid :=
  OpenClaim.holds_of_cond 8 Tryd.f8 rfl rfl rfl rfl rfl rfl rfl ⟨rfl, rfl, rfl, rfl, rfl⟩ rfl rfl rfl rfl rfl (by kernel_rfl) Tryd.func8 (by kernel_rfl)
    (of_decide_eq_true (by kernel_rfl)) (by unfold Func.isWrapper; first | (rw [if_pos (by decide +kernel)]; kernel_rfl) | (rw [if_neg (by decide +kernel)]; exact ⟨rfl, rfl⟩))
    (fun os started H enc _ F => by rw [OpenClaim.pre_eq_preRow]; exact lifted os started H enc F)
theorem plain (f : FuncId) (fn : Func) (hf : Tryd.pinned.checked.prog.funcNamed Rows.fnExactParseEntryRow.func = some f) (hfn : Tryd.pinned.checked.prog.funcs[f]? = some fn) :
    true = Tryd.pinned.checked.prog.looks [] ∧ ∀ (j : Nat) t, fn.params[j]? = some t → Tryd.pinned.checked.prog.wantsStandIn t = false := by
  obtain rfl : f = 8 := Option.some.inj ((show Tryd.prog.funcNamed Rows.fnExactParseEntryRow.func = some 8 by kernel_rfl).symm.trans hf) |>.symm
  obtain rfl : fn = Tryd.f8 := (Option.some.inj (Tryd.func8.symm.trans hfn)).symm
  refine ⟨by kernel_rfl, fun j t ht => ?_⟩
  have hw : Tryd.f8.params.toList.all (fun t => Tryd.prog.wantsStandIn t == false) = true := by kernel_rfl
  have := List.all_eq_true.1 hw t (by simpa using Array.mem_of_getElem? ht)
  exact (show Tryd.prog.wantsStandIn t = false by simpa using this)
/-- The statement: the tied card. -/
theorem proved : Rows.FnExactParseEntryCardSaid :=
  Claim7.holds_tied_plain_at .later [] _ _ _ _ said (fun _ h => by cases h) (by kernel_rfl) (fun _ h => by cases h) fnExactParseEntry_row_tie rfl ⟨rfl, rfl⟩ (by kernel_rfl) rfl plain (by kernel_rfl)
#print axioms proved
end Go.Proofs.YtclofbknbfmmlaaDoor.fnExactParseEntry
