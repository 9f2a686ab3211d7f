/-
  For every input the Go function 'laws.FnSettled' returns true, and each argument reads afterwards as it read before. No further condition.
-/
import Derived.Test.YtclofbknbfmmlaaDoorDBs
import Derived.Test.YtclofbknbfmmlaaDoorStl
import Derived.Test.YtclofbknbfmmlaaDoorPost
import Derived.Test.YtclofbknbfmmlaaDoorDrawS
import Derived.Test.YtclofbknbfmmlaaDoorLift
import Derived.Test.YtclofbknbfmmlaaDoorOpen
import Derived.Test.YtclofbknbfmmlaaDoorLaid
import Derived.Test.YtclofbknbfmmlaaDoorLaidV
import Derived.ChangeMaps5
namespace Go.Proofs.YtclofbknbfmmlaaDoor.fnSettled
open Go.Proofs.YtclofbknbfmmlaaDoor.C1 Go.Proofs.YtclofbknbfmmlaaDoor.Lift Go.Proofs.YtclofbknbfmmlaaDoor.Opened
open Go.ChangeShapes Go.WideShapes Go.ChangeAt Go.RowKit Go.ChangeMaps
set_option linter.unusedVariables false

set_option maxRecDepth 100000 in
set_option maxHeartbeats 4000000 in
theorem walk (A : Option Addr) (n cap : Nat) (f : Nat → Int) (w : World) (hn : n ≤ 9223372036854775807) (hs : SrcB w A n f) (hE0 : ErrR w) :
    Calls Tryd.prog 4 #[.slice A n cap] w fun e w' => e = .returned (.bool true) ∧ Below w.heap.size w w' := by
  by_cases hbig : 1048576 < n
  · go_enter Tryd.func4, Tryd.ntmps4
    go_wp2_with (go_at_call 9; refine (big_yes _ _ _ _ hbig).mono ?_; rintro e w' ⟨rfl, rfl⟩)
    go_ret
    exact ⟨rfl, Below.refl _ _⟩
  have hl : n ≤ 1048576 := by omega
  have HS := vl hs
  have HE := vl hE0
  clear hs hbig hE0
  go_enter Tryd.func4, Tryd.ntmps4
  go_wp2_with fail
  refine (big_no _ _ _ _ hl).mono ?_; rintro e w' ⟨rfl, rfl⟩
  go_wp2_with fail
  refine (drawbookS _ _ _ f _ hl HS.out).mono ?_
  rintro e w1 ⟨⟨A1, c1, g1, L, rfl, hA, hL, hr, _, _⟩, hb1⟩
  obtain ⟨b12, few, pb, pl, b12', hz⟩ := settled hA hL
  have HR1 := vl hr
  have HB1 := vl hb1
  have B12 := vl b12
  have PB := vl pb
  have PL := vl pl
  have B12' := vl b12'
  have HZ := vl hz
  clear hr hb1 hA b12 pb pl b12' hz
  go_wp2_with fail
  refine (bal_impl _ _ L _ (by omega) HR1.out.ens).mono ?_
  rintro e w2 ⟨⟨A2, c2, g2, rfl, hr2, _, _, _⟩, hb2⟩
  rw [B12.out] at hr2 ⊢
  have HI2 := vl (show SrcG w2 A2 12 (fun i => bal L (i : Int)) from fun hn => ⟨g2, hr2.1 hn, hr2.2⟩)
  have HR2 := vl (HR1.out.below hb2)
  have HB2 := vl (HB1.out.trans (hb2.mono HB1.out.size))
  clear hr2 hb2 HR1 HB1
  go_wp2_with fail
  refine (settle_impl _ 12 _ (fun i => bal L (i : Int)) 50 _ (by omega) HI2.out).mono ?_
  rintro e w3 ⟨⟨A3, c3, g3, rfl, hr3, _, _, _⟩, hb3⟩
  obtain ⟨S, hS⟩ : ∃ S, S = settleL 12 (fun i => bal L (i : Int)) 50 := ⟨_, rfl⟩
  rw [← hS] at hr3 few PB PL B12' HZ ⊢
  clear hS
  have HR3 := vl (HR2.out.below hb3)
  have HS3 := vl hr3
  have HB3 := vl (HB2.out.trans (hb3.mono HB2.out.size))
  clear hr3 hb3 HR2 HB2 HI2
  go_wp2_with fail
  refine (post_impl _ _ _ _ L S _ (by omega) (by omega) HR3.out.ens HS3.out.ens (HE.out.below HB3.out)).mono ?_
  rintro e w4 ⟨⟨A4, c4, g4, rfl, hr4, _, _, _⟩, hb4⟩
  rw [PB.out]
  rw [PL.out] at hr4 ⊢
  have hml : (L ++ S).length ≤ 1048576 := by rw [List.length_append]; omega
  clear PL PB
  generalize L ++ S = M at hr4 hml B12' HZ ⊢
  have HR4 := vl hr4
  have HB4 := vl (HB3.out.trans (hb4.mono HB3.out.size))
  clear hr4 hb4 HR3 HS3 HB3
  go_wp2_with fail
  refine (bal_impl _ _ M _ hml HR4.out.ens).mono ?_
  rintro e w5 ⟨⟨A5, c5, g5, rfl, hr5, _, _, _⟩, hb5⟩
  rw [B12'.out] at hr5 ⊢
  have HI5 := vl hr5
  have HB5 := vl (HB4.out.trans (hb5.mono HB4.out.size))
  clear hr5 hb5 HR4 HB4
  obtain rfl := HI5.out.1 (by decide)
  go_wp2
  go_loopw [9] (fun i wr => ∃ k : Nat, k ≤ 12 ∧ i = .int .i64 k ∧ wr = w5) (fun i _ => 12 - (intOf i).toNat)
  case atStart => exact ⟨0, by omega, rfl, rfl⟩
  case round =>
    obtain ⟨k, hk, rfl, rfl⟩ := hrel
    by_cases hlt : k < 12
    · have c0 := HI5.out.2 k hlt
      have z0 := HZ.out k hlt
      have c1 : wr.cell? ⟨g5, k, none⟩ = some (.int .i64 0) := by rw [← z0]; exact c0
      clear c0 z0
      go_wp2
      go_roundw
      case rel => exact ⟨k + 1, by omega, by go_num, trivial⟩
      case measure => simp [intOf]; omega
    · obtain rfl : k = 12 := by omega
      go_wp2
      go_ret
      exact ⟨rfl, HB5.out⟩

theorem parOk : Tryd.f4.params.toList.all (fun t => Tryd.prog.readableRec t && decide (t < Tryd.prog.types.size)) = true := by kernel_rfl
theorem laid_met (os : Os) : laidMetH Tryd.prog Rows.fnSettledRow.laid ((World.doorLaid Tryd.prog 400 os).forCall (fun _ _ => 0) ⟨#[], #[.slice none 0 0], []⟩).memory :=
  laidMetH_of_parts3 (fuel := 8) (laidMet_of_run' 8 (by kernel_rfl) (by kernel_rfl)) (by kernel_rfl) (by kernel_rfl)
theorem reads (os : Os) {H : Type} (enc : TypeId × Value → H) : ∃ x, DataW.whole enc Tryd.prog ((World.doorLaid Tryd.prog 400 os).forCall (fun _ _ => 0) ⟨#[], #[.slice none 0 0], []⟩).memory Tryd.f4.params.toList Rows.fnSettledSpec.vars false #[.slice none 0 0].toList 8 = some x :=
  Option.isSome_iff_exists.1 (by kernel_rfl)
set_option maxRecDepth 100000 in
theorem lifted (os : Os) (started : os.Started) (H : Type) (enc : TypeId × Value → H) (F : Stop.Interp) :
    ReturnsInHanded {} Tryd.checked os 4 .any ((OpenSpec.ofChange Rows.fnSettledSpec).preRow enc Tryd.prog Tryd.f4 Rows.fnSettledRow.domain false Rows.fnSettledRow.laid) (((OpenSpec.ofChange Rows.fnSettledSpec).at F).post enc Tryd.prog Tryd.f4 false true false false) := by
  obtain ⟨places, hx⟩ := reads os enc
  refine law_laidV (C := Tryd.checked) (nm := "loop.example/g03317/impl.errRefused") (g := 0) (t := 75) (by kernel_rfl) (by kernel_rfl) Tryd.underlying75 own started (by kernel_rfl) Tryd.func4 laid (fun t ht => by
      have h := List.all_eq_true.1 parOk t ht
      rw [Bool.and_eq_true] at h
      exact ⟨h.1, of_decide_eq_true h.2⟩) rfl Tryd.underlying4 rfl
    (fun xs y hx => by
      rw [show Tryd.f4.params.toList.length = 1 from by rw [Tryd.params4]; rfl] at hx
      match xs, hx with
      | [d0], _ => rfl)
    (witness_row_atRef (enc := enc) (C := Tryd.checked) false (World.doorLaid Tryd.prog 400 os) #[.slice none 0 0] rfl (by kernel_rfl) (by kernel_rfl) (by kernel_rfl)
      (OpenSpec.preRow_of_cond 8 hx (by kernel_rfl) (fun k hk => by cases hk) (by kernel_rfl) (laid_met os))) ?_
  intro W base args ds p hval0 hA0 _ hL
  rw [MakeChecks.laidMetH_plain _ _ _ (by kernel_rfl)] at hL
  have F0 := errR hL (by repeat (first | exact List.Mem.head _ | apply List.Mem.tail))
  have hval : ∀ (j : Nat) t v, Tryd.f4.params[j]? = some t → args[j]? = some v → Value.okWide Tryd.prog W .any base t v := hval0
  have hA : DataW.TrodAll enc Tryd.prog W 0 (fun _ => true) true Tryd.f4.params.toList args.toList ds p := hA0
  clear hA0 hval0
  rw [Tryd.params4] at hA hval
  obtain ⟨v0, vs0, d0, ds0, p0, q0, hargs, rfl, rfl, h0, r0⟩ := trodAll_cons hA
  obtain ⟨rfl, rfl, rfl⟩ := trodAll_nil r0
  obtain rfl : args = #[v0] := by cases args; simp_all
  obtain ⟨A0, n0, c0, f0, rfl, x0, y0⟩ := slice_bytes Tryd.underlying22 (by kernel_rfl) Tryd.underlying5 (hval 0 22 _ rfl rfl) h0
  exact walk A0 n0 c0 f0 W x0 y0 F0
theorem said : Rows.FnSettledSaid :=
  OpenClaim.holds_of_cond 4 Tryd.f4 rfl rfl rfl rfl rfl rfl rfl ⟨rfl, rfl, rfl, rfl, rfl⟩ rfl rfl rfl rfl rfl (by kernel_rfl) Tryd.func4 (by kernel_rfl)
    (of_decide_eq_true (by kernel_rfl)) (by unfold Func.isWrapper; first | (rw [if_pos (by decide +kernel)]; kernel_rfl) | (rw [if_neg (by decide +kernel)]; exact ⟨rfl, rfl⟩))
    (fun os started H enc _ F => by rw [OpenClaim.pre_eq_preRow]; exact lifted os started H enc F)
theorem plain (f : FuncId) (fn : Func) (hf : Tryd.pinned.checked.prog.funcNamed Rows.fnSettledRow.func = some f) (hfn : Tryd.pinned.checked.prog.funcs[f]? = some fn) :
    true = Tryd.pinned.checked.prog.looks [] ∧ ∀ (j : Nat) t, fn.params[j]? = some t → Tryd.pinned.checked.prog.wantsStandIn t = false := by
  obtain rfl : f = 4 := Option.some.inj ((show Tryd.prog.funcNamed Rows.fnSettledRow.func = some 4 by kernel_rfl).symm.trans hf) |>.symm
  obtain rfl : fn = Tryd.f4 := (Option.some.inj (Tryd.func4.symm.trans hfn)).symm
  refine ⟨by kernel_rfl, fun j t ht => ?_⟩
  have hw : Tryd.f4.params.toList.all (fun t => Tryd.prog.wantsStandIn t == false) = true := by kernel_rfl
  have := List.all_eq_true.1 hw t (by simpa using Array.mem_of_getElem? ht)
  exact (show Tryd.prog.wantsStandIn t = false by simpa using this)
/-- The statement: the tied card. -/
theorem proved : Rows.FnSettledCardSaid :=
  Claim7.holds_tied_plain_at .later [] _ _ _ _ said (fun _ h => by cases h) (by kernel_rfl) (fun _ h => by cases h) fnSettled_row_tie rfl ⟨rfl, rfl⟩ (by kernel_rfl) rfl plain (by kernel_rfl)
#print axioms proved
end Go.Proofs.YtclofbknbfmmlaaDoor.fnSettled
