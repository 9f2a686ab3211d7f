/-
  For every input the Go function 'laws.FnExactShareOut' returns true, and each argument reads afterwards as it read before. No further condition.
-/
import Derived.Test.YtafjichhahbihabShareO
import Derived.Test.YtafjichhahbihabLift
import Derived.Test.YtafjichhahbihabOpen
import Derived.ChangeMaps5
namespace Go.Proofs.Ytafjichhahbihab.fnExactShareOut
open Go.Proofs.Ytafjichhahbihab.C1 Go.Proofs.Ytafjichhahbihab.Lift Go.Proofs.Ytafjichhahbihab.Opened
open Go.ChangeShapes Go.WideShapes Go.ChangeAt Go.RowKit Go.ChangeMaps
set_option linter.unusedVariables false

set_option maxHeartbeats 2000000 in
theorem walk (total : Int) (A : Option Addr) (n cap : Nat) (W : Nat → Int) (w : World) (ht : (Lit.int .i64 total).wf = true) (hn : n ≤ 9223372036854775807)
    (hp0 : 0 < n → ∃ ad, A = some ad ∧ ∀ i, i < n → w.cell? (ad.add i) = some (.int .i64 (W i)) ∧ (Lit.int .i64 (W i)).wf = true) :
    Calls Try.prog 11 #[.int .i64 total, .slice A n cap] w fun e w' => e = .returned (.bool true) ∧ Below w.heap.size w w' := by
  have HP := Lib.hid (src_int hp0)
  clear ht hp0
  by_cases hbig : 1048576 < n
  · go_enter Try.func11, Try.ntmps11
    go_wp2
    go_ret
    exact ⟨rfl, Below.refl _ _⟩
  have hs : n ≤ 1048576 := by omega
  have hm := outN_le total n W
  have HK : ∃ K : Nat, K ≤ 1048577 ∧ K = 1 + n := ⟨_, by omega, rfl⟩
  clear hbig HK
  go_enter Try.func11, Try.ntmps11
  go_wp2_with fail
  refine (toIntS _ _ _ _ hs W HP.out).mono ?_
  rintro e w1 ⟨rfl, hb1, hr1⟩
  have HB1 := Lib.hid hb1
  have HS1 := Lib.hid (SrcG.of_row hr1)
  clear hb1 hr1
  go_wp2_with fail
  refine (out_spec _ _ _ _ W _ hs HS1.out).mono ?_
  rintro e w2 ⟨⟨A2, c2, g2, rfl, hr2, hg2, hl2⟩, hb2⟩
  have HB2 := Lib.hid (HB1.out.trans (hb2.mono HB1.out.size))
  have HR2 := Lib.hid hr2
  have HL2 := Lib.hid hl2
  clear hb2 hr2 hl2
  go_wp2_with fail
  refine (toIntS _ _ _ _ hs W (HP.out.below HB2.out)).mono ?_
  rintro e w3 ⟨rfl, hb3, hr3⟩
  have HX := Lib.hid (RowI.of_row hr3)
  have HR2a := Lib.hid (HR2.out.below hb3)
  have HB3 := Lib.hid (HB2.out.trans (hb3.mono HB2.out.size))
  have HL3 := Lib.hid hr3.lt
  have h23 := HB2.out.size
  have HM3 := Lib.hid hb3.size
  clear hb3 hr3
  go_wp2_with fail
  refine (out_impl _ _ _ _ W _ hs (SrcG.of_rowI HX.out.1)).mono ?_
  rintro e w4 ⟨⟨A4, c4, g4, rfl, hr4, hf4, hg4, hl4⟩, hb4⟩
  have HR4 := Lib.hid hr4
  have HF4 := Lib.hid hf4
  have HL4 := Lib.hid hl4
  have HX4 := Lib.hid (And.intro (HX.out.1.below hb4) (HX.out.2.below (fun _ => HL3.out) hb4))
  have HR2b := Lib.hid (HR2a.out.below hb4)
  have HB4 := Lib.hid (HB3.out.trans (hb4.mono HB3.out.size))
  clear hb4 hr4 hf4 hl4
  go_wp2_with fail
  refine (eqIntS _ _ _ _ _ _ _ _ (by omega) _ HR4.out HR2b.out).mono ?_
  rintro e w5 ⟨rfl, hb5⟩
  have HG := Lib.hid (show w.heap.size ≤ g4 ∧ w2.heap.size < g4 ∧ (0 < outN total n W → g2 < w2.heap.size) by
    have := HB3.out.size
    have := HL3.out
    exact ⟨by omega, by omega, HL2.out⟩)
  have HR4a := Lib.hid (HR4.out.below hb5)
  have HF4a := Lib.hid (HF4.out.below HL4.out hb5)
  have HX5 := Lib.hid (And.intro (HX4.out.1.below hb5) (HX4.out.2.below (fun h => HX4.out.1.lt h) hb5))
  have HR2c := Lib.hid (HR2b.out.below hb5)
  have HB5 := Lib.hid (HB4.out.trans (hb5.mono HB4.out.size))
  clear hb5
  go_wp2_with fail
  refine (toIntS _ _ _ _ hs W (HP.out.below HB5.out)).mono ?_
  rintro e w6 ⟨rfl, hb6, hr6⟩
  have HY := Lib.hid (RowI.of_row hr6).1
  have HR4b := Lib.hid (HR4a.out.below hb6)
  have HF4b := Lib.hid (HF4a.out.below (fun h => HR4a.out.lt h) hb6)
  have HX6 := Lib.hid (And.intro (HX5.out.1.below hb6) (HX5.out.2.below (fun h => HX5.out.1.lt h) hb6))
  have HR2d := Lib.hid (HR2c.out.below hb6)
  have HB6 := Lib.hid (HB5.out.trans (hb6.mono HB5.out.size))
  clear hb6 hr6
  go_wp2_with fail
  refine (eqIntS _ _ _ _ _ _ _ _ hs _ HX6.out.1 HY.out).mono ?_
  rintro e w7 ⟨rfl, hb7⟩
  have HR4c := Lib.hid (HR4b.out.below hb7)
  have HF4c := Lib.hid (HF4b.out.below (fun h => HR4b.out.lt h) hb7)
  have HX7 := Lib.hid (And.intro (HX6.out.1.below hb7) (HX6.out.2.below (fun h => HX6.out.1.lt h) hb7))
  have HR2e := Lib.hid (HR2d.out.below hb7)
  have HB7 := Lib.hid (HB6.out.trans (hb7.mono HB6.out.size))
  clear hb7
  go_wp2_with fail
  refine (markIntS _ _ _ _ 1 _ _ hs (by omega) HX7.out.1 HX7.out.2).mono ?_
  rintro e w8 ⟨rfl, _, _, hg8⟩
  have HR4d := Lib.hid (HR4c.out.other hg8 (fun _ => by have := HG.out.2.1; omega))
  have HF4d := Lib.hid (HF4c.out.other (fun h => HR4c.out.lt h) hg8 (fun _ => by have := HG.out.2.1; omega))
  have HR2f := Lib.hid (HR2e.out.other hg8 (fun h => by have := HG.out.2.2 h; omega))
  have HB8 := Lib.hid (HB7.out.grown hg8 HB7.out.size (fun k hk => by injection hk with hk; omega))
  clear hg8
  go_wp2_with fail
  refine (eqIntS _ _ _ _ _ _ _ _ (by omega) _ HR4d.out HR2f.out).mono ?_
  rintro e w9 ⟨rfl, hb9⟩
  have HR4e := Lib.hid (HR4d.out.below hb9)
  have HF4e := Lib.hid (HF4d.out.below (fun h => HR4d.out.lt h) hb9)
  have HR2g := Lib.hid (HR2f.out.below hb9)
  have HB9 := Lib.hid (HB8.out.trans (hb9.mono HB8.out.size))
  clear hb9
  go_wp2_with fail
  refine (markIntS _ _ _ _ 1 _ _ (by omega) (by omega) HR4e.out HF4e.out).mono ?_
  rintro e w10 ⟨rfl, hr10, _, hg10⟩
  have HM := Lib.hid hr10
  have HR2h := Lib.hid (HR2g.out.other hg10 (fun h => by have := HG.out.2.2 h; have := HG.out.2.1; omega))
  have HB10 := Lib.hid (HB9.out.grown hg10 HB9.out.size (fun k hk => by injection hk with hk; have := HG.out.1; omega))
  clear hr10 hg10
  go_wp2_with fail
  refine (heldIntS _ _ _ _ 1 _ (by omega) (by omega) HM.out).mono ?_
  rintro e w11 ⟨rfl, hb11⟩
  have HMa := Lib.hid (HM.out.below hb11)
  have HR2i := Lib.hid (HR2h.out.below hb11)
  have HB11 := Lib.hid (HB10.out.trans (hb11.mono HB10.out.size))
  clear hb11
  go_wp2_with fail
  refine (toIntS _ _ _ _ hs W (HP.out.below HB11.out)).mono ?_
  rintro e w12 ⟨rfl, hb12, hr12⟩
  have HZ := Lib.hid (RowI.of_row hr12).1
  have HMb := Lib.hid (HMa.out.below hb12)
  have HR2j := Lib.hid (HR2i.out.below hb12)
  have HB12 := Lib.hid (HB11.out.trans (hb12.mono HB11.out.size))
  clear hb12 hr12
  go_wp2_with fail
  refine (out_impl _ _ _ _ W _ hs (SrcG.of_rowI HZ.out)).mono ?_
  rintro e w13 ⟨⟨A13, c13, g13, rfl, hr13, _, _, _⟩, hb13⟩
  have HR13 := Lib.hid hr13
  have HMc := Lib.hid (HMb.out.below hb13)
  have HR2k := Lib.hid (HR2j.out.below hb13)
  have HB13 := Lib.hid (HB12.out.trans (hb13.mono HB12.out.size))
  clear hb13 hr13
  go_wp2_with fail
  refine (eqIntS _ _ _ _ _ _ _ _ (by omega) _ HR13.out HR2k.out).mono ?_
  rintro e w14 ⟨rfl, hb14⟩
  have HMd := Lib.hid (HMc.out.below hb14)
  have HB14 := Lib.hid (HB13.out.trans (hb14.mono HB13.out.size))
  clear hb14
  go_wp2_with fail
  refine (heldIntS _ _ _ _ 1 _ (by omega) (by omega) HMd.out).mono ?_
  rintro e w15 ⟨rfl, hb15⟩
  have HB15 := Lib.hid (HB14.out.trans (hb15.mono HB14.out.size))
  clear hb15
  go_wp2
  go_ret
  exact ⟨rfl, HB15.out⟩

theorem own : ownKnob Try.prog.godebug = none := by kernel_rfl
theorem laid : laidOutB Try.prog = true := by kernel_rfl
theorem parOk : Try.f11.params.toList.all (fun t => Try.prog.readableRec t && decide (t < Try.prog.types.size)) = true := by kernel_rfl
set_option maxRecDepth 100000 in
theorem lifted (os : Os) (started : os.Started) (H : Type) (enc : TypeId × Value → H) :
    ReturnsInHanded {} Try.checked os 11 .any (Rows.fnExactShareOutSpec.pre6 enc Try.prog Try.f11 Rows.fnExactShareOutRow.domain false) (Rows.fnExactShareOutSpec.post enc Try.prog Try.f11 false true false false) := by
  refine law_lifted (C := Try.checked) own started (by kernel_rfl) Try.func11 laid (fun t ht => by
      have h := List.all_eq_true.1 parOk t ht
      rw [Bool.and_eq_true] at h
      exact ⟨h.1, of_decide_eq_true h.2⟩) rfl Try.underlying4 rfl
    (fun xs hx => by
      rw [show Try.f11.params.toList.length = 2 from by rw [Try.params11]; rfl] at hx
      match xs, hx with
      | [d0, d1], _ => rfl)
    (ChangeSpec.witness6 (enc := enc) (C := Try.checked) false ⟨#[], #[.int .i64 0, .slice none 0 0], []⟩ 8 (by kernel_rfl) (by kernel_rfl) (by kernel_rfl) (by kernel_rfl)) ?_
  intro W base args ds p hval0 hA0 _
  have hval : ∀ (j : Nat) t v, Try.f11.params[j]? = some t → args[j]? = some v → Value.okWide Try.prog W .any base t v := hval0
  have hA : DataW.TrodAll enc Try.prog W 0 (fun _ => true) true Try.f11.params.toList args.toList ds p := hA0
  clear hA0 hval0
  rw [Try.params11] at hA hval
  obtain ⟨v0, vs0, d0, ds0, p0, q0, hargs, rfl, rfl, h0, r0⟩ := trodAll_cons hA
  obtain ⟨v1, vs1, d1, ds1, p1, q1, rfl, rfl, rfl, h1, r1⟩ := trodAll_cons r0
  obtain ⟨rfl, rfl, rfl⟩ := trodAll_nil r1
  obtain rfl : args = #[v0, v1] := by cases args; simp_all
  obtain ⟨a0, rfl, rfl, _, x0⟩ := open_int Try.underlying3 (hval 0 3 _ rfl rfl) h0
  obtain ⟨A1, n1, c1, f1, rfl, x1, y1⟩ := slice_int Try.underlying41 (by kernel_rfl) Try.underlying3 (hval 1 41 _ rfl rfl) h1
  exact walk a0 A1 n1 c1 f1 W x0 x1 y1

/-- The statement. -/
theorem proved : Rows.FnExactShareOutSaid :=
  OpenClaim.holds_of_wide 11 Try.f11 rfl rfl rfl rfl rfl rfl rfl ⟨rfl, rfl, rfl, rfl, rfl⟩ rfl rfl rfl rfl rfl (by kernel_rfl) Try.func11 (by kernel_rfl)
    (of_decide_eq_true (by kernel_rfl)) (by unfold Func.isWrapper; first | (rw [if_pos (by decide +kernel)]; kernel_rfl) | (rw [if_neg (by decide +kernel)]; exact ⟨rfl, rfl⟩))
    (fun os started H enc _ => lifted os started H enc)
#print axioms proved
end Go.Proofs.Ytafjichhahbihab.fnExactShareOut
