/-
  For every input the Go function 'laws.FnExactSettleUp' returns true, and each argument reads afterwards as it read before. No further condition.
-/
import Derived.Test.YtngmpimoebggdaaStlS
import Derived.Test.YtngmpimoebggdaaEnK
import Derived.Test.YtngmpimoebggdaaLift
import Derived.Test.YtngmpimoebggdaaIo
import Derived.Test.YtngmpimoebggdaaOpen
import Derived.ChangeMaps5
namespace Go.Proofs.Ytngmpimoebggdaa.fnExactSettleUp
open Go.Proofs.Ytngmpimoebggdaa.C1 Go.Proofs.Ytngmpimoebggdaa.Lift Go.Proofs.Ytngmpimoebggdaa.Opened
open Go.ChangeShapes Go.WideShapes Go.ChangeAt Go.RowKit Go.ChangeMaps
set_option linter.unusedVariables false

set_option linter.unusedSimpArgs false
set_option maxRecDepth 100000 in
set_option maxHeartbeats 4000000 in
theorem walk (A0 : Option Addr) (n0 c0 : Nat) (F0 : Nat → Int) (z1 : Int) (w : World) (hn0 : n0 ≤ 9223372036854775807) (hq0 : 0 < n0 → ∃ ad, A0 = some ad ∧ ∀ i, i < n0 → w.cell? (ad.add i) = some (.int .i64 (F0 i)) ∧ (Lit.int .i64 (F0 i)).wf = true) (_ : (Lit.int .i64 z1).wf = true) :
    Calls Try.prog 12 #[.slice A0 n0 c0, .int .i64 z1] w fun e w' => e = .returned (.bool true) ∧ Below w.heap.size w w' := by
  have hp0 := src_int hq0
  clear hq0
  have HP0 := vl hp0
  clear hp0
  by_cases hbig : 1048576 < n0
  · go_enter Try.func12, Try.ntmps12
    go_wp2
    go_ret
    exact ⟨rfl, Below.refl _ _⟩
  have hs0 : n0 ≤ 1048576 := by omega
  clear hbig
  go_enter Try.func12, Try.ntmps12
  have hN : (settleL n0 F0 z1).length ≤ 1048576 := (Nat.le_trans (settleL_le n0 F0 z1) (by decide))
  have HB0 := vl (Below.refl w.heap.size w)
  go_wp2_with fail
  refine (toIntS _ _ _ _ hs0 F0 (HP0.out.below HB0.out)).mono ?_
  rintro e w1 ⟨rfl, hb, hr⟩
  have HB1 := vl (HB0.out.trans (hb.mono HB0.out.size))
  have hk1 := hb.size
  clear hb
  have S0_1 := vl (RowI.of_row hr).1
  have SF0_1 := vl (RowI.of_row hr).2
  have Slt0 := hr.lt
  clear hr
  go_wp2_with fail
  refine (settle_spec _ n0 _ F0 z1 _ hs0 S0_1.out.srcG).mono ?_
  rintro e w2 ⟨⟨As, cs, gW, rfl, hr, hf, hg, hl⟩, hb⟩
  have HB2 := vl (HB1.out.trans (hb.mono HB1.out.size))
  have S0_2 := vl (S0_1.out.below hb)
  have SF0_2 := vl (SF0_1.out.below (fun _ => by omega) hb)
  have hk2 := hb.size
  clear S0_1 SF0_1
  clear hb
  have W_2 := vl hr
  have Wl : 0 < (settleL n0 F0 z1).length → gW < w2.heap.size := hl
  have Wg := hg
  clear hr hl hg hf
  clear S0_2 SF0_2
  go_wp2_with fail
  refine (toIntS _ _ _ _ hs0 F0 (HP0.out.below HB2.out)).mono ?_
  rintro e w3 ⟨rfl, hb, hr⟩
  have HB3 := vl (HB2.out.trans (hb.mono HB2.out.size))
  have W_3 := vl (W_2.out.below hb)
  have hk3 := hb.size
  clear W_2
  clear hb
  have X0_3 := vl (RowI.of_row hr).1
  have XF0_3 := vl (RowI.of_row hr).2
  have Xlt0 := hr.lt
  clear hr
  go_wp2_with fail
  refine (settle_impl _ n0 _ F0 z1 _ hs0 X0_3.out.srcG).mono ?_
  rintro e w4 ⟨⟨Ag, cg, gG, rfl, hr, hf, hg, hl⟩, hb⟩
  have HB4 := vl (HB3.out.trans (hb.mono HB3.out.size))
  have W_4 := vl (W_3.out.below hb)
  have X0_4 := vl (X0_3.out.below hb)
  have XF0_4 := vl (XF0_3.out.below (fun _ => by omega) hb)
  have hk4 := hb.size
  clear W_3 X0_3 XF0_3
  clear hb
  have G_4 := vl hr
  have GF_4 := vl hf
  have Gl : 0 < (settleL n0 F0 z1).length → gG < w4.heap.size := hl
  have Gg := hg
  clear hr hl hg hf
  go_wp2_with fail
  refine (eqEntryS _ _ _ _ (settleL n0 F0 z1) _ hN G_4.out.ens W_4.out.ens).mono ?_
  rintro e w5 ⟨rfl, hb⟩
  have HB5 := vl (HB4.out.trans (hb.mono HB4.out.size))
  have W_5 := vl (W_4.out.below hb)
  have X0_5 := vl (X0_4.out.below hb)
  have XF0_5 := vl (XF0_4.out.below (fun _ => by omega) hb)
  have G_5 := vl (G_4.out.below hb)
  have GF_5 := vl (GF_4.out.below (fun hn => by have := Gl (by omega); omega) hb)
  have hk5 := hb.size
  clear W_4 X0_4 XF0_4 G_4 GF_4
  clear hb
  go_wp2_with fail
  refine (toIntS _ _ _ _ hs0 F0 (HP0.out.below HB5.out)).mono ?_
  rintro e w6 ⟨rfl, hb, hr⟩
  have HB6 := vl (HB5.out.trans (hb.mono HB5.out.size))
  have W_6 := vl (W_5.out.below hb)
  have X0_6 := vl (X0_5.out.below hb)
  have XF0_6 := vl (XF0_5.out.below (fun _ => by omega) hb)
  have G_6 := vl (G_5.out.below hb)
  have GF_6 := vl (GF_5.out.below (fun hn => by have := Gl (by omega); omega) hb)
  have hk6 := hb.size
  clear W_5 X0_5 XF0_5 G_5 GF_5
  clear hb
  have Y0_6 := vl (RowI.of_row hr).1
  clear hr
  go_wp2_with fail
  refine (eqIntS _ _ _ _ _ _ _ _ hs0 F0 X0_6.out Y0_6.out).mono ?_
  rintro e w7 ⟨rfl, hb⟩
  have HB7 := vl (HB6.out.trans (hb.mono HB6.out.size))
  have W_7 := vl (W_6.out.below hb)
  have X0_7 := vl (X0_6.out.below hb)
  have XF0_7 := vl (XF0_6.out.below (fun _ => by omega) hb)
  have G_7 := vl (G_6.out.below hb)
  have GF_7 := vl (GF_6.out.below (fun hn => by have := Gl (by omega); omega) hb)
  have Y0_7 := vl (Y0_6.out.below hb)
  have hk7 := hb.size
  clear W_6 X0_6 XF0_6 G_6 GF_6 Y0_6
  clear hb
  clear Y0_7
  go_wp2_with fail
  refine (markI _ _ _ _ 1 F0 _ hs0 (by omega) X0_7.out XF0_7.out).mono ?_
  rintro e w8 ⟨rfl, _, _, ht0⟩
  have ht := ht0 (w2.heap.size) (w2.heap.size + 1) (fun _ => ⟨Nat.le_refl _, Nat.lt_succ_self _⟩)
  clear ht0
  have HB8 := vl (ht.below HB7.out (by omega))
  have hk8 := ht.size
  have W_8 := vl (ht.rowE W_7.out (fun hn => Or.inl (by have := Wl (by omega); omega)))
  have G_8 := vl (ht.rowE G_7.out (fun hn => Or.inr (by omega)))
  have GF_8 := vl (ht.free GF_7.out (fun hn => by have := Gl (by omega); omega) (fun hn => Or.inr (by omega)))
  clear ht W_7 G_7 GF_7 X0_7 XF0_7
  go_wp2_with fail
  refine (eqEntryS _ _ _ _ (settleL n0 F0 z1) _ hN G_8.out.ens W_8.out.ens).mono ?_
  rintro e w9 ⟨rfl, hb⟩
  have HB9 := vl (HB8.out.trans (hb.mono HB8.out.size))
  have W_9 := vl (W_8.out.below hb)
  have G_9 := vl (G_8.out.below hb)
  have GF_9 := vl (GF_8.out.below (fun hn => by have := Gl (by omega); omega) hb)
  have hk9 := hb.size
  clear W_8 G_8 GF_8
  clear hb
  go_wp2_with fail
  refine (markE _ _ _ 1 (settleL n0 F0 z1) _ hN (by omega) G_9.out GF_9.out).mono ?_
  rintro e w10 ⟨rfl, hr, _, ht0⟩
  have ht := ht0 (w3.heap.size) (gG + 1) (fun _ => ⟨by omega, Nat.lt_succ_self _⟩)
  clear ht0
  have HB10 := vl (ht.below HB9.out (by omega))
  have hk10 := ht.size
  have W_10 := vl (ht.rowE W_9.out (fun hn => Or.inl (by have := Wl (by omega); omega)))
  have G_10 := vl hr
  clear ht hr W_9 G_9 GF_9
  go_wp2_with fail
  refine (heldEntryS _ _ _ 1 _ _ hN (by omega) G_10.out).mono ?_
  rintro e w11 ⟨rfl, hbe⟩
  subst hbe
  have HB11 := HB10
  have W_11 := W_10
  have G_11 := G_10
  go_wp2_with fail
  refine (toIntS _ _ _ _ hs0 F0 (HP0.out.below HB11.out)).mono ?_
  rintro e w12 ⟨rfl, hb, hr⟩
  have HB12 := vl (HB11.out.trans (hb.mono HB11.out.size))
  have W_12 := vl (W_11.out.below hb)
  have G_12 := vl (G_11.out.below hb)
  have hk12 := hb.size
  clear W_11 G_11
  clear hb
  have V0_12 := vl (RowI.of_row hr).1
  have VF0_12 := vl (RowI.of_row hr).2
  have Vlt0 := hr.lt
  clear hr
  go_wp2_with fail
  refine (settle_impl _ n0 _ F0 z1 _ hs0 V0_12.out.srcG).mono ?_
  rintro e w13 ⟨⟨Ah, ch, gH, rfl, hr, hf, hg, hl⟩, hb⟩
  have HB13 := vl (HB12.out.trans (hb.mono HB12.out.size))
  have W_13 := vl (W_12.out.below hb)
  have G_13 := vl (G_12.out.below hb)
  have V0_13 := vl (V0_12.out.below hb)
  have VF0_13 := vl (VF0_12.out.below (fun _ => by omega) hb)
  have hk13 := hb.size
  clear W_12 G_12 V0_12 VF0_12
  clear hb
  have H_13 := vl hr
  have Hl : 0 < (settleL n0 F0 z1).length → gH < w13.heap.size := hl
  have Hg := hg
  clear hr hl hg hf
  go_wp2_with fail
  refine (eqEntryS _ _ _ _ (settleL n0 F0 z1) _ hN H_13.out.ens W_13.out.ens).mono ?_
  rintro e w14 ⟨rfl, hb⟩
  have HB14 := vl (HB13.out.trans (hb.mono HB13.out.size))
  have W_14 := vl (W_13.out.below hb)
  have G_14 := vl (G_13.out.below hb)
  have V0_14 := vl (V0_13.out.below hb)
  have VF0_14 := vl (VF0_13.out.below (fun _ => by omega) hb)
  have H_14 := vl (H_13.out.below hb)
  have hk14 := hb.size
  clear W_13 G_13 V0_13 VF0_13 H_13
  clear hb
  go_wp2_with fail
  refine (heldEntryS _ _ _ 1 _ _ hN (by omega) G_14.out).mono ?_
  rintro e w15 ⟨rfl, hbe⟩
  subst hbe
  have HB15 := HB14
  have W_15 := W_14
  have G_15 := G_14
  have V0_15 := V0_14
  have VF0_15 := VF0_14
  have H_15 := H_14
  go_wp2
  go_ret
  exact ⟨rfl, HB15.out⟩

theorem parOk : Try.f12.params.toList.all (fun t => Try.prog.readableRec t && decide (t < Try.prog.types.size)) = true := by kernel_rfl
set_option maxRecDepth 100000 in
theorem lifted (os : Os) (started : os.Started) (H : Type) (enc : TypeId × Value → H) :
    ReturnsInHanded {} Try.checked os 12 .any (Rows.fnExactSettleUpSpec.pre6 enc Try.prog Try.f12 Rows.fnExactSettleUpRow.domain false) (Rows.fnExactSettleUpSpec.post enc Try.prog Try.f12 false true false false) := by
  refine law_lifted (C := Try.checked) own started (by kernel_rfl) Try.func12 laid (fun t ht => by
      have h := List.all_eq_true.1 parOk t ht
      rw [Bool.and_eq_true] at h
      exact ⟨h.1, of_decide_eq_true h.2⟩) rfl Try.underlying4 rfl
    (fun xs hx => by
      rw [show Try.f12.params.toList.length = 2 from by rw [Try.params12]; rfl] at hx
      match xs, hx with
      | [d0, d1], _ => rfl)
    (ChangeSpec.witness6 (enc := enc) (C := Try.checked) false ⟨#[], #[.slice none 0 0, .int .i64 0], []⟩ 8 (by kernel_rfl) (by kernel_rfl) (by kernel_rfl) (by kernel_rfl)) ?_
  intro W base args ds p hval0 hA0 _
  have hval : ∀ (j : Nat) t v, Try.f12.params[j]? = some t → args[j]? = some v → Value.okWide Try.prog W .any base t v := hval0
  have hA : DataW.TrodAll enc Try.prog W 0 (fun _ => true) true Try.f12.params.toList args.toList ds p := hA0
  clear hA0 hval0
  rw [Try.params12] at hA hval
  obtain ⟨v0, vs0, d0, ds0, p0, q0, hargs, rfl, rfl, h0, r0⟩ := trodAll_cons hA
  obtain ⟨v1, vs1, d1, ds1, p1, q1, rfl, rfl, rfl, h1, r1⟩ := trodAll_cons r0
  obtain ⟨rfl, rfl, rfl⟩ := trodAll_nil r1
  obtain rfl : args = #[v0, v1] := by cases args; simp_all
  obtain ⟨A0, n0, c0, f0, rfl, x0, y0⟩ := slice_int Try.underlying47 (by kernel_rfl) Try.underlying3 (hval 0 47 _ rfl rfl) h0
  obtain ⟨a1, rfl, rfl, _, x1⟩ := open_int Try.underlying3 (hval 1 3 _ rfl rfl) h1
  exact walk A0 n0 c0 f0 a1 W x0 y0 x1

/-- The statement. -/
theorem proved : Rows.FnExactSettleUpSaid :=
  OpenClaim.holds_of_wide 12 Try.f12 rfl rfl rfl rfl rfl rfl rfl ⟨rfl, rfl, rfl, rfl, rfl⟩ rfl rfl rfl rfl rfl (by kernel_rfl) Try.func12 (by show joinedFacts Try.prog _ _ _ _ = true; unfold joinedFacts; rw [Io.mayEnter, Io.liftsFinal, Io.make]; kernel_rfl)
    (of_decide_eq_true (by kernel_rfl)) (by unfold Func.isWrapper; first | (rw [if_pos (by decide +kernel)]; kernel_rfl) | (rw [if_neg (by decide +kernel)]; exact ⟨rfl, rfl⟩))
    (fun os started H enc _ => lifted os started H enc)
#print axioms proved
end Go.Proofs.Ytngmpimoebggdaa.fnExactSettleUp
