/-
  For every input the Go function 'laws.FnExactPostEntries' returns true, and each argument reads afterwards as it read before. No further condition.
-/
import Derived.Test.YtclofbknbfmmlaaDoorPost
import Derived.Test.YtclofbknbfmmlaaDoorEnK
import Derived.Test.YtclofbknbfmmlaaDoorLift
import Derived.Test.YtclofbknbfmmlaaDoorOpen
import Derived.Test.YtclofbknbfmmlaaDoorLaid
import Derived.Test.YtclofbknbfmmlaaDoorLaidV
import Derived.ChangeMaps5
namespace Go.Proofs.YtclofbknbfmmlaaDoor.fnExactPostEntries
open Go.Proofs.YtclofbknbfmmlaaDoor.C1 Go.Proofs.YtclofbknbfmmlaaDoor.Lift Go.Proofs.YtclofbknbfmmlaaDoor.Opened
open Go.ChangeShapes Go.WideShapes Go.ChangeAt Go.RowKit Go.ChangeMaps
set_option linter.unusedVariables false

set_option linter.unusedSimpArgs false
set_option maxRecDepth 100000 in
set_option maxHeartbeats 4000000 in
theorem walk (A0 : Option Addr) (c0 : Nat) (L0 : List En) (A1 : Option Addr) (c1 : Nat) (L1 : List En) (w : World) (hn0 : L0.length ≤ 9223372036854775807) (hp0 : SrcEns w A0 L0) (hn1 : L1.length ≤ 9223372036854775807) (hp1 : SrcEns w A1 L1) (hE0 : ErrR w) :
    Calls Tryd.prog 6 #[.slice A0 L0.length c0, .slice A1 L1.length c1] w fun e w' => e = .returned (.bool true) ∧ Below w.heap.size w w' := by
  have HP0 := vl hp0
  clear hp0
  have HP1 := vl hp1
  clear hp1
  have HE := vl hE0
  clear hE0
  by_cases hbig0 : (1048576 : Int) < (L0.length : Int)
  · go_enter Tryd.func6, Tryd.ntmps6
    go_wp2_with fail
    refine (szE_no _ _ _ _ _ (by omega) (by omega) (by omega) hbig0).mono ?_
    rintro e w' ⟨rfl, rfl⟩
    go_wp2
    go_ret
    exact ⟨rfl, Below.refl _ _⟩
  have hs0 : L0.length ≤ 1048576 := by omega
  have hsz0 : (L0.length : Int) ≤ 1048576 := by omega
  clear hbig0
  by_cases hbig1 : 1048576 - (L0.length : Int) < (L1.length : Int)
  · go_enter Tryd.func6, Tryd.ntmps6
    go_wp2_with fail
    refine (szE_yes _ _ _ _ _ (by omega) (by omega) hsz0).mono ?_
    rintro e w' ⟨rfl, rfl⟩
    go_wp2_with fail
    refine (szE_no _ _ _ _ _ (by omega) (by omega) (by omega) hbig1).mono ?_
    rintro e w' ⟨rfl, rfl⟩
    go_wp2
    go_ret
    exact ⟨rfl, Below.refl _ _⟩
  have hs1 : L1.length ≤ 1048576 := by omega
  have hsz1 : (L1.length : Int) ≤ 1048576 - (L0.length : Int) := by omega
  clear hbig1
  go_enter Tryd.func6, Tryd.ntmps6
  go_wp2_with fail
  refine (szE_yes _ _ _ _ _ (by omega) (by omega) hsz0).mono ?_
  rintro e w' ⟨rfl, rfl⟩
  go_wp2_with fail
  refine (szE_yes _ _ _ _ _ (by omega) (by omega) hsz1).mono ?_
  rintro e w' ⟨rfl, rfl⟩
  have hN : (postL L0 L1).length ≤ 1048576 := (Nat.le_trans post_le (by omega))
  have HB0 := vl (Below.refl w.heap.size w)
  go_wp2_with fail
  refine (toEntryS _ _ L0 _ hs0 (HP0.out.below HB0.out)).mono ?_
  rintro e w1 ⟨rfl, hb, hr⟩
  have HB1 := vl (HB0.out.trans (hb.mono HB0.out.size))
  have hk1 := hb.size
  clear hb
  have S0_1 := vl (rowE_of_row hr).1
  have SF0_1 := vl (rowE_of_row hr).2
  have Slt0 := hr.lt
  clear hr
  go_wp2_with fail
  refine (toEntryS _ _ L1 _ hs1 (HP1.out.below HB1.out)).mono ?_
  rintro e w2 ⟨rfl, hb, hr⟩
  have HB2 := vl (HB1.out.trans (hb.mono HB1.out.size))
  have S0_2 := vl (S0_1.out.below hb)
  have SF0_2 := vl (SF0_1.out.below (fun _ => by omega) hb)
  have hk2 := hb.size
  clear S0_1 SF0_1
  clear hb
  have S1_2 := vl (rowE_of_row hr).1
  have SF1_2 := vl (rowE_of_row hr).2
  have Slt1 := hr.lt
  clear hr
  go_wp2_with fail
  refine (post_spec _ _ _ _ L0 L1 _ hs0 hs1 S0_2.out.ens S1_2.out.ens).mono ?_
  rintro e w3 ⟨⟨As, cs, gW, rfl, hr, hf, hg, hl⟩, hb⟩
  have HB3 := vl (HB2.out.trans (hb.mono HB2.out.size))
  have S0_3 := vl (S0_2.out.below hb)
  have SF0_3 := vl (SF0_2.out.below (fun _ => by omega) hb)
  have S1_3 := vl (S1_2.out.below hb)
  have SF1_3 := vl (SF1_2.out.below (fun _ => by omega) hb)
  have hk3 := hb.size
  clear S0_2 SF0_2 S1_2 SF1_2
  clear hb
  have W_3 := vl hr
  have Wl : 0 < (postL L0 L1).length → gW < w3.heap.size := hl
  have Wg := hg
  clear hr hl hg hf
  clear S0_3 SF0_3
  clear S1_3 SF1_3
  go_wp2_with fail
  refine (toEntryS _ _ L0 _ hs0 (HP0.out.below HB3.out)).mono ?_
  rintro e w4 ⟨rfl, hb, hr⟩
  have HB4 := vl (HB3.out.trans (hb.mono HB3.out.size))
  have W_4 := vl (W_3.out.below hb)
  have hk4 := hb.size
  clear W_3
  clear hb
  have X0_4 := vl (rowE_of_row hr).1
  have XF0_4 := vl (rowE_of_row hr).2
  have Xlt0 := hr.lt
  clear hr
  go_wp2_with fail
  refine (toEntryS _ _ L1 _ hs1 (HP1.out.below HB4.out)).mono ?_
  rintro e w5 ⟨rfl, hb, hr⟩
  have HB5 := vl (HB4.out.trans (hb.mono HB4.out.size))
  have W_5 := vl (W_4.out.below hb)
  have X0_5 := vl (X0_4.out.below hb)
  have XF0_5 := vl (XF0_4.out.below (fun _ => by omega) hb)
  have hk5 := hb.size
  clear W_4 X0_4 XF0_4
  clear hb
  have X1_5 := vl (rowE_of_row hr).1
  have XF1_5 := vl (rowE_of_row hr).2
  have Xlt1 := hr.lt
  clear hr
  go_wp2_with fail
  refine (post_impl _ _ _ _ L0 L1 _ hs0 hs1 X0_5.out.ens X1_5.out.ens (HE.out.below HB5.out)).mono ?_
  rintro e w6 ⟨⟨Ag, cg, gG, rfl, hr, hf, hg, hl⟩, hb⟩
  have HB6 := vl (HB5.out.trans (hb.mono HB5.out.size))
  have W_6 := vl (W_5.out.below hb)
  have X0_6 := vl (X0_5.out.below hb)
  have XF0_6 := vl (XF0_5.out.below (fun _ => by omega) hb)
  have X1_6 := vl (X1_5.out.below hb)
  have XF1_6 := vl (XF1_5.out.below (fun _ => by omega) hb)
  have hk6 := hb.size
  clear W_5 X0_5 XF0_5 X1_5 XF1_5
  clear hb
  have G_6 := vl hr
  have GF_6 := vl hf
  have Gl : 0 < (postL L0 L1).length → gG < w6.heap.size := hl
  have Gg := hg
  clear hr hl hg hf
  go_wp2_with fail
  refine (eqEntryS _ _ _ _ (postL L0 L1) _ hN G_6.out.ens W_6.out.ens).mono ?_
  rintro e w7 ⟨rfl, hb⟩
  have HB7 := vl (HB6.out.trans (hb.mono HB6.out.size))
  have W_7 := vl (W_6.out.below hb)
  have X0_7 := vl (X0_6.out.below hb)
  have XF0_7 := vl (XF0_6.out.below (fun _ => by omega) hb)
  have X1_7 := vl (X1_6.out.below hb)
  have XF1_7 := vl (XF1_6.out.below (fun _ => by omega) hb)
  have G_7 := vl (G_6.out.below hb)
  have GF_7 := vl (GF_6.out.below (fun hn => by have := Gl (by omega); omega) hb)
  have hk7 := hb.size
  clear W_6 X0_6 XF0_6 X1_6 XF1_6 G_6 GF_6
  clear hb
  go_wp2_with fail
  refine (toEntryS _ _ L0 _ hs0 (HP0.out.below HB7.out)).mono ?_
  rintro e w8 ⟨rfl, hb, hr⟩
  have HB8 := vl (HB7.out.trans (hb.mono HB7.out.size))
  have W_8 := vl (W_7.out.below hb)
  have X0_8 := vl (X0_7.out.below hb)
  have XF0_8 := vl (XF0_7.out.below (fun _ => by omega) hb)
  have X1_8 := vl (X1_7.out.below hb)
  have XF1_8 := vl (XF1_7.out.below (fun _ => by omega) hb)
  have G_8 := vl (G_7.out.below hb)
  have GF_8 := vl (GF_7.out.below (fun hn => by have := Gl (by omega); omega) hb)
  have hk8 := hb.size
  clear W_7 X0_7 XF0_7 X1_7 XF1_7 G_7 GF_7
  clear hb
  have Y0_8 := vl (rowE_of_row hr).1
  clear hr
  go_wp2_with fail
  refine (eqEntryS _ _ _ _ L0 _ hs0 X0_8.out.ens Y0_8.out.ens).mono ?_
  rintro e w9 ⟨rfl, hb⟩
  have HB9 := vl (HB8.out.trans (hb.mono HB8.out.size))
  have W_9 := vl (W_8.out.below hb)
  have X0_9 := vl (X0_8.out.below hb)
  have XF0_9 := vl (XF0_8.out.below (fun _ => by omega) hb)
  have X1_9 := vl (X1_8.out.below hb)
  have XF1_9 := vl (XF1_8.out.below (fun _ => by omega) hb)
  have G_9 := vl (G_8.out.below hb)
  have GF_9 := vl (GF_8.out.below (fun hn => by have := Gl (by omega); omega) hb)
  have Y0_9 := vl (Y0_8.out.below hb)
  have hk9 := hb.size
  clear W_8 X0_8 XF0_8 X1_8 XF1_8 G_8 GF_8 Y0_8
  clear hb
  clear Y0_9
  go_wp2_with fail
  refine (toEntryS _ _ L1 _ hs1 (HP1.out.below HB9.out)).mono ?_
  rintro e w10 ⟨rfl, hb, hr⟩
  have HB10 := vl (HB9.out.trans (hb.mono HB9.out.size))
  have W_10 := vl (W_9.out.below hb)
  have X0_10 := vl (X0_9.out.below hb)
  have XF0_10 := vl (XF0_9.out.below (fun _ => by omega) hb)
  have X1_10 := vl (X1_9.out.below hb)
  have XF1_10 := vl (XF1_9.out.below (fun _ => by omega) hb)
  have G_10 := vl (G_9.out.below hb)
  have GF_10 := vl (GF_9.out.below (fun hn => by have := Gl (by omega); omega) hb)
  have hk10 := hb.size
  clear W_9 X0_9 XF0_9 X1_9 XF1_9 G_9 GF_9
  clear hb
  have Y1_10 := vl (rowE_of_row hr).1
  clear hr
  go_wp2_with fail
  refine (eqEntryS _ _ _ _ L1 _ hs1 X1_10.out.ens Y1_10.out.ens).mono ?_
  rintro e w11 ⟨rfl, hb⟩
  have HB11 := vl (HB10.out.trans (hb.mono HB10.out.size))
  have W_11 := vl (W_10.out.below hb)
  have X0_11 := vl (X0_10.out.below hb)
  have XF0_11 := vl (XF0_10.out.below (fun _ => by omega) hb)
  have X1_11 := vl (X1_10.out.below hb)
  have XF1_11 := vl (XF1_10.out.below (fun _ => by omega) hb)
  have G_11 := vl (G_10.out.below hb)
  have GF_11 := vl (GF_10.out.below (fun hn => by have := Gl (by omega); omega) hb)
  have Y1_11 := vl (Y1_10.out.below hb)
  have hk11 := hb.size
  clear W_10 X0_10 XF0_10 X1_10 XF1_10 G_10 GF_10 Y1_10
  clear hb
  clear Y1_11
  go_wp2_with fail
  refine (markE _ _ _ 1 L0 _ hs0 (by omega) X0_11.out XF0_11.out).mono ?_
  rintro e w12 ⟨rfl, _, _, ht0⟩
  have ht := ht0 (w3.heap.size) (w3.heap.size + 1) (fun _ => ⟨Nat.le_refl _, Nat.lt_succ_self _⟩)
  clear ht0
  have HB12 := vl (ht.below HB11.out (by omega))
  have hk12 := ht.size
  have W_12 := vl (ht.rowE W_11.out (fun hn => Or.inl (by have := Wl (by omega); omega)))
  have G_12 := vl (ht.rowE G_11.out (fun hn => Or.inr (by omega)))
  have GF_12 := vl (ht.free GF_11.out (fun hn => by have := Gl (by omega); omega) (fun hn => Or.inr (by omega)))
  have X1_12 := vl (ht.rowE X1_11.out (fun hn => Or.inr (by omega)))
  have XF1_12 := vl (ht.free XF1_11.out (fun hn => by omega) (fun hn => Or.inr (by omega)))
  clear X1_11 XF1_11
  clear ht W_11 G_11 GF_11 X0_11 XF0_11
  go_wp2_with fail
  refine (markE _ _ _ (1 + 5 * L0.length) L1 _ hs1 (by omega) X1_12.out XF1_12.out).mono ?_
  rintro e w13 ⟨rfl, _, _, ht0⟩
  have ht := ht0 (w4.heap.size) (w4.heap.size + 1) (fun _ => ⟨Nat.le_refl _, Nat.lt_succ_self _⟩)
  clear ht0
  have HB13 := vl (ht.below HB12.out (by omega))
  have hk13 := ht.size
  have W_13 := vl (ht.rowE W_12.out (fun hn => Or.inl (by have := Wl (by omega); omega)))
  have G_13 := vl (ht.rowE G_12.out (fun hn => Or.inr (by omega)))
  have GF_13 := vl (ht.free GF_12.out (fun hn => by have := Gl (by omega); omega) (fun hn => Or.inr (by omega)))
  clear ht W_12 G_12 GF_12 X1_12 XF1_12
  go_wp2_with fail
  refine (eqEntryS _ _ _ _ (postL L0 L1) _ hN G_13.out.ens W_13.out.ens).mono ?_
  rintro e w14 ⟨rfl, hb⟩
  have HB14 := vl (HB13.out.trans (hb.mono HB13.out.size))
  have W_14 := vl (W_13.out.below hb)
  have G_14 := vl (G_13.out.below hb)
  have GF_14 := vl (GF_13.out.below (fun hn => by have := Gl (by omega); omega) hb)
  have hk14 := hb.size
  clear W_13 G_13 GF_13
  clear hb
  go_wp2_with fail
  refine (markE _ _ _ 1 (postL L0 L1) _ hN (by omega) G_14.out GF_14.out).mono ?_
  rintro e w15 ⟨rfl, hr, _, ht0⟩
  have ht := ht0 (w5.heap.size) (gG + 1) (fun _ => ⟨by omega, Nat.lt_succ_self _⟩)
  clear ht0
  have HB15 := vl (ht.below HB14.out (by omega))
  have hk15 := ht.size
  have W_15 := vl (ht.rowE W_14.out (fun hn => Or.inl (by have := Wl (by omega); omega)))
  have G_15 := vl hr
  clear ht hr W_14 G_14 GF_14
  go_wp2_with fail
  refine (heldEntryS _ _ _ 1 _ _ hN (by omega) G_15.out).mono ?_
  rintro e w16 ⟨rfl, hbe⟩
  subst hbe
  have HB16 := HB15
  have W_16 := W_15
  have G_16 := G_15
  go_wp2_with fail
  refine (toEntryS _ _ L0 _ hs0 (HP0.out.below HB16.out)).mono ?_
  rintro e w17 ⟨rfl, hb, hr⟩
  have HB17 := vl (HB16.out.trans (hb.mono HB16.out.size))
  have W_17 := vl (W_16.out.below hb)
  have G_17 := vl (G_16.out.below hb)
  have hk17 := hb.size
  clear W_16 G_16
  clear hb
  have V0_17 := vl (rowE_of_row hr).1
  have VF0_17 := vl (rowE_of_row hr).2
  have Vlt0 := hr.lt
  clear hr
  go_wp2_with fail
  refine (toEntryS _ _ L1 _ hs1 (HP1.out.below HB17.out)).mono ?_
  rintro e w18 ⟨rfl, hb, hr⟩
  have HB18 := vl (HB17.out.trans (hb.mono HB17.out.size))
  have W_18 := vl (W_17.out.below hb)
  have G_18 := vl (G_17.out.below hb)
  have V0_18 := vl (V0_17.out.below hb)
  have VF0_18 := vl (VF0_17.out.below (fun _ => by omega) hb)
  have hk18 := hb.size
  clear W_17 G_17 V0_17 VF0_17
  clear hb
  have V1_18 := vl (rowE_of_row hr).1
  have VF1_18 := vl (rowE_of_row hr).2
  have Vlt1 := hr.lt
  clear hr
  go_wp2_with fail
  refine (post_impl _ _ _ _ L0 L1 _ hs0 hs1 V0_18.out.ens V1_18.out.ens (HE.out.below HB18.out)).mono ?_
  rintro e w19 ⟨⟨Ah, ch, gH, rfl, hr, hf, hg, hl⟩, hb⟩
  have HB19 := vl (HB18.out.trans (hb.mono HB18.out.size))
  have W_19 := vl (W_18.out.below hb)
  have G_19 := vl (G_18.out.below hb)
  have V0_19 := vl (V0_18.out.below hb)
  have VF0_19 := vl (VF0_18.out.below (fun _ => by omega) hb)
  have V1_19 := vl (V1_18.out.below hb)
  have VF1_19 := vl (VF1_18.out.below (fun _ => by omega) hb)
  have hk19 := hb.size
  clear W_18 G_18 V0_18 VF0_18 V1_18 VF1_18
  clear hb
  have H_19 := vl hr
  have Hl : 0 < (postL L0 L1).length → gH < w19.heap.size := hl
  have Hg := hg
  clear hr hl hg hf
  go_wp2_with fail
  refine (eqEntryS _ _ _ _ (postL L0 L1) _ hN H_19.out.ens W_19.out.ens).mono ?_
  rintro e w20 ⟨rfl, hb⟩
  have HB20 := vl (HB19.out.trans (hb.mono HB19.out.size))
  have W_20 := vl (W_19.out.below hb)
  have G_20 := vl (G_19.out.below hb)
  have V0_20 := vl (V0_19.out.below hb)
  have VF0_20 := vl (VF0_19.out.below (fun _ => by omega) hb)
  have V1_20 := vl (V1_19.out.below hb)
  have VF1_20 := vl (VF1_19.out.below (fun _ => by omega) hb)
  have H_20 := vl (H_19.out.below hb)
  have hk20 := hb.size
  clear W_19 G_19 V0_19 VF0_19 V1_19 VF1_19 H_19
  clear hb
  go_wp2_with fail
  refine (heldEntryS _ _ _ 1 _ _ hN (by omega) G_20.out).mono ?_
  rintro e w21 ⟨rfl, hbe⟩
  subst hbe
  have HB21 := HB20
  have W_21 := W_20
  have G_21 := G_20
  have V0_21 := V0_20
  have VF0_21 := VF0_20
  have V1_21 := V1_20
  have VF1_21 := VF1_20
  have H_21 := H_20
  go_wp2
  go_ret
  exact ⟨rfl, HB21.out⟩

theorem parOk : Tryd.f6.params.toList.all (fun t => Tryd.prog.readableRec t && decide (t < Tryd.prog.types.size)) = true := by kernel_rfl
theorem laid_met (os : Os) : laidMetH Tryd.prog Rows.fnExactPostEntriesRow.laid ((World.doorLaid Tryd.prog 400 os).forCall (fun _ _ => 0) ⟨#[], #[.slice none 0 0, .slice none 0 0], []⟩).memory :=
  laidMetH_of_parts3 (fuel := 8) (laidMet_of_run' 8 (by kernel_rfl) (by kernel_rfl)) (by kernel_rfl) (by kernel_rfl)
theorem reads (os : Os) {H : Type} (enc : TypeId × Value → H) : ∃ x, DataW.whole enc Tryd.prog ((World.doorLaid Tryd.prog 400 os).forCall (fun _ _ => 0) ⟨#[], #[.slice none 0 0, .slice none 0 0], []⟩).memory Tryd.f6.params.toList Rows.fnExactPostEntriesSpec.vars false #[.slice none 0 0, .slice none 0 0].toList 8 = some x :=
  Option.isSome_iff_exists.1 (by kernel_rfl)
set_option maxRecDepth 100000 in
theorem lifted (os : Os) (started : os.Started) (H : Type) (enc : TypeId × Value → H) (F : Stop.Interp) :
    ReturnsInHanded {} Tryd.checked os 6 .any ((OpenSpec.ofChange Rows.fnExactPostEntriesSpec).preRow enc Tryd.prog Tryd.f6 Rows.fnExactPostEntriesRow.domain false Rows.fnExactPostEntriesRow.laid) (((OpenSpec.ofChange Rows.fnExactPostEntriesSpec).at F).post enc Tryd.prog Tryd.f6 false true false false) := by
  obtain ⟨places, hx⟩ := reads os enc
  refine law_laidV (C := Tryd.checked) (nm := "loop.example/g03317/impl.errRefused") (g := 0) (t := 75) (by kernel_rfl) (by kernel_rfl) Tryd.underlying75 own started (by kernel_rfl) Tryd.func6 laid (fun t ht => by
      have h := List.all_eq_true.1 parOk t ht
      rw [Bool.and_eq_true] at h
      exact ⟨h.1, of_decide_eq_true h.2⟩) rfl Tryd.underlying4 rfl
    (fun xs y hx => by
      rw [show Tryd.f6.params.toList.length = 2 from by rw [Tryd.params6]; rfl] at hx
      match xs, hx with
      | [d0, d1], _ => rfl)
    (witness_row_atRef (enc := enc) (C := Tryd.checked) false (World.doorLaid Tryd.prog 400 os) #[.slice none 0 0, .slice none 0 0] rfl (by kernel_rfl) (by kernel_rfl) (by kernel_rfl)
      (OpenSpec.preRow_of_cond 8 hx (by kernel_rfl) (fun k hk => by cases hk) (by kernel_rfl) (laid_met os))) ?_
  intro W base args ds p hval0 hA0 _ hL
  rw [MakeChecks.laidMetH_plain _ _ _ (by kernel_rfl)] at hL
  have F0 := errR hL (by repeat (first | exact List.Mem.head _ | apply List.Mem.tail))
  have hval : ∀ (j : Nat) t v, Tryd.f6.params[j]? = some t → args[j]? = some v → Value.okWide Tryd.prog W .any base t v := hval0
  have hA : DataW.TrodAll enc Tryd.prog W 0 (fun _ => true) true Tryd.f6.params.toList args.toList ds p := hA0
  clear hA0 hval0
  rw [Tryd.params6] at hA hval
  obtain ⟨v0, vs0, d0, ds0, p0, q0, hargs, rfl, rfl, h0, r0⟩ := trodAll_cons hA
  obtain ⟨v1, vs1, d1, ds1, p1, q1, rfl, rfl, rfl, h1, r1⟩ := trodAll_cons r0
  obtain ⟨rfl, rfl, rfl⟩ := trodAll_nil r1
  obtain rfl : args = #[v0, v1] := by cases args; simp_all
  obtain ⟨A0, c0, L0, rfl, x0, y0⟩ := open_entries (hval 0 51 _ rfl rfl) h0
  obtain ⟨A1, c1, L1, rfl, x1, y1⟩ := open_entries (hval 1 51 _ rfl rfl) h1
  exact walk A0 c0 L0 A1 c1 L1 W x0 y0 x1 y1 F0
theorem said : Rows.FnExactPostEntriesSaid :=
  OpenClaim.holds_of_cond 6 Tryd.f6 rfl rfl rfl rfl rfl rfl rfl ⟨rfl, rfl, rfl, rfl, rfl⟩ rfl rfl rfl rfl rfl (by kernel_rfl) Tryd.func6 (by kernel_rfl)
    (of_decide_eq_true (by kernel_rfl)) (by unfold Func.isWrapper; first | (rw [if_pos (by decide +kernel)]; kernel_rfl) | (rw [if_neg (by decide +kernel)]; exact ⟨rfl, rfl⟩))
    (fun os started H enc _ F => by rw [OpenClaim.pre_eq_preRow]; exact lifted os started H enc F)
theorem plain (f : FuncId) (fn : Func) (hf : Tryd.pinned.checked.prog.funcNamed Rows.fnExactPostEntriesRow.func = some f) (hfn : Tryd.pinned.checked.prog.funcs[f]? = some fn) :
    true = Tryd.pinned.checked.prog.looks [] ∧ ∀ (j : Nat) t, fn.params[j]? = some t → Tryd.pinned.checked.prog.wantsStandIn t = false := by
  obtain rfl : f = 6 := Option.some.inj ((show Tryd.prog.funcNamed Rows.fnExactPostEntriesRow.func = some 6 by kernel_rfl).symm.trans hf) |>.symm
  obtain rfl : fn = Tryd.f6 := (Option.some.inj (Tryd.func6.symm.trans hfn)).symm
  refine ⟨by kernel_rfl, fun j t ht => ?_⟩
  have hw : Tryd.f6.params.toList.all (fun t => Tryd.prog.wantsStandIn t == false) = true := by kernel_rfl
  have := List.all_eq_true.1 hw t (by simpa using Array.mem_of_getElem? ht)
  exact (show Tryd.prog.wantsStandIn t = false by simpa using this)
/-- The statement: the tied card. -/
theorem proved : Rows.FnExactPostEntriesCardSaid :=
  Claim7.holds_tied_plain_at .later [] _ _ _ _ said (fun _ h => by cases h) (by kernel_rfl) (fun _ h => by cases h) fnExactPostEntries_row_tie rfl ⟨rfl, rfl⟩ (by kernel_rfl) rfl plain (by kernel_rfl)
#print axioms proved
end Go.Proofs.YtclofbknbfmmlaaDoor.fnExactPostEntries
