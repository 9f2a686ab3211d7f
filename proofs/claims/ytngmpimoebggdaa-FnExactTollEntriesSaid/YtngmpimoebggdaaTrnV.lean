/- The measures of a train's boats: of the model. -/
import Derived.Test.YtngmpimoebggdaaTrnU
namespace Go.Proofs.Ytngmpimoebggdaa.C1
open Go.ChangeShapes Go.WideShapes Go.ChangeAt Go.RowKit
set_option linter.unusedVariables false

set_option maxHeartbeats 2000000 in
theorem dra_spec (up : Bool) (A : Option Addr) (c : Nat) (T : List (List Bt)) (w : World) (hm : Mod T) (hp : Trn w A T) :
    Calls Try.prog 66 #[.agg #[.bool up, .slice A T.length c]] w fun e w' => e = .returned (.int .i64 (draT T)) ∧ Below w.heap.size w w' := by
  have HM := vl hm
  have hn := hm.rows
  have ha := hm.all
  have HB0 := vl ((Below.refl w.heap.size w).alloc (Nat.le_refl _) (.cells #[.bool up, .slice A T.length c] 29))
  have HP := vl (hp.alloc (.cells #[.bool up, .slice A T.length c] 29))
  have HX0 := vl (TBox.new w up A T.length c 29)
  obtain ⟨x0, x1⟩ := HX0.out
  clear hp hm
  go_enter Try.func66, Try.ntmps66
  go_wp2_with fail
  refine (boats_spec up A c T _ HM.out HP.out).mono ?_
  rintro e w1 ⟨⟨A1, c1, g1, rfl, hr1, hg1⟩, hb1⟩
  have HB1 := vl (HB0.out.trans (hb1.mono (by simp)))
  have HX1 := vl (HX0.out.below hb1)
  have HL1 := vl hr1.bts
  have HP1 := vl (HP.out.below hb1)
  clear hr1 hb1 hg1 x0 x1
  go_wp2
  cases hok : tOk T with
  | false =>
    have HE := vl (show draT T = 0 by unfold draT; rw [hok]; rfl)
    have HO := vl hok
    clear hok
    go_loopw [3, 5] (fun s i wr => s = .int .i64 0 ∧ i = .int .i64 0 ∧ Veil (Below w.heap.size w wr) ∧ Veil (TBox wr w.heap.size up A T.length c) ∧ Veil (Trn wr A T)) (fun _ _ _ => 1)
    case atStart => exact ⟨rfl, rfl, HB1, HX1, HP1⟩
    case round =>
      obtain ⟨rfl, rfl, HB, HX, HP2⟩ := hrel
      obtain ⟨x0, x1⟩ := HX.out
      by_cases h0 : 0 < (bts T).length
      · have h0' : (0 : Int) < ((bts T).length : Int) := by omega
        go_wp2_with fail
        refine (tok_spec up A c T _ HM.out HP2.out).mono ?_
        rintro e w2 ⟨rfl, hb2⟩
        rw [HO.out]
        have HB2 := vl (HB.out.trans (hb2.mono HB.out.size))
        clear hb2
        go_wp2
        go_ret
        exact ⟨ret_int HE.out.symm, HB2.out⟩
      · have h0' : ((bts T).length : Int) ≤ 0 := by omega
        go_wp2
        go_ret
        exact ⟨ret_int HE.out.symm, HB.out⟩
  | true =>
    have HI := vl (in_tOk hok)
    have HE := vl (show draT T = fk (fun n b => max n b.d) 0 (bts T) (bts T).length by unfold draT; rw [hok, if_pos rfl, fk_end]; rfl)
    have HO := vl hok
    clear hok
    go_loopw [3, 5] (fun s i wr => ∃ k : Nat, k ≤ (bts T).length ∧ i = .int .i64 k ∧ s = .int .i64 (fk (fun n b => max n b.d) 0 (bts T) k) ∧ Veil (Below w.heap.size w wr) ∧ Veil (TBox wr w.heap.size up A T.length c) ∧ Veil (Trn wr A T) ∧ Veil (Bts wr A1 (bts T))) (fun _ i _ => (bts T).length - (intOf i).toNat)
    case atStart => exact ⟨0, by omega, rfl, by rw [fk_zero], HB1, HX1, HP1, HL1⟩
    case round =>
      obtain ⟨k, hk, rfl, rfl, HB, HX, HP2, HL⟩ := hrel
      obtain ⟨x0, x1⟩ := HX.out
      by_cases hlt : k < (bts T).length
      · obtain ⟨b, hb⟩ := get_of hlt
        have HS := vl (fk_succ (f := fun (n : Int) (b : Bt) => max n b.d) (a := (0 : Int)) hb)
        have HK := vl hb
        clear hb
        generalize fk (fun n b => max n b.d) 0 (bts T) k = s at HS ⊢
        go_wp2_with fail
        refine (tok_spec up A c T _ HM.out HP2.out).mono ?_
        rintro e w2 ⟨rfl, hb2⟩
        rw [HO.out]
        have HB2 := vl (HB.out.trans (hb2.mono HB.out.size))
        have HX2 := vl (HX.out.below hb2)
        have HP3 := vl (HP2.out.below hb2)
        have HL2 := vl (HL.out.below hb2)
        clear hb2 x0 x1
        obtain ⟨g, o, rfl, hc⟩ := HL2.out (by omega)
        have y3 := (hc k b HK.out).2.2.2.1
        clear hc
        go_wp2
        all_goals
          go_roundw
          case rel => exact ⟨k + 1, by omega, by go_num, congrArg (Value.int .i64) (by rw [HS.out]; omega), HB2, HX2, HP3, HL2⟩
          case measure => simp [intOf]; omega
      · obtain rfl : k = (bts T).length := by omega
        go_wp2
        go_ret
        exact ⟨ret_int HE.out.symm, HB.out⟩
set_option maxHeartbeats 2000000 in
theorem spe_spec (up : Bool) (A : Option Addr) (c : Nat) (T : List (List Bt)) (w : World) (hm : Mod T) (hp : Trn w A T) :
    Calls Try.prog 67 #[.agg #[.bool up, .slice A T.length c]] w fun e w' => e = .returned (.int .i64 (speT T)) ∧ Below w.heap.size w w' := by
  have HM := vl hm
  have hn := hm.rows
  have ha := hm.all
  have HB0 := vl ((Below.refl w.heap.size w).alloc (Nat.le_refl _) (.cells #[.bool up, .slice A T.length c] 29))
  have HP := vl (hp.alloc (.cells #[.bool up, .slice A T.length c] 29))
  have HX0 := vl (TBox.new w up A T.length c 29)
  obtain ⟨x0, x1⟩ := HX0.out
  clear hp hm
  go_enter Try.func67, Try.ntmps67
  go_wp2_with fail
  refine (boats_spec up A c T _ HM.out HP.out).mono ?_
  rintro e w1 ⟨⟨A1, c1, g1, rfl, hr1, hg1⟩, hb1⟩
  have HB1 := vl (HB0.out.trans (hb1.mono (by simp)))
  have HX1 := vl (HX0.out.below hb1)
  have HL1 := vl hr1.bts
  have HP1 := vl (HP.out.below hb1)
  clear hr1 hb1 hg1 x0 x1
  obtain ⟨x0, x1⟩ := HX1.out
  go_wp2_with fail
  refine (tok_spec up A c T _ HM.out HP1.out).mono ?_
  rintro e w2 ⟨rfl, hb2⟩
  have HB2 := vl (HB1.out.trans (hb2.mono HB1.out.size))
  have HL2 := vl (HL1.out.below hb2)
  clear hb2 x0 x1
  cases hok : tOk T with
  | false =>
    have HE := vl (show speT T = 0 by unfold speT; rw [hok]; rfl)
    clear hok
    go_wp2
    go_ret
    exact ⟨ret_int HE.out.symm, HB2.out⟩
  | true =>
    have HI := vl (in_tOk hok)
    have h1 := HI.out.n0
    obtain ⟨b0, hb0⟩ := get_of (L := bts T) (k := 0) (by omega)
    have HE := vl (show speT T = fk (fun n b => min n b.s) b0.s (bts T) (bts T).length by
      unfold speT; rw [hok, if_pos rfl, fk_end]; exact (min_first (g := fun b : Bt => b.s) hb0 fun y hy => (HI.out.ok y hy).s1).symm)
    clear hok
    obtain ⟨g, o, rfl, hc⟩ := HL2.out (by omega)
    have y0 := (hc 0 b0 hb0).2.2.2.2.1
    have HC := vl hc
    simp only [Nat.zero_mul, Nat.add_zero] at y0
    clear hb0 hc
    go_wp2
    go_loop [4, 5] (fun s i => ∃ k : Nat, k ≤ (bts T).length ∧ i = .int .i64 k ∧ s = .int .i64 (fk (fun n b => min n b.s) b0.s (bts T) k)) (fun _ i => (bts T).length - (intOf i).toNat)
    case atStart => exact ⟨0, by omega, rfl, by rw [fk_zero]⟩
    case round =>
      obtain ⟨k, hk, rfl, rfl⟩ := hrel
      by_cases hlt : k < (bts T).length
      · obtain ⟨b, hb⟩ := get_of hlt
        have HS := vl (fk_succ (f := fun (n : Int) (b : Bt) => min n b.s) (a := b0.s) hb)
        have yk := (HC.out k b hb).2.2.2.2.1
        clear hb
        generalize fk (fun n b => min n b.s) b0.s (bts T) k = s at HS ⊢
        go_wp2
        all_goals
          go_round
          case rel => exact ⟨k + 1, by omega, by go_num, congrArg (Value.int .i64) (by rw [HS.out]; omega)⟩
          case measure => simp [intOf]; omega
      · obtain rfl : k = (bts T).length := by omega
        go_wp2
        go_ret
        exact ⟨ret_int HE.out.symm, HB2.out⟩
set_option maxHeartbeats 2000000 in
theorem cla_spec (up : Bool) (A : Option Addr) (c : Nat) (T : List (List Bt)) (w : World) (hm : Mod T) (hp : Trn w A T) :
    Calls Try.prog 89 #[.agg #[.bool up, .slice A T.length c]] w fun e w' => e = .returned (.int .i64 (claT T)) ∧ Below w.heap.size w w' := by
  have HM := vl hm
  have hn := hm.rows
  have ha := hm.all
  have HB0 := vl ((Below.refl w.heap.size w).alloc (Nat.le_refl _) (.cells #[.bool up, .slice A T.length c] 29))
  have HP := vl (hp.alloc (.cells #[.bool up, .slice A T.length c] 29))
  have HX0 := vl (TBox.new w up A T.length c 29)
  obtain ⟨x0, x1⟩ := HX0.out
  clear hp hm
  go_enter Try.func89, Try.ntmps89
  go_wp2_with fail
  refine (boats_spec up A c T _ HM.out HP.out).mono ?_
  rintro e w1 ⟨⟨A1, c1, g1, rfl, hr1, hg1⟩, hb1⟩
  have HB1 := vl (HB0.out.trans (hb1.mono (by simp)))
  have HX1 := vl (HX0.out.below hb1)
  have HL1 := vl hr1.bts
  have HP1 := vl (HP.out.below hb1)
  clear hr1 hb1 hg1 x0 x1
  obtain ⟨x0, x1⟩ := HX1.out
  go_wp2_with fail
  refine (tok_spec up A c T _ HM.out HP1.out).mono ?_
  rintro e w2 ⟨rfl, hb2⟩
  have HB2 := vl (HB1.out.trans (hb2.mono HB1.out.size))
  have HL2 := vl (HL1.out.below hb2)
  clear hb2 x0 x1
  cases hok : tOk T with
  | false =>
    have HE := vl (show claT T = (-1) by unfold claT; rw [hok]; rfl)
    clear hok
    go_wp2
    go_ret
    exact ⟨ret_int HE.out.symm, HB2.out⟩
  | true =>
    have HI := vl (in_tOk hok)
    have h1 := HI.out.n0
    obtain ⟨b0, hb0⟩ := get_of (L := bts T) (k := 0) (by omega)
    have HE := vl (show claT T = fk (fun n b => min n b.c) b0.c (bts T) (bts T).length by
      unfold claT; rw [hok, if_pos rfl, fk_end]; exact (min_first (g := fun b : Bt => b.c) hb0 fun y hy => (HI.out.ok y hy).c1).symm)
    clear hok
    obtain ⟨g, o, rfl, hc⟩ := HL2.out (by omega)
    have y0 := (hc 0 b0 hb0).2.2.2.2.2
    have HC := vl hc
    simp only [Nat.zero_mul, Nat.add_zero] at y0
    clear hb0 hc
    go_wp2
    go_loop [4, 5] (fun s i => ∃ k : Nat, k ≤ (bts T).length ∧ i = .int .i64 k ∧ s = .int .i64 (fk (fun n b => min n b.c) b0.c (bts T) k)) (fun _ i => (bts T).length - (intOf i).toNat)
    case atStart => exact ⟨0, by omega, rfl, by rw [fk_zero]⟩
    case round =>
      obtain ⟨k, hk, rfl, rfl⟩ := hrel
      by_cases hlt : k < (bts T).length
      · obtain ⟨b, hb⟩ := get_of hlt
        have HS := vl (fk_succ (f := fun (n : Int) (b : Bt) => min n b.c) (a := b0.c) hb)
        have yk := (HC.out k b hb).2.2.2.2.2
        clear hb
        generalize fk (fun n b => min n b.c) b0.c (bts T) k = s at HS ⊢
        go_wp2
        all_goals
          go_round
          case rel => exact ⟨k + 1, by omega, by go_num, congrArg (Value.int .i64) (by rw [HS.out]; omega)⟩
          case measure => simp [intOf]; omega
      · obtain rfl : k = (bts T).length := by omega
        go_wp2
        go_ret
        exact ⟨ret_int HE.out.symm, HB2.out⟩
end Go.Proofs.Ytngmpimoebggdaa.C1
