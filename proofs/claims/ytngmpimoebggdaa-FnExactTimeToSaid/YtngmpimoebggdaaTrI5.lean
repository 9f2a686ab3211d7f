/- The measures of a train: of the program. -/
import Derived.Test.YtngmpimoebggdaaTrI4
import Derived.Test.YtngmpimoebggdaaTrnV
namespace Go.Proofs.Ytngmpimoebggdaa.C1
open Go.ChangeShapes Go.WideShapes Go.ChangeAt Go.RowKit
set_option linter.unusedVariables false

set_option maxRecDepth 100000 in
set_option maxHeartbeats 1000000 in
theorem tlen_impl (up : Bool) (A : Option Addr) (c : Nat) (T : List (List Bt)) (w : World) (hm : Mod T) (hp : Trn w A T) :
    Calls Try.prog 162 #[.agg #[.bool up, .slice A T.length c]] w fun e w' => e = .returned (.int .i64 (lenW T)) ∧ Below w.heap.size w w' := by
  have HM := vl hm
  have hn := hm.rows
  have HB0 := vl ((Below.refl w.heap.size w).alloc (Nat.le_refl _) (.cells #[.bool up, .slice A T.length c] 29))
  have HP := vl (hp.alloc (.cells #[.bool up, .slice A T.length c] 29))
  clear hp hm
  go_enter Try.func162, Try.ntmps162
  go_wp2
  go_loopw [3, 9] (fun s i wr => ∃ k : Nat, k ≤ T.length ∧ i = .int .i64 k ∧ s = .int .i64 (fk (fun s r => wrap64 (s + lenR r)) 0 T k) ∧ Veil (Below w.heap.size w wr) ∧ Veil (Trn wr A T)) (fun _ i _ => T.length - (intOf i).toNat)
  case atStart => exact ⟨0, by omega, rfl, by rw [fk_zero], HB0, HP⟩
  case round =>
    obtain ⟨k, hk, rfl, rfl, HB, HP1⟩ := hrel
    by_cases hlt : k < T.length
    · obtain ⟨r, hr⟩ := get_of hlt
      obtain ⟨g, o, rfl, hc⟩ := HP1.out (by omega)
      obtain ⟨Ai, ci, c0, HA⟩ := hc k r hr
      have hrn := HM.out.row (mem_of hr)
      have HS := vl (fk_succ (f := fun s r => wrap64 (s + lenR r)) (a := (0 : Int)) hr)
      clear hc hr
      generalize fk (fun s r => wrap64 (s + lenR r)) 0 T k = s at HS ⊢
      go_wp2_with fail
      refine (great_impl Ai ci r _ hrn HA.out).mono ?_
      rintro e w2 ⟨rfl, hb2⟩
      have HB2 := vl (HB.out.trans (hb2.mono HB.out.size))
      have HP3 := vl (HP1.out.below hb2)
      clear hb2 c0
      go_wp2
      all_goals
        go_roundw
        case rel => exact ⟨k + 1, by omega, by go_num, congrArg (Value.int .i64) (by rw [HS.out]), HB2, HP3⟩
        case measure => simp [intOf]; omega
    · obtain rfl : k = T.length := by omega
      go_wp2
      go_ret
      exact ⟨by rw [fk_end]; rfl, HB.out⟩
set_option maxHeartbeats 1000000 in
theorem len_impl (up : Bool) (A : Option Addr) (c : Nat) (T : List (List Bt)) (w : World) (hm : Mod T) (hp : Trn w A T) :
    Calls Try.prog 90 #[.agg #[.bool up, .slice A T.length c]] w fun e w' => e = .returned (.int .i64 (lenT T)) ∧ Below w.heap.size w w' := by
  have HM := vl hm
  have HB0 := vl ((Below.refl w.heap.size w).alloc (Nat.le_refl _) (.cells #[.bool up, .slice A T.length c] 29))
  have HP := vl (hp.alloc (.cells #[.bool up, .slice A T.length c] 29))
  have HX0 := vl (TBox.new w up A T.length c 29)
  clear hp hm
  go_enter Try.func90, Try.ntmps90
  go_wp2_with fail
  refine (tok_impl up A c T _ HM.out HP.out).mono ?_
  rintro e w1 ⟨rfl, hb1⟩
  have HB1 := vl (HB0.out.trans (hb1.mono HB0.out.size))
  have HX1 := vl (HX0.out.below hb1)
  have HP1 := vl (HP.out.below hb1)
  clear hb1
  obtain ⟨x0, x1⟩ := HX1.out
  cases hok : tOk T with
  | false =>
    have HE := vl (show lenT T = 0 by unfold lenT; rw [hok]; rfl)
    clear hok
    go_wp2
    go_ret
    exact ⟨ret_int HE.out.symm, HB1.out⟩
  | true =>
    have HI := vl (in_tOk hok)
    have HE := vl (show lenT T = lenZ T by unfold lenT; rw [hok, if_pos rfl])
    clear hok
    go_wp2_with fail
    refine (tlen_impl up A c T _ HM.out HP1.out).mono ?_
    rintro e w2 ⟨rfl, hb2⟩
    rw [lenW_eq HI.out]
    have HB2 := vl (HB1.out.trans (hb2.mono HB1.out.size))
    clear hb2
    go_wp2
    go_ret
    exact ⟨ret_int HE.out.symm, HB2.out⟩
set_option maxRecDepth 100000 in
set_option maxHeartbeats 1000000 in
theorem twid_impl (up : Bool) (A : Option Addr) (c : Nat) (T : List (List Bt)) (w : World) (hm : Mod T) (hp : Trn w A T) :
    Calls Try.prog 163 #[.agg #[.bool up, .slice A T.length c]] w fun e w' => e = .returned (.int .i64 (widX T)) ∧ Below w.heap.size w w' := by
  have HM := vl hm
  have hn := hm.rows
  have HB0 := vl ((Below.refl w.heap.size w).alloc (Nat.le_refl _) (.cells #[.bool up, .slice A T.length c] 29))
  have HP := vl (hp.alloc (.cells #[.bool up, .slice A T.length c] 29))
  clear hp hm
  go_enter Try.func163, Try.ntmps163
  go_wp2
  go_loopw [3, 9] (fun s i wr => ∃ k : Nat, k ≤ T.length ∧ i = .int .i64 k ∧ s = .int .i64 (fk (fun s r => max s (widW r)) 0 T k) ∧ Veil (Below w.heap.size w wr) ∧ Veil (Trn wr A T)) (fun _ i _ => T.length - (intOf i).toNat)
  case atStart => exact ⟨0, by omega, rfl, by rw [fk_zero], HB0, HP⟩
  case round =>
    obtain ⟨k, hk, rfl, rfl, HB, HP1⟩ := hrel
    by_cases hlt : k < T.length
    · obtain ⟨r, hr⟩ := get_of hlt
      obtain ⟨g, o, rfl, hc⟩ := HP1.out (by omega)
      obtain ⟨Ai, ci, c0, HA⟩ := hc k r hr
      have hrn := HM.out.row (mem_of hr)
      have HS := vl (fk_succ (f := fun s r => max s (widW r)) (a := (0 : Int)) hr)
      clear hc hr
      generalize fk (fun s r => max s (widW r)) 0 T k = s at HS ⊢
      go_wp2_with fail
      refine (sumw_impl Ai ci r _ hrn HA.out).mono ?_
      rintro e w2 ⟨rfl, hb2⟩
      have HB2 := vl (HB.out.trans (hb2.mono HB.out.size))
      have HP3 := vl (HP1.out.below hb2)
      clear hb2 c0
      go_wp2
      all_goals
        go_roundw
        case rel => exact ⟨k + 1, by omega, by go_num, congrArg (Value.int .i64) (by rw [HS.out]; omega), HB2, HP3⟩
        case measure => simp [intOf]; omega
    · obtain rfl : k = T.length := by omega
      go_wp2
      go_ret
      exact ⟨by rw [fk_end]; rfl, HB.out⟩
set_option maxHeartbeats 1000000 in
theorem wid_impl (up : Bool) (A : Option Addr) (c : Nat) (T : List (List Bt)) (w : World) (hm : Mod T) (hp : Trn w A T) :
    Calls Try.prog 91 #[.agg #[.bool up, .slice A T.length c]] w fun e w' => e = .returned (.int .i64 (widT T)) ∧ Below w.heap.size w w' := by
  have HM := vl hm
  have HB0 := vl ((Below.refl w.heap.size w).alloc (Nat.le_refl _) (.cells #[.bool up, .slice A T.length c] 29))
  have HP := vl (hp.alloc (.cells #[.bool up, .slice A T.length c] 29))
  have HX0 := vl (TBox.new w up A T.length c 29)
  clear hp hm
  go_enter Try.func91, Try.ntmps91
  go_wp2_with fail
  refine (tok_impl up A c T _ HM.out HP.out).mono ?_
  rintro e w1 ⟨rfl, hb1⟩
  have HB1 := vl (HB0.out.trans (hb1.mono HB0.out.size))
  have HX1 := vl (HX0.out.below hb1)
  have HP1 := vl (HP.out.below hb1)
  clear hb1
  obtain ⟨x0, x1⟩ := HX1.out
  cases hok : tOk T with
  | false =>
    have HE := vl (show widT T = 0 by unfold widT; rw [hok]; rfl)
    clear hok
    go_wp2
    go_ret
    exact ⟨ret_int HE.out.symm, HB1.out⟩
  | true =>
    have HI := vl (in_tOk hok)
    have HE := vl (show widT T = widZ T by unfold widT; rw [hok, if_pos rfl])
    clear hok
    go_wp2_with fail
    refine (twid_impl up A c T _ HM.out HP1.out).mono ?_
    rintro e w2 ⟨rfl, hb2⟩
    rw [widX_eq HI.out]
    have HB2 := vl (HB1.out.trans (hb2.mono HB1.out.size))
    clear hb2
    go_wp2
    go_ret
    exact ⟨ret_int HE.out.symm, HB2.out⟩
set_option maxRecDepth 100000 in
set_option maxHeartbeats 1000000 in
theorem dra_impl (up : Bool) (A : Option Addr) (c : Nat) (T : List (List Bt)) (w : World) (hm : Mod T) (hp : Trn w A T) :
    Calls Try.prog 147 #[.agg #[.bool up, .slice A T.length c]] w fun e w' => e = .returned (.int .i64 (draT T)) ∧ Below w.heap.size w w' := by
  have HM := vl hm
  have ha := hm.all
  have HB0 := vl ((Below.refl w.heap.size w).alloc (Nat.le_refl _) (.cells #[.bool up, .slice A T.length c] 29))
  have HP := vl (hp.alloc (.cells #[.bool up, .slice A T.length c] 29))
  have HX0 := vl (TBox.new w up A T.length c 29)
  clear hp hm
  go_enter Try.func147, Try.ntmps147
  go_wp2_with fail
  refine (tok_impl up A c T _ HM.out HP.out).mono ?_
  rintro e w1 ⟨rfl, hb1⟩
  have HB1 := vl (HB0.out.trans (hb1.mono HB0.out.size))
  have HX1 := vl (HX0.out.below hb1)
  have HP1 := vl (HP.out.below hb1)
  clear hb1
  obtain ⟨x0, x1⟩ := HX1.out
  cases hok : tOk T with
  | false =>
    have HE := vl (show draT T = 0 by unfold draT; rw [hok]; rfl)
    clear hok
    go_wp2
    go_ret
    exact ⟨ret_int HE.out.symm, HB1.out⟩
  | true =>
    have HE := vl (show draT T = fk (fun n b => max n b.d) 0 (bts T) (bts T).length by unfold draT; rw [hok, if_pos rfl, fk_end]; rfl)
    clear hok
    have HA := vl (HB1.out.alloc HB1.out.size (.cells #[.iface 29 (.agg #[.bool up, .slice A T.length c])] 215))
    go_wp2_with fail
    refine (boats_t up A c _ T _ HM.out (HP1.out.alloc _) (by simp)).mono ?_
    rintro e w2 ⟨⟨v, rfl, ho2⟩, hb2⟩
    have HB2 := vl (HA.out.trans (hb2.mono HA.out.size))
    obtain ⟨A2, c2, g2, rfl, hc2, hr2, _⟩ := rowB_of_own ho2 hb2.size
    have HR2 := vl hr2.bts
    clear ho2 hb2 hr2 hc2 x0 x1
    go_wp2
    go_loopw [3, 14] (fun s i wr => ∃ k : Nat, k ≤ (bts T).length ∧ i = .int .i64 k ∧ s = .int .i64 (fk (fun n b => max n b.d) 0 (bts T) k) ∧ Veil (Below w.heap.size w wr) ∧ Veil (Bts wr A2 (bts T))) (fun _ i _ => (bts T).length - (intOf i).toNat)
    case atStart => exact ⟨0, by omega, rfl, by rw [fk_zero], HB2, HR2⟩
    case round =>
      obtain ⟨k, hk, rfl, rfl, HB, HL⟩ := hrel
      by_cases hlt : k < (bts T).length
      · obtain ⟨b, hb⟩ := get_of hlt
        have HS := vl (fk_succ (f := fun (n : Int) (b : Bt) => max n b.d) (a := (0 : Int)) hb)
        obtain ⟨g, o, rfl, hc⟩ := HL.out (by omega)
        obtain ⟨y0, y1, y2, y3, y4, y5⟩ := hc k b hb
        clear hc hb
        generalize fk (fun n b => max n b.d) 0 (bts T) k = s at HS ⊢
        go_wp2
        all_goals
          go_roundw
          case rel => exact ⟨k + 1, by omega, by go_num, congrArg (Value.int .i64) (by rw [HS.out]; omega), vl (HB.out.alloc HB.out.size (.cells #[.int .i64 b.i, .int .i64 b.l, .int .i64 b.w, .int .i64 b.d, .int .i64 b.s, .int .i64 b.c] 177)), vl (HL.out.alloc (.cells #[.int .i64 b.i, .int .i64 b.l, .int .i64 b.w, .int .i64 b.d, .int .i64 b.s, .int .i64 b.c] 177))⟩
          case measure => simp [intOf]; omega
      · obtain rfl : k = (bts T).length := by omega
        go_wp2
        go_ret
        exact ⟨ret_int HE.out.symm, HB.out⟩
set_option maxRecDepth 100000 in
set_option maxHeartbeats 1000000 in
theorem spe_impl (up : Bool) (A : Option Addr) (c : Nat) (T : List (List Bt)) (w : World) (hm : Mod T) (hp : Trn w A T) :
    Calls Try.prog 148 #[.agg #[.bool up, .slice A T.length c]] w fun e w' => e = .returned (.int .i64 (speT T)) ∧ Below w.heap.size w w' := by
  have HM := vl hm
  have ha := hm.all
  have HB0 := vl ((Below.refl w.heap.size w).alloc (Nat.le_refl _) (.cells #[.bool up, .slice A T.length c] 29))
  have HP := vl (hp.alloc (.cells #[.bool up, .slice A T.length c] 29))
  have HX0 := vl (TBox.new w up A T.length c 29)
  clear hp hm
  go_enter Try.func148, Try.ntmps148
  go_wp2_with fail
  refine (tok_impl up A c T _ HM.out HP.out).mono ?_
  rintro e w1 ⟨rfl, hb1⟩
  have HB1 := vl (HB0.out.trans (hb1.mono HB0.out.size))
  have HX1 := vl (HX0.out.below hb1)
  have HP1 := vl (HP.out.below hb1)
  clear hb1
  obtain ⟨x0, x1⟩ := HX1.out
  cases hok : tOk T with
  | false =>
    have HE := vl (show speT T = 0 by unfold speT; rw [hok]; rfl)
    clear hok
    go_wp2
    go_ret
    exact ⟨ret_int HE.out.symm, HB1.out⟩
  | true =>
    have HE := vl (show speT T = fk (fun n b => min n b.s) 50 (bts T) (bts T).length by unfold speT; rw [hok, if_pos rfl, fk_end]; rfl)
    clear hok
    have HA := vl (HB1.out.alloc HB1.out.size (.cells #[.iface 29 (.agg #[.bool up, .slice A T.length c])] 215))
    go_wp2_with fail
    refine (boats_t up A c _ T _ HM.out (HP1.out.alloc _) (by simp)).mono ?_
    rintro e w2 ⟨⟨v, rfl, ho2⟩, hb2⟩
    have HB2 := vl (HA.out.trans (hb2.mono HA.out.size))
    obtain ⟨A2, c2, g2, rfl, hc2, hr2, _⟩ := rowB_of_own ho2 hb2.size
    have HR2 := vl hr2.bts
    clear ho2 hb2 hr2 hc2 x0 x1
    go_wp2
    go_loopw [3, 14] (fun s i wr => ∃ k : Nat, k ≤ (bts T).length ∧ i = .int .i64 k ∧ s = .int .i64 (fk (fun n b => min n b.s) 50 (bts T) k) ∧ Veil (Below w.heap.size w wr) ∧ Veil (Bts wr A2 (bts T))) (fun _ i _ => (bts T).length - (intOf i).toNat)
    case atStart => exact ⟨0, by omega, rfl, by rw [fk_zero], HB2, HR2⟩
    case round =>
      obtain ⟨k, hk, rfl, rfl, HB, HL⟩ := hrel
      by_cases hlt : k < (bts T).length
      · obtain ⟨b, hb⟩ := get_of hlt
        have HS := vl (fk_succ (f := fun (n : Int) (b : Bt) => min n b.s) (a := (50 : Int)) hb)
        obtain ⟨g, o, rfl, hc⟩ := HL.out (by omega)
        obtain ⟨y0, y1, y2, y3, y4, y5⟩ := hc k b hb
        clear hc hb
        generalize fk (fun n b => min n b.s) 50 (bts T) k = s at HS ⊢
        go_wp2
        all_goals
          go_roundw
          case rel => exact ⟨k + 1, by omega, by go_num, congrArg (Value.int .i64) (by rw [HS.out]; omega), vl (HB.out.alloc HB.out.size (.cells #[.int .i64 b.i, .int .i64 b.l, .int .i64 b.w, .int .i64 b.d, .int .i64 b.s, .int .i64 b.c] 177)), vl (HL.out.alloc (.cells #[.int .i64 b.i, .int .i64 b.l, .int .i64 b.w, .int .i64 b.d, .int .i64 b.s, .int .i64 b.c] 177))⟩
          case measure => simp [intOf]; omega
      · obtain rfl : k = (bts T).length := by omega
        go_wp2
        go_ret
        exact ⟨ret_int HE.out.symm, HB.out⟩
set_option maxRecDepth 100000 in
set_option maxHeartbeats 1000000 in
theorem cla_impl (up : Bool) (A : Option Addr) (c : Nat) (T : List (List Bt)) (w : World) (hm : Mod T) (hp : Trn w A T) :
    Calls Try.prog 92 #[.agg #[.bool up, .slice A T.length c]] w fun e w' => e = .returned (.int .i64 (claT T)) ∧ Below w.heap.size w w' := by
  have HM := vl hm
  have ha := hm.all
  have HB0 := vl ((Below.refl w.heap.size w).alloc (Nat.le_refl _) (.cells #[.bool up, .slice A T.length c] 29))
  have HP := vl (hp.alloc (.cells #[.bool up, .slice A T.length c] 29))
  have HX0 := vl (TBox.new w up A T.length c 29)
  clear hp hm
  go_enter Try.func92, Try.ntmps92
  go_wp2_with fail
  refine (tok_impl up A c T _ HM.out HP.out).mono ?_
  rintro e w1 ⟨rfl, hb1⟩
  have HB1 := vl (HB0.out.trans (hb1.mono HB0.out.size))
  have HX1 := vl (HX0.out.below hb1)
  have HP1 := vl (HP.out.below hb1)
  clear hb1
  obtain ⟨x0, x1⟩ := HX1.out
  cases hok : tOk T with
  | false =>
    have HE := vl (show claT T = (-1) by unfold claT; rw [hok]; rfl)
    clear hok
    go_wp2
    go_ret
    exact ⟨ret_int HE.out.symm, HB1.out⟩
  | true =>
    have HE := vl (show claT T = fk (fun n b => min n b.c) 2 (bts T) (bts T).length by unfold claT; rw [hok, if_pos rfl, fk_end]; rfl)
    clear hok
    have HA := vl (HB1.out.alloc HB1.out.size (.cells #[.iface 29 (.agg #[.bool up, .slice A T.length c])] 215))
    go_wp2_with fail
    refine (boats_t up A c _ T _ HM.out (HP1.out.alloc _) (by simp)).mono ?_
    rintro e w2 ⟨⟨v, rfl, ho2⟩, hb2⟩
    have HB2 := vl (HA.out.trans (hb2.mono HA.out.size))
    obtain ⟨A2, c2, g2, rfl, hc2, hr2, _⟩ := rowB_of_own ho2 hb2.size
    have HR2 := vl hr2.bts
    clear ho2 hb2 hr2 hc2 x0 x1
    go_wp2
    go_loopw [3, 14] (fun s i wr => ∃ k : Nat, k ≤ (bts T).length ∧ i = .int .i64 k ∧ s = .int .i64 (fk (fun n b => min n b.c) 2 (bts T) k) ∧ Veil (Below w.heap.size w wr) ∧ Veil (Bts wr A2 (bts T))) (fun _ i _ => (bts T).length - (intOf i).toNat)
    case atStart => exact ⟨0, by omega, rfl, by rw [fk_zero], HB2, HR2⟩
    case round =>
      obtain ⟨k, hk, rfl, rfl, HB, HL⟩ := hrel
      by_cases hlt : k < (bts T).length
      · obtain ⟨b, hb⟩ := get_of hlt
        have HS := vl (fk_succ (f := fun (n : Int) (b : Bt) => min n b.c) (a := (2 : Int)) hb)
        obtain ⟨g, o, rfl, hc⟩ := HL.out (by omega)
        obtain ⟨y0, y1, y2, y3, y4, y5⟩ := hc k b hb
        clear hc hb
        generalize fk (fun n b => min n b.c) 2 (bts T) k = s at HS ⊢
        go_wp2
        all_goals
          go_roundw
          case rel => exact ⟨k + 1, by omega, by go_num, congrArg (Value.int .i64) (by rw [HS.out]; omega), vl (HB.out.alloc HB.out.size (.cells #[.int .i64 b.i, .int .i64 b.l, .int .i64 b.w, .int .i64 b.d, .int .i64 b.s, .int .i64 b.c] 177)), vl (HL.out.alloc (.cells #[.int .i64 b.i, .int .i64 b.l, .int .i64 b.w, .int .i64 b.d, .int .i64 b.s, .int .i64 b.c] 177))⟩
          case measure => simp [intOf]; omega
      · obtain rfl : k = (bts T).length := by omega
        go_wp2
        go_ret
        exact ⟨ret_int HE.out.symm, HB.out⟩
end Go.Proofs.Ytngmpimoebggdaa.C1
