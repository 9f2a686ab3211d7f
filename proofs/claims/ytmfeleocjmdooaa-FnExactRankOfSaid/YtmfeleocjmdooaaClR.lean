/- The rank of a call: of the program and of its model. -/
import Derived.Test.YtmfeleocjmdooaaCl
import Derived.Deep.RegionHeld3
namespace Go.Proofs.Ytmfeleocjmdooaa.C1
open Go.ChangeShapes Go.WideShapes Go.ChangeAt Go.RowKit
set_option linter.unusedVariables false

def GivesI (w : World) (x : Int) (e : Ending) (w' : World) : Prop := e = .returned (.int .i64 x) ∧ Below w.heap.size w w'
theorem rank_wrap {C : Cl} {now : Int} (d0 : 0 ≤ now - C.s) (d1 : 0 ≤ (now - C.s) / 20) (d2 : (now - C.s) / 20 ≤ 50000) (hc : 0 ≤ claT C.T ∧ claT C.T ≤ 2) :
    IntKind.i64.wrap (claT C.T - IntKind.i64.wrap ((IntKind.i64.wrap (now - C.s)).tdiv 20)) = claT C.T - (now - C.s) / 20 := by
  rw [IntWalk.i64_in (now - C.s) (by omega), Int.tdiv_eq_ediv_of_nonneg d0, IntWalk.i64_in ((now - C.s) / 20) (by omega), IntWalk.i64_in _ (by omega)]
theorem in_at' {x l h : Int} {b : Bool} (hb : inB x l h = b) (w : World) : Calls Try.prog 118 #[.int .i64 x, .int .i64 l, .int .i64 h] w fun e w' => e = .returned (.bool b) ∧ w = w' := by subst hb; exact in_spec _ _ _ _
set_option maxRecDepth 100000 in
set_option maxHeartbeats 2000000 in
theorem rank_spec (C : Cl) (now : Int) (A : Option Addr) (c : Nat) (w : World) (hm : Mod C.T) (hp : Trn w A C.T) :
    Calls Try.prog 94 #[.agg #[.bool C.up, .slice A C.T.length c, .int .i64 C.s, .int .i64 C.b], .int .i64 now] w (GivesI w (rkZ C now)) := by
  have HB0 := vl ((Below.refl w.heap.size w).alloc (Nat.le_refl _) (.cells #[.bool C.up, .slice A C.T.length c, .int .i64 C.s, .int .i64 C.b] 44))
  have HX0 := vl (CBox.new w C.up A C.T.length c C.s C.b 44)
  obtain ⟨x0, x1, x2, x3⟩ := HX0.out
  have HP := vl (hp.alloc (.cells #[.bool C.up, .slice A C.T.length c, .int .i64 C.s, .int .i64 C.b] 44))
  have HM := vl hm
  clear hp hm
  cases hk : clOk C with
  | false =>
    have HR := vl (rk_bad (now := now) hk)
    have HK := vl hk
    clear hk
    go_enter Try.func94, Try.ntmps94
    go_wp2_with fail
    refine (clok_spec C A c _ HM.out HP.out).mono ?_
    rintro e w1 ⟨rfl, hb1⟩
    rw [HK.out]
    have HB1 := vl (HB0.out.trans (hb1.mono HB0.out.size))
    clear hb1 x0 x1 x2 x3
    go_wp2
    go_ret
    exact ⟨ret_int HR.out.symm, HB1.out⟩
  | true =>
    have HK := vl hk
    cases hn : inB now C.s 1000000 with
    | false =>
      have HR := vl (rk_out hn)
      clear hk
      go_enter Try.func94, Try.ntmps94
      go_wp2_with fail
      refine (clok_spec C A c _ HM.out HP.out).mono ?_
      rintro e w1 ⟨rfl, hb1⟩
      rw [HK.out]
      have HB1 := vl (HB0.out.trans (hb1.mono HB0.out.size))
      have HX1 := vl (HX0.out.below hb1)
      have q1 := HX1.out.lt
      clear hb1 x0 x1 x2 x3
      obtain ⟨x0, x1, x2, x3⟩ := HX1.out
      go_wp2_with (go_at_call 118; refine (in_at' hn _).mono ?_; rintro e w' ⟨rfl, rfl⟩)
      go_ret
      exact ⟨ret_int HR.out.symm, HB1.out⟩
    | true =>
      have HR := vl (rk_in hk hn)
      obtain ⟨d0, d1, d2⟩ := wait_bd hk hn
      have hc := cla_bd (clOk_iff.1 hk).t
      have hs := (clOk_iff.1 hk).s0
      have hn1 := (inB_iff.1 hn).2
      clear hk
      cases hb : inB C.b 0 now with
      | true =>
        rw [hb, if_pos rfl] at HR
        go_enter Try.func94, Try.ntmps94
        go_wp2_with fail
        refine (clok_spec C A c _ HM.out HP.out).mono ?_
        rintro e w1 ⟨rfl, hb1⟩
        rw [HK.out]
        have HB1 := vl (HB0.out.trans (hb1.mono HB0.out.size))
        have HX1 := vl (HX0.out.below hb1)
        have q1 := HX1.out.lt
        clear hb1 x0 x1 x2 x3 d0 d1 d2 hc
        obtain ⟨x0, x1, x2, x3⟩ := HX1.out
        go_wp2_with (go_at_call 118; (first | (with_reducible refine (in_at' hn _).mono ?_) | (refine (in_at' hb _).mono ?_)); rintro e w' ⟨rfl, rfl⟩)
        go_ret
        exact ⟨ret_int HR.out.symm, HB1.out⟩
      | false =>
        rw [hb, if_neg (by decide)] at HR
        go_enter Try.func94, Try.ntmps94
        go_wp2_with fail
        refine (clok_spec C A c _ HM.out HP.out).mono ?_
        rintro e w1 ⟨rfl, hb1⟩
        rw [HK.out]
        have HB1 := vl (HB0.out.trans (hb1.mono HB0.out.size))
        have HX1 := vl (HX0.out.below hb1)
        have HP1 := vl (HP.out.below hb1)
        have q1 := HX1.out.lt
        clear hb1 x0 x1 x2 x3
        obtain ⟨x0, x1, x2, x3⟩ := HX1.out
        go_wp2_with (go_at_call 118; (first | (with_reducible refine (in_at' hn _).mono ?_) | (refine (in_at' hb _).mono ?_)); rintro e w' ⟨rfl, rfl⟩)
        unfold waitZ at HR d1 d2
        have EQ := vl (rank_wrap (C := C) (now := now) d0 d1 d2 hc)
        go_region_held3 (fun w' => w'.cell? ⟨w.heap.size, 0, none⟩ = some (.bool C.up) ∧ w'.cell? ⟨w.heap.size, 1, none⟩ = some (.slice A C.T.length c) ∧ w'.cell? ⟨w.heap.size, 2, none⟩ = some (.int .i64 C.s) ∧ Below w1.heap.size w1 w')
          (first | exact ⟨x0, x1, x2, Below.refl _ _⟩ | exact ⟨x0, x1, x2, (Below.refl _ _).drew⟩ | assumption)
          ((go_at_call 64; obtain ⟨a0, a1, a2, hb7⟩ : _ ∧ _ ∧ _ ∧ Below w1.heap.size w1 _ := by assumption
            refine (cla_spec C.up A c C.T _ HM.out (HP1.out.below hb7)).mono ?_
            rintro e w' ⟨rfl, hb'⟩
            have S1 := And.intro ((hb'.cell (cell_lt' a0)).trans a0) (And.intro ((hb'.cell (cell_lt' a1)).trans a1) (And.intro ((hb'.cell (cell_lt' a2)).trans a2) (hb7.trans (hb'.mono hb7.size))))
            clear hb'))
        all_goals
          obtain ⟨_, _, _, hb9⟩ : _ ∧ _ ∧ _ ∧ Below w1.heap.size w1 _ := by assumption
          go_wp2
          all_goals
            go_ret
            refine ⟨ret_int ?_, HB1.out.trans (hb9.mono HB1.out.size)⟩
            rw [HR.out]
            have E := EQ.out
            omega
theorem win_at {x l h : Int} {b : Bool} (hb : inB x l h = b) (w : World) : Calls Try.prog 115 #[.int .i64 x, .int .i64 l, .int .i64 h] w fun e w' => e = .returned (.bool b) ∧ w = w' := by subst hb; exact within_i _ _ _ _
set_option maxRecDepth 100000 in
set_option maxHeartbeats 2000000 in
theorem rank_impl (C : Cl) (now : Int) (A : Option Addr) (c : Nat) (w : World) (hm : Mod C.T) (hp : Trn w A C.T) :
    Calls Try.prog 43 #[.agg #[.bool C.up, .slice A C.T.length c, .int .i64 C.s, .int .i64 C.b], .int .i64 now] w (GivesI w (rkZ C now)) := by
  have HB0 := vl ((Below.refl w.heap.size w).alloc (Nat.le_refl _) (.cells #[.bool C.up, .slice A C.T.length c, .int .i64 C.s, .int .i64 C.b] 44))
  have HX0 := vl (CBox.new w C.up A C.T.length c C.s C.b 44)
  obtain ⟨x0, x1, x2, x3⟩ := HX0.out
  have HP := vl (hp.alloc (.cells #[.bool C.up, .slice A C.T.length c, .int .i64 C.s, .int .i64 C.b] 44))
  have HM := vl hm
  clear hp hm
  cases hk : clOk C with
  | false =>
    have HR := vl (rk_bad (now := now) hk)
    have HK := vl hk
    clear hk
    go_enter Try.func43, Try.ntmps43
    go_wp2_with fail
    refine (clok_impl C A c _ HM.out HP.out).mono ?_
    rintro e w1 ⟨rfl, hb1⟩
    rw [HK.out]
    have HB1 := vl (HB0.out.trans (hb1.mono HB0.out.size))
    clear hb1 x0 x1 x2 x3
    go_wp2
    go_ret
    exact ⟨ret_int HR.out.symm, HB1.out⟩
  | true =>
    have HK := vl hk
    cases hn : inB now C.s 1000000 with
    | false =>
      have HR := vl (rk_out hn)
      clear hk
      go_enter Try.func43, Try.ntmps43
      go_wp2_with fail
      refine (clok_impl C A c _ HM.out HP.out).mono ?_
      rintro e w1 ⟨rfl, hb1⟩
      rw [HK.out]
      have HB1 := vl (HB0.out.trans (hb1.mono HB0.out.size))
      have HX1 := vl (HX0.out.below hb1)
      have q1 := HX1.out.lt
      clear hb1 x0 x1 x2 x3
      obtain ⟨x0, x1, x2, x3⟩ := HX1.out
      go_wp2_with (go_at_call 115; refine (win_at hn _).mono ?_; rintro e w' ⟨rfl, rfl⟩)
      go_ret
      exact ⟨ret_int HR.out.symm, HB1.out⟩
    | true =>
      have HR := vl (rk_in hk hn)
      obtain ⟨d0, d1, d2⟩ := wait_bd hk hn
      have hc := cla_bd (clOk_iff.1 hk).t
      have hs := (clOk_iff.1 hk).s0
      have hn1 := (inB_iff.1 hn).2
      clear hk
      cases hb : inB C.b 0 now with
      | true =>
        rw [hb, if_pos rfl] at HR
        have hbb := inB_iff.1 hb
        have hb1' : (C.b != -1) = true := by simp; omega
        have hb2' := hbb.2
        clear hbb
        go_enter Try.func43, Try.ntmps43
        go_wp2_with fail
        refine (clok_impl C A c _ HM.out HP.out).mono ?_
        rintro e w1 ⟨rfl, hb1⟩
        rw [HK.out]
        have HB1 := vl (HB0.out.trans (hb1.mono HB0.out.size))
        have HX1 := vl (HX0.out.below hb1)
        have q1 := HX1.out.lt
        clear hb1 x0 x1 x2 x3 d0 d1 d2 hc
        obtain ⟨x0, x1, x2, x3⟩ := HX1.out
        go_wp2_with (go_at_call 115; refine (win_at hn _).mono ?_; rintro e w' ⟨rfl, rfl⟩)
        go_ret
        exact ⟨ret_int HR.out.symm, HB1.out⟩
      | false =>
        rw [hb, if_neg (by decide)] at HR
        have hb0 := (clOk_iff.1 HK.out).b0
        by_cases hm1 : C.b = -1
        · have hb1' : (C.b != -1) = false := by simp [hm1]
          clear hm1 hb0
          go_enter Try.func43, Try.ntmps43
          go_wp2_with fail
          refine (clok_impl C A c _ HM.out HP.out).mono ?_
          rintro e w1 ⟨rfl, hb1⟩
          rw [HK.out]
          have HB1 := vl (HB0.out.trans (hb1.mono HB0.out.size))
          have HX1 := vl (HX0.out.below hb1)
          have HP1 := vl (HP.out.below hb1)
          have q1 := HX1.out.lt
          clear hb1 x0 x1 x2 x3
          obtain ⟨x0, x1, x2, x3⟩ := HX1.out
          go_wp2_with (go_at_call 115; refine (win_at hn _).mono ?_; rintro e w' ⟨rfl, rfl⟩)
          unfold waitZ at HR d1 d2
          have EQ := vl (rank_wrap (C := C) (now := now) d0 d1 d2 hc)
          go_region_held3 (fun w' => w'.cell? ⟨w.heap.size, 0, none⟩ = some (.bool C.up) ∧ w'.cell? ⟨w.heap.size, 1, none⟩ = some (.slice A C.T.length c) ∧ w'.cell? ⟨w.heap.size, 2, none⟩ = some (.int .i64 C.s) ∧ Below w1.heap.size w1 w')
            (first | exact ⟨x0, x1, x2, Below.refl _ _⟩ | exact ⟨x0, x1, x2, (Below.refl _ _).drew⟩ | assumption)
            ((go_at_call 35; obtain ⟨a0, a1, a2, hb7⟩ : _ ∧ _ ∧ _ ∧ Below w1.heap.size w1 _ := by assumption
              refine (cla_impl C.up A c C.T _ HM.out (HP1.out.below hb7)).mono ?_
              rintro e w' ⟨rfl, hb'⟩
              have S1 := And.intro ((hb'.cell (cell_lt' a0)).trans a0) (And.intro ((hb'.cell (cell_lt' a1)).trans a1) (And.intro ((hb'.cell (cell_lt' a2)).trans a2) (hb7.trans (hb'.mono hb7.size))))
              clear hb'))
          all_goals
            obtain ⟨_, _, _, hb9⟩ : _ ∧ _ ∧ _ ∧ Below w1.heap.size w1 _ := by assumption
            go_wp2
            all_goals
              go_ret
              refine ⟨ret_int ?_, HB1.out.trans (hb9.mono HB1.out.size)⟩
              rw [HR.out]
              have E := EQ.out
              omega

        · have hb1' : (C.b != -1) = true := by simp [hm1]
          have hb2' : now < C.b := by
            by_cases h : now < C.b
            · exact h
            · rw [inB_yes (by omega) (by omega)] at hb; cases hb
          clear hm1 hb0
          go_enter Try.func43, Try.ntmps43
          go_wp2_with fail
          refine (clok_impl C A c _ HM.out HP.out).mono ?_
          rintro e w1 ⟨rfl, hb1⟩
          rw [HK.out]
          have HB1 := vl (HB0.out.trans (hb1.mono HB0.out.size))
          have HX1 := vl (HX0.out.below hb1)
          have HP1 := vl (HP.out.below hb1)
          have q1 := HX1.out.lt
          clear hb1 x0 x1 x2 x3
          obtain ⟨x0, x1, x2, x3⟩ := HX1.out
          go_wp2_with (go_at_call 115; refine (win_at hn _).mono ?_; rintro e w' ⟨rfl, rfl⟩)
          unfold waitZ at HR d1 d2
          have EQ := vl (rank_wrap (C := C) (now := now) d0 d1 d2 hc)
          go_region_held3 (fun w' => w'.cell? ⟨w.heap.size, 0, none⟩ = some (.bool C.up) ∧ w'.cell? ⟨w.heap.size, 1, none⟩ = some (.slice A C.T.length c) ∧ w'.cell? ⟨w.heap.size, 2, none⟩ = some (.int .i64 C.s) ∧ Below w1.heap.size w1 w')
            (first | exact ⟨x0, x1, x2, Below.refl _ _⟩ | exact ⟨x0, x1, x2, (Below.refl _ _).drew⟩ | assumption)
            ((go_at_call 35; obtain ⟨a0, a1, a2, hb7⟩ : _ ∧ _ ∧ _ ∧ Below w1.heap.size w1 _ := by assumption
              refine (cla_impl C.up A c C.T _ HM.out (HP1.out.below hb7)).mono ?_
              rintro e w' ⟨rfl, hb'⟩
              have S1 := And.intro ((hb'.cell (cell_lt' a0)).trans a0) (And.intro ((hb'.cell (cell_lt' a1)).trans a1) (And.intro ((hb'.cell (cell_lt' a2)).trans a2) (hb7.trans (hb'.mono hb7.size))))
              clear hb'))
          all_goals
            obtain ⟨_, _, _, hb9⟩ : _ ∧ _ ∧ _ ∧ Below w1.heap.size w1 _ := by assumption
            go_wp2
            all_goals
              go_ret
              refine ⟨ret_int ?_, HB1.out.trans (hb9.mono HB1.out.size)⟩
              rw [HR.out]
              have E := EQ.out
              omega
end Go.Proofs.Ytmfeleocjmdooaa.C1
