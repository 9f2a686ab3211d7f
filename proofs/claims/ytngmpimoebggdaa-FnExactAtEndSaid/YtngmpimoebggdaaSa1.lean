/- Whether ways and movers are valid, and how far a mover is from its end: of the program and of its model. -/
import Derived.Test.YtngmpimoebggdaaSaL
namespace Go.Proofs.Ytngmpimoebggdaa.C1
open Go.ChangeShapes Go.WideShapes Go.ChangeAt Go.RowKit
set_option linter.unusedVariables false

/-- What a function that gives a truth value, or an integer, leaves. -/
def AnsB (w : World) (b : Bool) (e : Ending) (w' : World) : Prop := e = .returned (.bool b) ∧ Below w.heap.size w w'
def AnsI (w : World) (z : Int) (e : Ending) (w' : World) : Prop := e = .returned (.int .i64 z) ∧ Below w.heap.size w w'
theorem wit_s (x l h : Int) (w : World) :
    Calls Try.prog 75 #[.int .i64 x, .int .i64 l, .int .i64 h] w fun e w' => e = .returned (.bool (inB x l h)) ∧ w = w' := by
  by_cases h1 : l ≤ x
  · by_cases h2 : x ≤ h
    · go_enter Try.func75, Try.ntmps75
      go_wp2
      go_ret
      exact ⟨ret_bool (inB_yes h1 h2).symm, rfl⟩
    · have h2' : h < x := by omega
      go_enter Try.func75, Try.ntmps75
      go_wp2
      go_ret
      exact ⟨ret_bool (inB_no (Or.inr h2')).symm, rfl⟩
  · have h1' : x < l := by omega
    go_enter Try.func75, Try.ntmps75
    go_wp2
    go_ret
    exact ⟨ret_bool (inB_no (Or.inl h1')).symm, rfl⟩
theorem lev_s (s : Int) (w : World) :
    Calls Try.prog 151 #[.int .i64 s] w fun e w' => e = .returned (.bool (inB s 0 100000)) ∧ w = w' := by
  by_cases h1 : 0 ≤ s
  · by_cases h2 : s ≤ 100000
    · go_enter Try.func151, Try.ntmps151
      go_wp2
      go_ret
      exact ⟨ret_bool (inB_yes h1 (by omega)).symm, rfl⟩
    · have h2' : 100000 < s := by omega
      go_enter Try.func151, Try.ntmps151
      go_wp2
      go_ret
      exact ⟨ret_bool (inB_no (Or.inr (by omega))).symm, rfl⟩
  · have h1' : s < 0 := by omega
    go_enter Try.func151, Try.ntmps151
    go_wp2
    go_ret
    exact ⟨ret_bool (inB_no (Or.inl (by omega))).symm, rfl⟩
theorem lev_m (x : Int) (w : World) :
    Calls Try.prog 150 #[.int .i64 x] w fun e w' => e = .returned (.bool (inB x 0 100000)) ∧ w = w' := by
  go_enter Try.func150, Try.ntmps150
  go_wp2_with fail
  refine (in_spec _ _ _ _).mono ?_
  rintro e w' ⟨rfl, rfl⟩
  go_wp2
  go_ret
  exact ⟨rfl, rfl⟩
theorem wayok_spec (Y : Wy) (w : World) : Calls Try.prog 73 #[.agg #[.int .i64 Y.l, .int .i64 Y.b]] w (AnsB w (wyB Y)) := by
  have HB0 := vl ((Below.refl w.heap.size w).alloc (Nat.le_refl _) (.cells #[.int .i64 Y.l, .int .i64 Y.b] 42))
  have H := vl (show wyB Y = (inB Y.l 1 10000 && inB Y.b 0 100000) from rfl)
  cases h1 : inB Y.l 1 10000 <;> cases h2 : inB Y.b 0 100000
  all_goals
    have H' := vl (H.out.trans (by rw [h1, h2]))
    clear H
    go_enter Try.func73, Try.ntmps73
    go_wp2_with (first | (go_at_call 65; refine (in_spec _ _ _ _).mono ?_; rintro e w' ⟨rfl, rfl⟩) | (go_at_call 150; refine (lev_m _ _).mono ?_; rintro e w' ⟨rfl, rfl⟩))
    go_ret
    exact ⟨ret_bool H'.out.symm, HB0.out⟩
theorem wayok_impl (Y : Wy) (w : World) : Calls Try.prog 74 #[.agg #[.int .i64 Y.l, .int .i64 Y.b]] w (AnsB w (wyB Y)) := by
  have HB0 := vl ((Below.refl w.heap.size w).alloc (Nat.le_refl _) (.cells #[.int .i64 Y.l, .int .i64 Y.b] 42))
  have H := vl (show wyB Y = (inB Y.l 1 10000 && inB Y.b 0 100000) from rfl)
  cases h1 : inB Y.l 1 10000 <;> cases h2 : inB Y.b 0 100000
  all_goals
    have H' := vl (H.out.trans (by rw [h1, h2]))
    clear H
    go_enter Try.func74, Try.ntmps74
    go_wp2_with (first | (go_at_call 75; refine (wit_s _ _ _ _).mono ?_; rintro e w' ⟨rfl, rfl⟩) | (go_at_call 151; refine (lev_s _ _).mono ?_; rintro e w' ⟨rfl, rfl⟩))
    go_ret
    exact ⟨ret_bool H'.out.symm, HB0.out⟩
/-- The boxes of a mover and of a way. -/
theorem mw_new (C : Mv) (A : Option Addr) (c : Nat) (Y : Wy) (w : World) : MBox ((w.alloc (.cells #[.bool C.up, .slice A C.T.length c, .int .i64 C.p] 40)).alloc (.cells #[.int .i64 Y.l, .int .i64 Y.b] 42)) w.heap.size C A c 40 ∧ WBox ((w.alloc (.cells #[.bool C.up, .slice A C.T.length c, .int .i64 C.p] 40)).alloc (.cells #[.int .i64 Y.l, .int .i64 Y.b] 42)) (w.heap.size + 1) Y 42 ∧ Below w.heap.size w ((w.alloc (.cells #[.bool C.up, .slice A C.T.length c, .int .i64 C.p] 40)).alloc (.cells #[.int .i64 Y.l, .int .i64 Y.b] 42)) :=
  ⟨(MBox.new w C A c 40).alloc _, by have h := WBox.new (w.alloc (.cells #[.bool C.up, .slice A C.T.length c, .int .i64 C.p] 40)) Y 42; simpa using h, ((Below.refl w.heap.size w).alloc (Nat.le_refl _) (.cells #[.bool C.up, .slice A C.T.length c, .int .i64 C.p] 40)).alloc (by simp) (.cells #[.int .i64 Y.l, .int .i64 Y.b] 42)⟩
set_option maxHeartbeats 2000000 in
theorem mvok_spec (C : Mv) (A : Option Addr) (c : Nat) (Y : Wy) (w : World) (hm : Mod C.T) (hp : Trn w A C.T) :
    Calls Try.prog 20 #[.agg #[.bool C.up, .slice A C.T.length c, .int .i64 C.p], .agg #[.int .i64 Y.l, .int .i64 Y.b]] w (AnsB w (mvB C Y)) := by
  obtain ⟨hx, hy, hB⟩ := mw_new C A c Y w
  have HB0 := vl hB
  have HP := vl (hp.below hB)
  have HX0 := vl hx
  have HY0 := vl hy
  have HM := vl hm
  have H := vl (show mvB C Y = (wyB Y && (tOk C.T && inB C.p 0 Y.l)) from rfl)
  clear hp hm hx hy hB
  cases h0 : wyB Y <;> cases h1 : tOk C.T <;> cases h2 : inB C.p 0 Y.l
  all_goals
    have H' := vl (H.out.trans (by rw [h0, h1, h2]))
    have H0 := vl h0
    have H1 := vl h1
    clear H h0 h1
    obtain ⟨y0, y1⟩ := HY0.out.at
    go_enter Try.func20, Try.ntmps20
    go_wp2_with fail
    refine (wayok_spec Y _).mono ?_
    rintro e w1 ⟨rfl, hb1⟩
    rw [H0.out]
    have HB1 := vl (HB0.out.trans (hb1.mono HB0.out.size))
    have HX1 := vl (HX0.out.below hb1)
    have HY1 := vl (HY0.out.below hb1)
    have HP1 := vl (HP.out.below hb1)
    clear hb1 y0 y1
    obtain ⟨x0, x1, x2⟩ := HX1.out.at
    obtain ⟨y0, y1⟩ := HY1.out.at
    go_wp2_with (first | (go_at_call 64; refine (tok_spec C.up A c C.T _ HM.out HP1.out).mono ?_; rintro e w2 ⟨rfl, hb2⟩; rw [H1.out]; have HB2 := vl (HB1.out.trans (hb2.mono HB1.out.size)); have HX2 := vl (HX1.out.below hb2); have HY2 := vl (HY1.out.below hb2); clear hb2 x0 x1 x2 y0 y1; obtain ⟨x0, x1, x2⟩ := HX2.out.at; obtain ⟨y0, y1⟩ := HY2.out.at) | (go_at_call 65; refine (in_spec _ _ _ _).mono ?_; rintro e w' ⟨rfl, rfl⟩))
    go_ret
    first | exact ⟨ret_bool H'.out.symm, HB2.out⟩ | exact ⟨ret_bool H'.out.symm, HB1.out⟩
set_option maxHeartbeats 2000000 in
theorem mvok_impl (C : Mv) (A : Option Addr) (c : Nat) (Y : Wy) (w : World) (hm : Mod C.T) (hp : Trn w A C.T) :
    Calls Try.prog 23 #[.agg #[.bool C.up, .slice A C.T.length c, .int .i64 C.p], .agg #[.int .i64 Y.l, .int .i64 Y.b]] w (AnsB w (mvB C Y)) := by
  obtain ⟨hx, hy, hB⟩ := mw_new C A c Y w
  have HB0 := vl hB
  have HP := vl (hp.below hB)
  have HX0 := vl hx
  have HY0 := vl hy
  have HM := vl hm
  have H := vl (show mvB C Y = (wyB Y && (tOk C.T && inB C.p 0 Y.l)) from rfl)
  clear hp hm hx hy hB
  cases h0 : wyB Y <;> cases h1 : tOk C.T <;> cases h2 : inB C.p 0 Y.l
  all_goals
    have H' := vl (H.out.trans (by rw [h0, h1, h2]))
    have H0 := vl h0
    have H1 := vl h1
    clear H h0 h1
    obtain ⟨y0, y1⟩ := HY0.out.at
    go_enter Try.func23, Try.ntmps23
    go_wp2_with fail
    refine (wayok_impl Y _).mono ?_
    rintro e w1 ⟨rfl, hb1⟩
    rw [H0.out]
    have HB1 := vl (HB0.out.trans (hb1.mono HB0.out.size))
    have HX1 := vl (HX0.out.below hb1)
    have HY1 := vl (HY0.out.below hb1)
    have HP1 := vl (HP.out.below hb1)
    clear hb1 y0 y1
    obtain ⟨x0, x1, x2⟩ := HX1.out.at
    obtain ⟨y0, y1⟩ := HY1.out.at
    go_wp2_with (first | (go_at_call 69; refine (tok_impl C.up A c C.T _ HM.out HP1.out).mono ?_; rintro e w2 ⟨rfl, hb2⟩; rw [H1.out]; have HB2 := vl (HB1.out.trans (hb2.mono HB1.out.size)); have HX2 := vl (HX1.out.below hb2); have HY2 := vl (HY1.out.below hb2); clear hb2 x0 x1 x2 y0 y1; obtain ⟨x0, x1, x2⟩ := HX2.out.at; obtain ⟨y0, y1⟩ := HY2.out.at) | (go_at_call 75; refine (wit_s _ _ _ _).mono ?_; rintro e w' ⟨rfl, rfl⟩))
    go_ret
    first | exact ⟨ret_bool H'.out.symm, HB2.out⟩ | exact ⟨ret_bool H'.out.symm, HB1.out⟩
theorem dist_impl (C : Mv) (A : Option Addr) (c : Nat) (Y : Wy) (w : World) (h : mvB C Y = true) :
    Calls Try.prog 76 #[.agg #[.bool C.up, .slice A C.T.length c, .int .i64 C.p], .agg #[.int .i64 Y.l, .int .i64 Y.b]] w (AnsI w (lefZ C Y)) := by
  obtain ⟨hx, hy, hB⟩ := mw_new C A c Y w
  have HB0 := vl hB
  obtain ⟨a, b, c0, d⟩ := mvB_iff.1 h
  have := (wyB_iff.1 a).l1
  obtain ⟨x0, x1, x2⟩ := hx.at
  obtain ⟨y0, y1⟩ := hy.at
  clear hx hy hB a b
  have hu : C.up = false ∨ C.up = true := by cases C.up <;> simp
  rcases hu with hu | hu
  all_goals
    rw [hu] at x0
    go_enter Try.func76, Try.ntmps76
    go_wp2
    go_ret
    exact ⟨ret_int (by unfold lefZ; rw [hu]; rfl), by have h := HB0.out; rw [hu] at h; exact h⟩
theorem end_eq {C : Mv} {Y : Wy} : (if C.up = true then (C.p == 0) else (C.p == Y.l)) = decide (lefZ C Y = 0) := by
  unfold lefZ
  cases C.up
  · simp only [Bool.false_eq_true, if_false]
    by_cases h : C.p = Y.l
    · rw [decide_eq_true (by omega)]; simp [h]
    · rw [decide_eq_false (by omega)]; simp [h]
  · simp only [if_true]
    by_cases h : C.p = 0
    · rw [decide_eq_true h]; simp [h]
    · rw [decide_eq_false h]; simp [h]
set_option maxHeartbeats 1000000 in
theorem atend_spec (C : Mv) (A : Option Addr) (c : Nat) (Y : Wy) (w : World) (hm : Mod C.T) (hp : Trn w A C.T) :
    Calls Try.prog 25 #[.agg #[.bool C.up, .slice A C.T.length c, .int .i64 C.p], .agg #[.int .i64 Y.l, .int .i64 Y.b]] w (AnsB w (endB C Y)) := by
  obtain ⟨hx, hy, hB⟩ := mw_new C A c Y w
  have HB0 := vl hB
  have HP := vl (hp.below hB)
  have HX0 := vl hx
  have HY0 := vl hy
  have HM := vl hm
  have H := vl (show endB C Y = (mvB C Y && (if C.up = true then (C.p == 0) else (C.p == Y.l))) by rw [end_eq]; rfl)
  obtain ⟨x0, x1, x2⟩ := HX0.out.at
  obtain ⟨y0, y1⟩ := HY0.out.at
  clear hp hm hx hy hB
  have hu : C.up = false ∨ C.up = true := by cases C.up <;> simp
  cases h0 : mvB C Y <;> rcases hu with hu | hu
  all_goals
    have H' := vl (H.out.trans (by rw [h0, hu]))
    have H0 := vl h0
    have HU := vl hu
    clear H h0 hu
    go_enter Try.func25, Try.ntmps25
    go_wp2_with fail
    refine (mvok_spec C A c Y _ HM.out HP.out).mono ?_
    rintro e w1 ⟨rfl, hb1⟩
    rw [H0.out]
    have HB1 := vl (HB0.out.trans (hb1.mono HB0.out.size))
    have HX1 := vl (HX0.out.below hb1)
    have HY1 := vl (HY0.out.below hb1)
    clear hb1 x0 x1 x2 y0 y1
    obtain ⟨x0, x1, x2⟩ := HX1.out.at
    obtain ⟨y0, y1⟩ := HY1.out.at
    rw [HU.out] at x0
    go_wp2
    go_ret
    exact ⟨ret_bool (H'.out.trans (by first | rfl | simp)).symm, HB1.out⟩
theorem atend_impl (C : Mv) (A : Option Addr) (c : Nat) (Y : Wy) (w : World) (hm : Mod C.T) (hp : Trn w A C.T) :
    Calls Try.prog 26 #[.agg #[.bool C.up, .slice A C.T.length c, .int .i64 C.p], .agg #[.int .i64 Y.l, .int .i64 Y.b]] w (AnsB w (endB C Y)) := by
  obtain ⟨hx, hy, hB⟩ := mw_new C A c Y w
  have HB0 := vl hB
  have HP := vl (hp.below hB)
  have HX0 := vl hx
  have HY0 := vl hy
  have HM := vl hm
  have H := vl (show endB C Y = (mvB C Y && decide (lefZ C Y = 0)) from rfl)
  obtain ⟨x0, x1, x2⟩ := HX0.out.at
  obtain ⟨y0, y1⟩ := HY0.out.at
  clear hp hm hx hy hB
  cases h0 : mvB C Y <;> by_cases hz : lefZ C Y = 0
  all_goals
    have H' := vl (H.out.trans (by rw [h0, show decide (lefZ C Y = 0) = _ from by first | exact decide_eq_true hz | exact decide_eq_false hz]))
    have H0 := vl h0
    first | (have hz1 : (lefZ C Y == 0) = true := by simp [hz]) | (have hz1 : (lefZ C Y == 0) = false := by simp [hz])
    clear H h0 hz
    go_enter Try.func26, Try.ntmps26
    go_wp2_with fail
    refine (mvok_impl C A c Y _ HM.out HP.out).mono ?_
    rintro e w1 ⟨rfl, hb1⟩
    rw [H0.out]
    have HB1 := vl (HB0.out.trans (hb1.mono HB0.out.size))
    have HX1 := vl (HX0.out.below hb1)
    have HY1 := vl (HY0.out.below hb1)
    clear hb1 x0 x1 x2 y0 y1
    obtain ⟨x0, x1, x2⟩ := HX1.out.at
    obtain ⟨y0, y1⟩ := HY1.out.at
    go_wp2_with (go_at_call 76; refine (dist_impl C A c Y _ H0.out).mono ?_; rintro e w2 ⟨rfl, hb2⟩; have HB2 := vl (HB1.out.trans (hb2.mono HB1.out.size)); clear hb2)
    go_ret
    first | exact ⟨ret_bool H'.out.symm, HB2.out⟩ | exact ⟨ret_bool H'.out.symm, HB1.out⟩
end Go.Proofs.Ytngmpimoebggdaa.C1
