/- Whether ways and movers are valid, and how far a mover is from its end: of the program and of its model. -/
import Derived.Test.YtmabaibpdjmckaaGreatSaL
namespace Go.Proofs.YtmabaibpdjmckaaGreat.C1
open Go.ChangeShapes Go.WideShapes Go.ChangeAt Go.RowKit
set_option linter.unusedVariables false

/-- What a function that gives a truth value, or an integer, leaves. -/
def AnsB (w : World) (b : Bool) (e : Ending) (w' : World) : Prop := e = .returned (.bool b) ∧ Below w.heap.size w w'
def AnsI (w : World) (z : Int) (e : Ending) (w' : World) : Prop := e = .returned (.int .i64 z) ∧ Below w.heap.size w w'
theorem wit_s (x l h : Int) (w : World) :
    Calls Tryz.prog 75 #[.int .i64 x, .int .i64 l, .int .i64 h] w fun e w' => e = .returned (.bool (inB x l h)) ∧ w = w' := by
  by_cases h1 : l ≤ x
  · by_cases h2 : x ≤ h
    · go_enter Tryz.func75, Tryz.ntmps75
      go_wp2
      go_ret
      exact ⟨ret_bool (inB_yes h1 h2).symm, rfl⟩
    · have h2' : h < x := by omega
      go_enter Tryz.func75, Tryz.ntmps75
      go_wp2
      go_ret
      exact ⟨ret_bool (inB_no (Or.inr h2')).symm, rfl⟩
  · have h1' : x < l := by omega
    go_enter Tryz.func75, Tryz.ntmps75
    go_wp2
    go_ret
    exact ⟨ret_bool (inB_no (Or.inl h1')).symm, rfl⟩
theorem lev_s (s : Int) (w : World) :
    Calls Tryz.prog 85 #[.int .i64 s] w fun e w' => e = .returned (.bool (inB s 0 100000)) ∧ w = w' := by
  by_cases h1 : 0 ≤ s
  · by_cases h2 : s ≤ 100000
    · go_enter Tryz.func85, Tryz.ntmps85
      go_wp2
      go_ret
      exact ⟨ret_bool (inB_yes h1 (by omega)).symm, rfl⟩
    · have h2' : 100000 < s := by omega
      go_enter Tryz.func85, Tryz.ntmps85
      go_wp2
      go_ret
      exact ⟨ret_bool (inB_no (Or.inr (by omega))).symm, rfl⟩
  · have h1' : s < 0 := by omega
    go_enter Tryz.func85, Tryz.ntmps85
    go_wp2
    go_ret
    exact ⟨ret_bool (inB_no (Or.inl (by omega))).symm, rfl⟩
theorem lev_m (x : Int) (w : World) :
    Calls Tryz.prog 58 #[.int .i64 x] w fun e w' => e = .returned (.bool (inB x 0 100000)) ∧ w = w' := by
  go_enter Tryz.func58, Tryz.ntmps58
  go_wp2_with fail
  refine (in_spec _ _ _ _).mono ?_
  rintro e w' ⟨rfl, rfl⟩
  go_wp2
  go_ret
  exact ⟨rfl, rfl⟩
theorem wayok_spec (Y : Wy) (w : World) : Calls Tryz.prog 38 #[.agg #[.int .i64 Y.l, .int .i64 Y.b]] w (AnsB w (wyB Y)) := by
  have HB0 := vl ((Below.refl w.heap.size w).alloc (Nat.le_refl _) (.cells #[.int .i64 Y.l, .int .i64 Y.b] 42))
  have H := vl (show wyB Y = (inB Y.l 1 10000 && inB Y.b 0 100000) from rfl)
  cases h1 : inB Y.l 1 10000 <;> cases h2 : inB Y.b 0 100000
  all_goals
    have H' := vl (H.out.trans (by rw [h1, h2]))
    clear H
    go_enter Tryz.func38, Tryz.ntmps38
    go_wp2_with (first | (go_at_call 40; refine (in_spec _ _ _ _).mono ?_; rintro e w' ⟨rfl, rfl⟩) | (go_at_call 58; refine (lev_m _ _).mono ?_; rintro e w' ⟨rfl, rfl⟩))
    go_ret
    exact ⟨ret_bool H'.out.symm, HB0.out⟩
theorem wayok_impl (Y : Wy) (w : World) : Calls Tryz.prog 73 #[.agg #[.int .i64 Y.l, .int .i64 Y.b]] w (AnsB w (wyB Y)) := by
  have HB0 := vl ((Below.refl w.heap.size w).alloc (Nat.le_refl _) (.cells #[.int .i64 Y.l, .int .i64 Y.b] 42))
  have H := vl (show wyB Y = (inB Y.l 1 10000 && inB Y.b 0 100000) from rfl)
  cases h1 : inB Y.l 1 10000 <;> cases h2 : inB Y.b 0 100000
  all_goals
    have H' := vl (H.out.trans (by rw [h1, h2]))
    clear H
    go_enter Tryz.func73, Tryz.ntmps73
    go_wp2_with (first | (go_at_call 75; refine (wit_s _ _ _ _).mono ?_; rintro e w' ⟨rfl, rfl⟩) | (go_at_call 85; refine (lev_s _ _).mono ?_; rintro e w' ⟨rfl, rfl⟩))
    go_ret
    exact ⟨ret_bool H'.out.symm, HB0.out⟩
/-- The boxes of a mover and of a way. -/
theorem mw_new (C : Mv) (A : Option Addr) (c : Nat) (Y : Wy) (w : World) : MBox ((w.alloc (.cells #[.bool C.up, .slice A C.T.length c, .int .i64 C.p] 39)).alloc (.cells #[.int .i64 Y.l, .int .i64 Y.b] 42)) w.heap.size C A c 39 ∧ WBox ((w.alloc (.cells #[.bool C.up, .slice A C.T.length c, .int .i64 C.p] 39)).alloc (.cells #[.int .i64 Y.l, .int .i64 Y.b] 42)) (w.heap.size + 1) Y 42 ∧ Below w.heap.size w ((w.alloc (.cells #[.bool C.up, .slice A C.T.length c, .int .i64 C.p] 39)).alloc (.cells #[.int .i64 Y.l, .int .i64 Y.b] 42)) :=
  ⟨(MBox.new w C A c 39).alloc _, by have h := WBox.new (w.alloc (.cells #[.bool C.up, .slice A C.T.length c, .int .i64 C.p] 39)) Y 42; simpa using h, ((Below.refl w.heap.size w).alloc (Nat.le_refl _) (.cells #[.bool C.up, .slice A C.T.length c, .int .i64 C.p] 39)).alloc (by simp) (.cells #[.int .i64 Y.l, .int .i64 Y.b] 42)⟩
set_option maxHeartbeats 2000000 in
theorem mvok_spec (C : Mv) (A : Option Addr) (c : Nat) (Y : Wy) (w : World) (hm : Mod C.T) (hp : Trn w A C.T) :
    Calls Tryz.prog 20 #[.agg #[.bool C.up, .slice A C.T.length c, .int .i64 C.p], .agg #[.int .i64 Y.l, .int .i64 Y.b]] w (AnsB w (mvB C Y)) := by
  obtain ⟨hx, hy, hB⟩ := mw_new C A c Y w
  have HB0 := vl hB
  have HP := vl (hp.below hB)
  have HX0 := vl hx
  have HY0 := vl hy
  have HM := vl hm
  have H := vl (show mvB C Y = (wyB Y && (tOk C.T && inB C.p 0 Y.l)) from rfl)
  clear hp hm hx hy hB
  cases h0 : wyB Y <;> cases h1 : tOk C.T <;> cases h2 : inB C.p 0 Y.l
  all_goals
    have H' := vl (H.out.trans (by rw [h0, h1, h2]))
    have H0 := vl h0
    have H1 := vl h1
    clear H h0 h1
    obtain ⟨y0, y1⟩ := HY0.out.at
    go_enter Tryz.func20, Tryz.ntmps20
    go_wp2_with fail
    refine (wayok_spec Y _).mono ?_
    rintro e w1 ⟨rfl, hb1⟩
    rw [H0.out]
    have HB1 := vl (HB0.out.trans (hb1.mono HB0.out.size))
    have HX1 := vl (HX0.out.below hb1)
    have HY1 := vl (HY0.out.below hb1)
    have HP1 := vl (HP.out.below hb1)
    clear hb1 y0 y1
    obtain ⟨x0, x1, x2⟩ := HX1.out.at
    obtain ⟨y0, y1⟩ := HY1.out.at
    go_wp2_with (first | (go_at_call 39; refine (tok_spec C.up A c C.T _ HM.out HP1.out).mono ?_; rintro e w2 ⟨rfl, hb2⟩; rw [H1.out]; have HB2 := vl (HB1.out.trans (hb2.mono HB1.out.size)); have HX2 := vl (HX1.out.below hb2); have HY2 := vl (HY1.out.below hb2); clear hb2 x0 x1 x2 y0 y1; obtain ⟨x0, x1, x2⟩ := HX2.out.at; obtain ⟨y0, y1⟩ := HY2.out.at) | (go_at_call 40; refine (in_spec _ _ _ _).mono ?_; rintro e w' ⟨rfl, rfl⟩))
    go_ret
    first | exact ⟨ret_bool H'.out.symm, HB2.out⟩ | exact ⟨ret_bool H'.out.symm, HB1.out⟩
set_option maxHeartbeats 2000000 in
theorem mvok_impl (C : Mv) (A : Option Addr) (c : Nat) (Y : Wy) (w : World) (hm : Mod C.T) (hp : Trn w A C.T) :
    Calls Tryz.prog 63 #[.agg #[.bool C.up, .slice A C.T.length c, .int .i64 C.p], .agg #[.int .i64 Y.l, .int .i64 Y.b]] w (AnsB w (mvB C Y)) := by
  obtain ⟨hx, hy, hB⟩ := mw_new C A c Y w
  have HB0 := vl hB
  have HP := vl (hp.below hB)
  have HX0 := vl hx
  have HY0 := vl hy
  have HM := vl hm
  have H := vl (show mvB C Y = (wyB Y && (tOk C.T && inB C.p 0 Y.l)) from rfl)
  clear hp hm hx hy hB
  cases h0 : wyB Y <;> cases h1 : tOk C.T <;> cases h2 : inB C.p 0 Y.l
  all_goals
    have H' := vl (H.out.trans (by rw [h0, h1, h2]))
    have H0 := vl h0
    have H1 := vl h1
    clear H h0 h1
    obtain ⟨y0, y1⟩ := HY0.out.at
    go_enter Tryz.func63, Tryz.ntmps63
    go_wp2_with fail
    refine (wayok_impl Y _).mono ?_
    rintro e w1 ⟨rfl, hb1⟩
    rw [H0.out]
    have HB1 := vl (HB0.out.trans (hb1.mono HB0.out.size))
    have HX1 := vl (HX0.out.below hb1)
    have HY1 := vl (HY0.out.below hb1)
    have HP1 := vl (HP.out.below hb1)
    clear hb1 y0 y1
    obtain ⟨x0, x1, x2⟩ := HX1.out.at
    obtain ⟨y0, y1⟩ := HY1.out.at
    go_wp2_with (first | (go_at_call 74; refine (tok_impl C.up A c C.T _ HM.out HP1.out).mono ?_; rintro e w2 ⟨rfl, hb2⟩; rw [H1.out]; have HB2 := vl (HB1.out.trans (hb2.mono HB1.out.size)); have HX2 := vl (HX1.out.below hb2); have HY2 := vl (HY1.out.below hb2); clear hb2 x0 x1 x2 y0 y1; obtain ⟨x0, x1, x2⟩ := HX2.out.at; obtain ⟨y0, y1⟩ := HY2.out.at) | (go_at_call 75; refine (wit_s _ _ _ _).mono ?_; rintro e w' ⟨rfl, rfl⟩))
    go_ret
    first | exact ⟨ret_bool H'.out.symm, HB2.out⟩ | exact ⟨ret_bool H'.out.symm, HB1.out⟩
theorem dist_impl (C : Mv) (A : Option Addr) (c : Nat) (Y : Wy) (w : World) (h : mvB C Y = true) :
    Calls Tryz.prog 51 #[.agg #[.bool C.up, .slice A C.T.length c, .int .i64 C.p], .agg #[.int .i64 Y.l, .int .i64 Y.b]] w (AnsI w (lefZ C Y)) := by
  obtain ⟨hx, hy, hB⟩ := mw_new C A c Y w
  have HB0 := vl hB
  obtain ⟨a, b, c0, d⟩ := mvB_iff.1 h
  have := (wyB_iff.1 a).l1
  obtain ⟨x0, x1, x2⟩ := hx.at
  obtain ⟨y0, y1⟩ := hy.at
  clear hx hy hB a b
  have hu : C.up = false ∨ C.up = true := by cases C.up <;> simp
  rcases hu with hu | hu
  all_goals
    rw [hu] at x0
    go_enter Tryz.func51, Tryz.ntmps51
    go_wp2
    go_ret
    exact ⟨ret_int (by unfold lefZ; rw [hu]; rfl), by have h := HB0.out; rw [hu] at h; exact h⟩
end Go.Proofs.YtmabaibpdjmckaaGreat.C1
