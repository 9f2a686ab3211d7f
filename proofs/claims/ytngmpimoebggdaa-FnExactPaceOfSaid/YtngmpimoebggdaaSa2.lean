/- Paces, depths and times: of the program and of its model. -/
import Derived.Test.YtngmpimoebggdaaSa1
namespace Go.Proofs.Ytngmpimoebggdaa.C1
open Go.ChangeShapes Go.WideShapes Go.ChangeAt Go.RowKit
set_option linter.unusedVariables false
set_option linter.unusedSimpArgs false

theorem half (x : Int) (h : 0 ≤ x) : Int.tdiv x 2 = x / 2 := Int.tdiv_eq_ediv_of_nonneg h
theorem S2t {W w w' : World} {p : Nat} {u v : Value} (h0 : w.cell? ⟨p, 0, none⟩ = some u) (h1 : w.cell? ⟨p, 1, none⟩ = some v) (hb : Below W.heap.size W w) (hb' : Below w.heap.size w w') :
    w'.cell? ⟨p, 0, none⟩ = some u ∧ w'.cell? ⟨p, 1, none⟩ = some v ∧ Below W.heap.size W w' :=
  ⟨(hb'.cell (cell_lt' h0)).trans h0, (hb'.cell (cell_lt' h1)).trans h1, hb.trans (hb'.mono hb.size)⟩
set_option maxHeartbeats 2000000 in
theorem pace_spec (up : Bool) (A : Option Addr) (c : Nat) (T : List (List Bt)) (d : Int) (w : World) (hm : Mod T) (hp : Trn w A T) :
    Calls Try.prog 15 #[.agg #[.bool up, .slice A T.length c], .int .i64 d] w (AnsI w (pacZ T d)) := by
  have HB0 := vl ((Below.refl w.heap.size w).alloc (Nat.le_refl _) (.cells #[.bool up, .slice A T.length c] 29))
  have HP := vl (hp.alloc (.cells #[.bool up, .slice A T.length c] 29))
  have HX0 := vl (TBox.new w up A T.length c 29)
  have HM := vl hm
  obtain ⟨dr, hdr⟩ : ∃ dr, draT T = dr := ⟨_, rfl⟩
  obtain ⟨sp, hsp⟩ : ∃ sp, speT T = sp := ⟨_, rfl⟩
  have HD := vl (fun (w : World) (ht : Trn w A T) => by have h := dra_spec up A c T w hm ht; rw [hdr] at h; exact h)
  have HS := vl (fun (w : World) (ht : Trn w A T) => by have h := spe_spec up A c T w hm ht; rw [hsp] at h; exact h)
  have hd := draT_bd T
  have hs := speT_bd T
  rw [hdr] at hd
  rw [hsp] at hs
  obtain ⟨d0, d1⟩ := hd
  obtain ⟨s0, s1⟩ := hs
  have HE := vl (show pacZ T d = if (tOk T && inB d 0 1000000000) = true then (if d < dr then 0 else if 2 * d < 3 * dr then (sp + 1) / 2 else sp) else 0 by rw [← hdr, ← hsp]; rfl)
  obtain ⟨x0, x1⟩ := HX0.out
  clear hm hp hdr hsp
  have step : ∀ b : Bool, tOk T = b → ∀ w', Trn w' A T → Calls Try.prog 64 #[.agg #[.bool up, .slice A T.length c]] w' (AnsB w' b) := fun b hb w' ht => by subst hb; exact tok_spec up A c T w' HM.out ht
  cases h0 : tOk T with
  | false =>
    have HE' : Veil (pacZ T d = 0) := vl (HE.out.trans (by simp [h0]))
    have HT := vl (step _ h0)
    clear HE h0 step
    go_enter Try.func15, Try.ntmps15
    go_wp2_with fail
    refine (HT.out _ HP.out).mono ?_
    rintro e w1 ⟨rfl, hb1⟩
    have HB1 := vl (HB0.out.trans (hb1.mono HB0.out.size))
    clear hb1 x0 x1
    go_wp2
    go_ret
    exact ⟨ret_int HE'.out.symm, HB1.out⟩
  | true =>
    have HT := vl (step _ h0)
    clear step
    cases h2 : inB d 0 1000000000 with
    | false =>
      have HE' : Veil (pacZ T d = 0) := vl (HE.out.trans (by simp [h0, h2]))
      clear HE h0
      go_enter Try.func15, Try.ntmps15
      go_wp2_with fail
      refine (HT.out _ HP.out).mono ?_
      rintro e w1 ⟨rfl, hb1⟩
      have HB1 := vl (HB0.out.trans (hb1.mono HB0.out.size))
      clear hb1 x0 x1
      go_wp2_with (go_at_call 65; refine (in_spec _ _ _ _).mono ?_; rintro e w' ⟨rfl, rfl⟩)
      go_ret
      exact ⟨ret_int HE'.out.symm, HB1.out⟩
    | true =>
      obtain ⟨e0, e1⟩ := inB_iff.1 h2
      by_cases h3 : d < dr
      · have HE' : Veil (pacZ T d = 0) := vl (HE.out.trans (by simp [h0, h2, h3]))
        clear HE h0
        go_enter Try.func15, Try.ntmps15
        go_wp2_with fail
        refine (HT.out _ HP.out).mono ?_
        rintro e w1 ⟨rfl, hb1⟩
        have HB1 := vl (HB0.out.trans (hb1.mono HB0.out.size))
        have HX1 := vl (HX0.out.below hb1)
        have HP1 := vl (HP.out.below hb1)
        clear hb1 x0 x1
        obtain ⟨x0, x1⟩ := HX1.out
        go_wp2_with (first | (go_at_call 65; refine (in_spec _ _ _ _).mono ?_; rintro e w' ⟨rfl, rfl⟩) | (go_at_call 66; refine (HD.out _ HP1.out).mono ?_; rintro e w2 ⟨rfl, hb2⟩; have HB2 := vl (HB1.out.trans (hb2.mono HB1.out.size)); clear hb2))
        go_ret
        exact ⟨ret_int HE'.out.symm, HB2.out⟩
      · have h3' : dr ≤ d := by omega
        by_cases h4 : 2 * d < 3 * dr
        · have HE' : Veil (pacZ T d = (sp + 1) / 2) := vl (HE.out.trans (by simp [h0, h2, h3, h4]))
          clear HE h0 h3
          go_enter Try.func15, Try.ntmps15
          go_wp2_with fail
          refine (HT.out _ HP.out).mono ?_
          rintro e w1 ⟨rfl, hb1⟩
          have HB1 := vl (HB0.out.trans (hb1.mono HB0.out.size))
          have HX1 := vl (HX0.out.below hb1)
          have HP1 := vl (HP.out.below hb1)
          clear hb1 x0 x1
          obtain ⟨x0, x1⟩ := HX1.out
          go_wp2_with (go_at_call 65; refine (in_spec _ _ _ _).mono ?_; rintro e w' ⟨rfl, rfl⟩)
          refine (HD.out _ HP1.out).mono ?_
          rintro e w2 ⟨rfl, hb2⟩
          have HB2 := vl (HB1.out.trans (hb2.mono HB1.out.size))
          have HX2 := vl (HX1.out.below hb2)
          have HP2 := vl (HP1.out.below hb2)
          clear hb2 x0 x1
          obtain ⟨x0, x1⟩ := HX2.out
          go_wp2_with fail
          refine (HD.out _ HP2.out).mono ?_
          rintro e w3 ⟨rfl, hb3⟩
          have HB3 := vl (HB2.out.trans (hb3.mono HB2.out.size))
          have HX3 := vl (HX2.out.below hb3)
          have HP3 := vl (HP2.out.below hb3)
          clear hb3 x0 x1
          obtain ⟨x0, x1⟩ := HX3.out
          go_wp2_with fail
          refine (HS.out _ HP3.out).mono ?_
          rintro e w4 ⟨rfl, hb4⟩
          have HB4 := vl (HB3.out.trans (hb4.mono HB3.out.size))
          clear hb4 x0 x1
          go_wp2
          go_ret
          exact ⟨ret_int (HE'.out.trans (by omega)).symm, HB4.out⟩
        · have h4' : 3 * dr ≤ 2 * d := by omega
          have HE' : Veil (pacZ T d = sp) := vl (HE.out.trans (by simp [h0, h2, h3, h4]))
          clear HE h0 h3 h4
          go_enter Try.func15, Try.ntmps15
          go_wp2_with fail
          refine (HT.out _ HP.out).mono ?_
          rintro e w1 ⟨rfl, hb1⟩
          have HB1 := vl (HB0.out.trans (hb1.mono HB0.out.size))
          have HX1 := vl (HX0.out.below hb1)
          have HP1 := vl (HP.out.below hb1)
          clear hb1 x0 x1
          obtain ⟨x0, x1⟩ := HX1.out
          go_wp2_with (go_at_call 65; refine (in_spec _ _ _ _).mono ?_; rintro e w' ⟨rfl, rfl⟩)
          refine (HD.out _ HP1.out).mono ?_
          rintro e w2 ⟨rfl, hb2⟩
          have HB2 := vl (HB1.out.trans (hb2.mono HB1.out.size))
          have HX2 := vl (HX1.out.below hb2)
          have HP2 := vl (HP1.out.below hb2)
          clear hb2 x0 x1
          obtain ⟨x0, x1⟩ := HX2.out
          go_wp2_with fail
          refine (HD.out _ HP2.out).mono ?_
          rintro e w3 ⟨rfl, hb3⟩
          have HB3 := vl (HB2.out.trans (hb3.mono HB2.out.size))
          have HX3 := vl (HX2.out.below hb3)
          have HP3 := vl (HP2.out.below hb3)
          clear hb3 x0 x1
          obtain ⟨x0, x1⟩ := HX3.out
          go_wp2_with fail
          refine (HS.out _ HP3.out).mono ?_
          rintro e w4 ⟨rfl, hb4⟩
          have HB4 := vl (HB3.out.trans (hb4.mono HB3.out.size))
          clear hb4 x0 x1
          go_wp2
          go_ret
          exact ⟨ret_int HE'.out.symm, HB4.out⟩
set_option maxHeartbeats 4000000 in
theorem wpace_impl (up : Bool) (A : Option Addr) (c : Nat) (T : List (List Bt)) (d : Int) (w : World) (hd0 : 0 ≤ d) (hd1 : d ≤ 1000000000) (hm : Mod T) (hp : Trn w A T) :
    Calls Try.prog 71 #[.agg #[.int .i64 d], .agg #[.bool up, .slice A T.length c]] w (AnsI w (pacC T d)) := by
  have hB := ((Below.refl w.heap.size w).alloc (Nat.le_refl _) (.cells #[.int .i64 d] 120)).alloc (by simp) (.cells #[.bool up, .slice A T.length c] 29)
  have HX0 : Veil (TBox ((w.alloc (.cells #[.int .i64 d] 120)).alloc (.cells #[.bool up, .slice A T.length c] 29)) (w.heap.size + 1) up A T.length c) := vl (by have h := TBox.new (w.alloc (.cells #[.int .i64 d] 120)) up A T.length c 29; simpa using h)
  have HW0 : Veil (((w.alloc (.cells #[.int .i64 d] 120)).alloc (.cells #[.bool up, .slice A T.length c] 29)).cell? ⟨w.heap.size, 0, none⟩ = some (.int .i64 d)) := vl (by simp)
  have HP := vl (hp.below hB)
  have HB0 := vl hB
  have HM := vl hm
  generalize hW : (w.alloc (.cells #[.int .i64 d] 120)).alloc (.cells #[.bool up, .slice A T.length c] 29) = W at *
  obtain ⟨dr, hdr⟩ : ∃ dr, draT T = dr := ⟨_, rfl⟩
  obtain ⟨sp, hsp⟩ : ∃ sp, speT T = sp := ⟨_, rfl⟩
  have HD := vl (fun (w : World) (ht : Trn w A T) => by have h := dra_impl up A c T w hm ht; rw [hdr] at h; exact h)
  have HS := vl (fun (w : World) (ht : Trn w A T) => by have h := spe_impl up A c T w hm ht; rw [hsp] at h; exact h)
  have hd := draT_bd T
  have hs := speT_bd T
  rw [hdr] at hd
  rw [hsp] at hs
  obtain ⟨d0, d1⟩ := hd
  obtain ⟨s0, s1⟩ := hs
  have HE := vl (show pacC T d = if d < dr then 0 else if 2 * d < 3 * dr then (sp + 1) / 2 else sp by rw [← hdr, ← hsp]; rfl)
  have x0 := HX0.out.1
  have x1 := HX0.out.2
  have z0 := HW0.out
  clear hm hp hdr hsp hB
  go_enter Try.func71, Try.ntmps71
  go_wp2
  try rw [hW]
  clear hW
  go_region_held3 (fun w' => w'.cell? ⟨w.heap.size + 1, 0, none⟩ = some (.bool up) ∧ w'.cell? ⟨w.heap.size + 1, 1, none⟩ = some (.slice A T.length c) ∧ w'.cell? ⟨w.heap.size, 0, none⟩ = some (.int .i64 d) ∧ Below W.heap.size W w')
    (first | exact ⟨x0, x1, z0, Below.refl _ _⟩ | exact ⟨x0, x1, z0, (Below.refl _ _).drew⟩ | assumption)
    (first
      | (go_at_call 147; obtain ⟨a0, a1, a2, hb7⟩ : _ ∧ _ ∧ _ ∧ Below W.heap.size W _ := by assumption
         refine (HD.out _ (HP.out.below hb7)).mono ?_
         rintro en w' ⟨rfl, hb'⟩
         have S1 := And.intro ((hb'.cell (cell_lt' a0)).trans a0) (And.intro ((hb'.cell (cell_lt' a1)).trans a1) (And.intro ((hb'.cell (cell_lt' a2)).trans a2) (hb7.trans (hb'.mono hb7.size))))
         clear hb')
      | (go_at_call 148; obtain ⟨a0, a1, a2, hb7⟩ : _ ∧ _ ∧ _ ∧ Below W.heap.size W _ := by assumption
         refine (HS.out _ (HP.out.below hb7)).mono ?_
         rintro en w' ⟨rfl, hb'⟩
         have S2 := And.intro ((hb'.cell (cell_lt' a0)).trans a0) (And.intro ((hb'.cell (cell_lt' a1)).trans a1) (And.intro ((hb'.cell (cell_lt' a2)).trans a2) (hb7.trans (hb'.mono hb7.size))))
         clear hb'))
  obtain ⟨a0, a1, a2, hb9⟩ : _ ∧ _ ∧ _ ∧ Below W.heap.size W _ := by assumption
  have HB9 := vl (HB0.out.trans (hb9.mono HB0.out.size))
  clear hb9 S1 S2 x0 x1 z0
  by_cases h3 : d < dr
  · have HE' := vl (HE.out.trans (by rw [if_pos h3]))
    clear HE
    go_wp2
    go_ret
    exact ⟨ret_int HE'.out.symm, HB9.out⟩
  · have h3' : dr ≤ d := by omega
    by_cases h4 : 2 * d < 3 * dr
    · have HE' := vl (HE.out.trans (by rw [if_neg h3, if_pos h4]))
      clear HE h3
      go_wp2
      go_ret
      exact ⟨ret_int (HE'.out.trans (by omega)).symm, HB9.out⟩
    · have h4' : 3 * dr ≤ 2 * d := by omega
      have HE' := vl (HE.out.trans (by rw [if_neg h3, if_neg h4]))
      clear HE h3 h4
      go_wp2
      go_ret
      exact ⟨ret_int HE'.out.symm, HB9.out⟩
set_option maxHeartbeats 2000000 in
theorem pace_impl (up : Bool) (A : Option Addr) (c : Nat) (T : List (List Bt)) (d : Int) (w : World) (hm : Mod T) (hp : Trn w A T) :
    Calls Try.prog 17 #[.agg #[.bool up, .slice A T.length c], .int .i64 d] w (AnsI w (pacZ T d)) := by
  have HB0 := vl ((Below.refl w.heap.size w).alloc (Nat.le_refl _) (.cells #[.bool up, .slice A T.length c] 29))
  have HP := vl (hp.alloc (.cells #[.bool up, .slice A T.length c] 29))
  have HX0 := vl (TBox.new w up A T.length c 29)
  have HM := vl hm
  have HE := vl (show pacZ T d = if (tOk T && inB d 0 1000000000) = true then pacC T d else 0 from rfl)
  obtain ⟨x0, x1⟩ := HX0.out
  clear hm hp
  cases h0 : tOk T <;> cases h2 : inB d 0 1000000000
  all_goals
    have HE' := vl (HE.out.trans (by rw [h0, h2]))
    have H0 := vl h0
    clear HE h0
    go_enter Try.func17, Try.ntmps17
    go_wp2_with fail
    refine (tok_impl up A c T _ HM.out HP.out).mono ?_
    rintro e w1 ⟨rfl, hb1⟩
    rw [H0.out]
    have HB1 := vl (HB0.out.trans (hb1.mono HB0.out.size))
    have HX1 := vl (HX0.out.below hb1)
    have HP1 := vl (HP.out.below hb1)
    clear hb1 x0 x1
    obtain ⟨x0, x1⟩ := HX1.out
    go_wp2_with (first | (go_at_call 70; refine (amount_impl _ _).mono ?_; rintro e w' ⟨rfl, rfl⟩) | (go_at_call 71; refine (wpace_impl up A c T d _ (inB_iff.1 h2).1 (inB_iff.1 h2).2 HM.out HP1.out).mono ?_; rintro e w2 ⟨rfl, hb2⟩; have HB2 := vl (HB1.out.trans (hb2.mono HB1.out.size)); clear hb2))
    go_ret
    first | exact ⟨ret_int HE'.out.symm, HB2.out⟩ | exact ⟨ret_int HE'.out.symm, HB1.out⟩
end Go.Proofs.Ytngmpimoebggdaa.C1
