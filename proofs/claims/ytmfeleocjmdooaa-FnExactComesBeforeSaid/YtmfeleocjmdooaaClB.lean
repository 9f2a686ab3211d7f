/- Which call goes before which: of the model. -/
import Derived.Test.YtmfeleocjmdooaaClR
import Derived.Test.YtmfeleocjmdooaaTrId
import Derived.Test.YtmfeleocjmdooaaHeld
namespace Go.Proofs.Ytmfeleocjmdooaa.C1
open Go.ChangeShapes Go.WideShapes Go.ChangeAt Go.RowKit
set_option linter.unusedVariables false
set_option linter.unusedSimpArgs false

theorem idN_pos {T : List (List Bt)} (h : tOk T = true) : 0 < idN T := by unfold idN; rw [if_pos h]; exact (tOk_iff.1 h).n0
/-- How the model goes about it. -/
theorem bf_none {a b : Cl} {now : Int} (h : rkZ a now = 3 ∨ rkZ b now = 3) : bfZ a b now = false := by
  rw [Bool.eq_false_iff]
  intro h'
  have := (bf_iff.1 h').1
  omega
theorem bf_rank {a b : Cl} {now : Int} (ha : rkZ a now ≠ 3) (hb : rkZ b now ≠ 3) (h : rkZ a now ≠ rkZ b now) : bfZ a b now = decide (rkZ a now < rkZ b now) := by
  rw [Bool.eq_iff_iff, bf_iff, ltS_iff, decide_eq_true_iff]
  show _ ∧ (rkZ a now < rkZ b now ∨ (rkZ a now = rkZ b now ∧ _)) ↔ _
  constructor
  · rintro ⟨_, h1 | ⟨h1, _⟩⟩
    · exact h1
    · exact absurd h1 h
  · exact fun h1 => ⟨⟨ha, hb⟩, Or.inl h1⟩
theorem bf_book {a b : Cl} {now : Int} (ha : rkZ a now = -1) (hb : rkZ b now = -1) (h : a.b ≠ b.b) : bfZ a b now = decide (a.b < b.b) := by
  rw [Bool.eq_iff_iff, bf_iff, ltS_iff, decide_eq_true_iff]
  simp only [sgOf]
  by_cases h0 : rkZ a now = -1 <;> by_cases h0' : rkZ b now = -1
  all_goals
    first | rw [if_pos h0] | rw [if_neg h0]
    first | rw [if_pos h0'] | rw [if_neg h0']
    omega
theorem bf_since {a b : Cl} {now : Int} (ha : rkZ a now ≠ 3) (he : rkZ a now = rkZ b now) (hb : rkZ a now = -1 → a.b = b.b) (h : a.s ≠ b.s) : bfZ a b now = decide (a.s < b.s) := by
  rw [Bool.eq_iff_iff, bf_iff, ltS_iff, decide_eq_true_iff]
  simp only [sgOf]
  by_cases h0 : rkZ a now = -1 <;> by_cases h0' : rkZ b now = -1
  all_goals
    first | rw [if_pos h0] | rw [if_neg h0]
    first | rw [if_pos h0'] | rw [if_neg h0']
    omega
theorem bf_id {a b : Cl} {now : Int} (ha : rkZ a now ≠ 3) (he : rkZ a now = rkZ b now) (hb : rkZ a now = -1 → a.b = b.b) (h : a.s = b.s) : bfZ a b now = decide (fstZ a < fstZ b) := by
  rw [Bool.eq_iff_iff, bf_iff, ltS_iff, decide_eq_true_iff]
  simp only [sgOf]
  by_cases h0 : rkZ a now = -1 <;> by_cases h0' : rkZ b now = -1
  all_goals
    first | rw [if_pos h0] | rw [if_neg h0]
    first | rw [if_pos h0'] | rw [if_neg h0']
    omega
set_option maxRecDepth 100000 in
set_option maxHeartbeats 8000000 in
theorem before_spec (a b : Cl) (now : Int) (A B : Option Addr) (c d : Nat) (w : World) (ha : Mod a.T) (hb : Mod b.T) (hp : Trn w A a.T) (hq : Trn w B b.T) :
    Calls Try.prog 95 #[.agg #[.bool a.up, .slice A a.T.length c, .int .i64 a.s, .int .i64 a.b], .agg #[.bool b.up, .slice B b.T.length d, .int .i64 b.s, .int .i64 b.b], .int .i64 now] w (GivesB w (bfZ a b now)) := by
  have HB0 := vl (((Below.refl w.heap.size w).alloc (Nat.le_refl _) (.cells #[.bool a.up, .slice A a.T.length c, .int .i64 a.s, .int .i64 a.b] 44)).alloc (by simp) (.cells #[.bool b.up, .slice B b.T.length d, .int .i64 b.s, .int .i64 b.b] 44))
  have hx0 : CBox ((w.alloc (.cells #[.bool a.up, .slice A a.T.length c, .int .i64 a.s, .int .i64 a.b] 44)).alloc (.cells #[.bool b.up, .slice B b.T.length d, .int .i64 b.s, .int .i64 b.b] 44)) w.heap.size a.up A a.T.length c a.s a.b := (CBox.new w a.up A a.T.length c a.s a.b 44).below ((Below.refl _ _).alloc (Nat.le_refl _) _)
  have hy0 : CBox ((w.alloc (.cells #[.bool a.up, .slice A a.T.length c, .int .i64 a.s, .int .i64 a.b] 44)).alloc (.cells #[.bool b.up, .slice B b.T.length d, .int .i64 b.s, .int .i64 b.b] 44)) (w.heap.size + 1) b.up B b.T.length d b.s b.b := by
    have := CBox.new (w.alloc (.cells #[.bool a.up, .slice A a.T.length c, .int .i64 a.s, .int .i64 a.b] 44)) b.up B b.T.length d b.s b.b 44
    simpa using this
  have HX0 := vl hx0
  have HY0 := vl hy0
  have HP := vl (hp.below HB0.out)
  have HQ := vl (hq.below HB0.out)
  have HMA := vl ha
  have HMB := vl hb
  obtain ⟨x0, x1, x2, x3⟩ := hx0
  obtain ⟨y0, y1, y2, y3⟩ := hy0
  clear hp hq ha hb
  obtain ⟨k0, k1⟩ := rk_bd (C := a) (now := now)
  obtain ⟨l0, l1⟩ := rk_bd (C := b) (now := now)
  go_enter Try.func95, Try.ntmps95
  go_wp2_with fail
  refine (rank_spec a now A c _ HMA.out HP.out).mono ?_
  rintro e w1 ⟨rfl, hb1⟩
  have HB1 := vl (HB0.out.trans (hb1.mono HB0.out.size))
  have HX1 := vl (HX0.out.below hb1)
  have HY1 := vl (HY0.out.below hb1)
  have HP1 := vl (HP.out.below hb1)
  have HQ1 := vl (HQ.out.below hb1)
  clear hb1 x0 x1 x2 x3 y0 y1 y2 y3 HX0 HY0 HP HQ
  obtain ⟨x0, x1, x2, x3⟩ := HX1.out
  obtain ⟨y0, y1, y2, y3⟩ := HY1.out
  go_wp2_with fail
  refine (rank_spec b now B d _ HMB.out HQ1.out).mono ?_
  rintro e w2 ⟨rfl, hb2⟩
  have HB2 := vl (HB1.out.trans (hb2.mono HB1.out.size))
  have HX2 := vl (HX1.out.below hb2)
  have HY2 := vl (HY1.out.below hb2)
  have HP2 := vl (HP1.out.below hb2)
  have HQ2 := vl (HQ1.out.below hb2)
  have q1 := HX2.out.lt
  have q2 := HY2.out.lt
  clear hb2 x0 x1 x2 x3 y0 y1 y2 y3 HX1 HY1 HP1 HQ1
  obtain ⟨x0, x1, x2, x3⟩ := HX2.out
  obtain ⟨y0, y1, y2, y3⟩ := HY2.out
  have HF1 := vl (fun h => bf_none (a := a) (b := b) (now := now) h)
  have HF2 := vl (fun h1 h2 h3 => bf_rank (a := a) (b := b) (now := now) h1 h2 h3)
  have HF3 := vl (fun h1 h2 h3 => bf_book (a := a) (b := b) (now := now) h1 h2 h3)
  have HF4 := vl (fun h1 h2 h3 h4 => bf_since (a := a) (b := b) (now := now) h1 h2 h3 h4)
  have HF5 := vl (fun h1 h2 h3 h4 => bf_id (a := a) (b := b) (now := now) h1 h2 h3 h4)
  have HOK := vl (fun h => rk_ok (C := a) (now := now) h)
  have HOK' := vl (fun h => rk_ok (C := b) (now := now) h)
  generalize rkZ a now = m at *
  generalize rkZ b now = n at *
  by_cases h1 : m = 3
  · subst h1
    have H := vl (HF1.out (Or.inl rfl))
    go_wp2
    go_ret
    exact ⟨ret_bool H.out.symm, HB2.out⟩
  have h1' : (m == 3) = false := by simp [h1]
  by_cases h2 : n = 3
  · subst h2
    have H := vl (HF1.out (Or.inr rfl))
    clear h1
    go_wp2
    go_ret
    exact ⟨ret_bool H.out.symm, HB2.out⟩
  have h2' : (n == 3) = false := by simp [h2]
  by_cases h3 : m = n
  · subst h3
    have h3' : (m != m) = false := by simp
    by_cases h4 : m = -1
    · subst h4
      by_cases h5 : a.b = b.b
      · have h5' : (a.b != b.b) = false := by simp [h5]
        by_cases h6 : a.s = b.s
        · have h6' : (a.s != b.s) = false := by simp [h6]
          have H := vl (HF5.out h1 rfl (fun _ => h5) h6)
          have HTA := vl (clOk_iff.1 (HOK.out h1).1).t
          have HTB := vl (clOk_iff.1 (HOK'.out h1).1).t
          have hpa := idN_pos HTA.out
          have hpb := idN_pos HTB.out
          clear h1 h2 h6 h5
          go_wp2
          refine wp_region_held_drew (S := fun w' => w'.cell? ⟨w.heap.size, 0, none⟩ = some (.bool a.up) ∧ w'.cell? ⟨w.heap.size, 1, none⟩ = some (.slice A a.T.length c) ∧ w'.cell? ⟨w.heap.size + 1, 0, none⟩ = some (.bool b.up) ∧ w'.cell? ⟨w.heap.size + 1, 1, none⟩ = some (.slice B b.T.length d) ∧ Below w2.heap.size w2 w') (by kernel_rfl) ⟨x0, x1, y0, y1, (Below.refl _ _).drew⟩ (fun hHeld0 => ?_)
          clear x0 x1 x2 x3 y0 y1 y2 y3
          try dsimp only at hHeld0
          refine wpAnyH_take (i := 0) (oi := _) (v := ?_) rfl (by kernel_rfl) (by kernel_rfl) (by kernel_rfl) (fun _ _ _ h => h) (Or.inl ⟨by rfl, ?_⟩) (by assumption) ?_
          rotate_left 1
          · intro w hSw
            try dsimp only at hSw
            go_simp
            try with_reducible rfl
          try simp only [Act.put, List.setIfInBounds_toArray, List.set_cons_zero, List.set_cons_succ]
          refine wpAnyH_take (i := 1) (oi := _) (v := ?_) rfl (by kernel_rfl) (by kernel_rfl) (by kernel_rfl) (fun _ _ _ h => h) (Or.inl ⟨by rfl, ?_⟩) (by assumption) ?_
          rotate_left 1
          · intro w hSw
            try dsimp only at hSw
            go_simp
            try with_reducible rfl
          try simp only [Act.put, List.setIfInBounds_toArray, List.set_cons_zero, List.set_cons_succ]
          refine wpAnyH_take (i := 5) (oi := _) (v := ?_) rfl (by kernel_rfl) (by kernel_rfl) (by kernel_rfl) (fun _ _ _ h => h) (Or.inl ⟨by rfl, ?_⟩) (by assumption) ?_
          rotate_left 1
          · intro w hSw
            try dsimp only at hSw
            go_simp
            try with_reducible rfl
          try simp only [Act.put, List.setIfInBounds_toArray, List.set_cons_zero, List.set_cons_succ]
          refine wpAnyH_take (i := 6) (oi := _) (v := ?_) rfl (by kernel_rfl) (by kernel_rfl) (by kernel_rfl) (fun _ _ _ h => h) (Or.inl ⟨by rfl, ?_⟩) (by assumption) ?_
          rotate_left 1
          · intro w hSw
            try dsimp only at hSw
            go_simp
            try with_reducible rfl
          try simp only [Act.put, List.setIfInBounds_toArray, List.set_cons_zero, List.set_cons_succ]
          refine wpAnyH_ready (rs := [2]) (by kernel_rfl) (by simp) ?_
          refine AllReadyH.cons (o := _) rfl (fun K hK => ?_) AllReadyH.nil
          go_simp
          go_at_call 55
          obtain ⟨a0, a1, a2, a3, hb7⟩ : _ ∧ _ ∧ _ ∧ _ ∧ Below w2.heap.size w2 _ := by assumption
          with_reducible refine (idsof_spec a.up A c a.T _ HMA.out (HP2.out.below hb7)).mono ?_
          rintro e w' ⟨⟨A', c', ga, rfl, hr, _, hg, hl⟩, hb'⟩
          have ca : w'.cell? ⟨ga, 0, none⟩ = some (.int .i64 (fstZ a)) := hr.2 0 (idN_pos HTA.out)
          obtain rfl := hr.1 (idN_pos HTA.out)
          have S1 := And.intro ((hb'.cell (cell_lt' a0)).trans a0) (And.intro ((hb'.cell (cell_lt' a1)).trans a1) (And.intro ((hb'.cell (cell_lt' a2)).trans a2) (And.intro ((hb'.cell (cell_lt' a3)).trans a3) (hb7.trans (hb'.mono hb7.size)))))
          clear hr hg hl
          go_simp
          refine hK.out _ _ S1 (fun hHeld => ?_)
          clear hK K
          try simp only [Act.put, List.setIfInBounds_toArray, List.set_cons_zero, List.set_cons_succ]
          refine wpAnyH_strong (S' := fun w' => (w'.cell? ⟨w.heap.size, 0, none⟩ = some (.bool a.up) ∧ w'.cell? ⟨w.heap.size, 1, none⟩ = some (.slice A a.T.length c) ∧ w'.cell? ⟨w.heap.size + 1, 0, none⟩ = some (.bool b.up) ∧ w'.cell? ⟨w.heap.size + 1, 1, none⟩ = some (.slice B b.T.length d) ∧ Below w2.heap.size w2 w') ∧ w'.cell? ⟨ga, 0, none⟩ = some (.int .i64 (fstZ a))) (fun _ h => h.1) ?_
          have hHeld2 : (fun w' => (w'.cell? ⟨w.heap.size, 0, none⟩ = some (.bool a.up) ∧ w'.cell? ⟨w.heap.size, 1, none⟩ = some (.slice A a.T.length c) ∧ w'.cell? ⟨w.heap.size + 1, 0, none⟩ = some (.bool b.up) ∧ w'.cell? ⟨w.heap.size + 1, 1, none⟩ = some (.slice B b.T.length d) ∧ Below w2.heap.size w2 w') ∧ w'.cell? ⟨ga, 0, none⟩ = some (.int .i64 (fstZ a))) w' := ⟨hHeld, ca⟩
          try dsimp only at hHeld2
          clear hHeld S1 hb' a0 a1 a2 a3 hb7 hHeld0
          refine wpAnyH_take (i := 3) (oi := _) (v := ?_) rfl (by kernel_rfl) (by kernel_rfl) (by kernel_rfl) (fun _ _ _ h => h) (Or.inl ⟨by rfl, ?_⟩) (by assumption) ?_
          rotate_left 1
          · intro w hSw
            try dsimp only at hSw
            go_simp
            try with_reducible rfl
          try simp only [Act.put, List.setIfInBounds_toArray, List.set_cons_zero, List.set_cons_succ]
          refine wpAnyH_take (i := 4) (oi := _) (v := ?_) rfl (by kernel_rfl) (by kernel_rfl) (by kernel_rfl) (fun _ _ _ h => h) (Or.inl ⟨by rfl, ?_⟩) (by assumption) ?_
          rotate_left 1
          · intro w hSw
            try dsimp only at hSw
            go_simp
            try with_reducible rfl
          try simp only [Act.put, List.setIfInBounds_toArray, List.set_cons_zero, List.set_cons_succ]
          refine wpAnyH_ready (rs := [7]) (by kernel_rfl) (by simp) ?_
          refine AllReadyH.cons (o := _) rfl (fun K hK => ?_) AllReadyH.nil
          go_simp
          go_at_call 55
          obtain ⟨⟨a0, a1, a2, a3, hb7⟩, a4⟩ : (_ ∧ _ ∧ _ ∧ _ ∧ Below w2.heap.size w2 _) ∧ _ := by assumption
          with_reducible refine (idsof_spec b.up B d b.T _ HMB.out (HQ2.out.below hb7)).mono ?_
          rintro e w' ⟨⟨A', c', gb, rfl, hr, _, hg, hl⟩, hb'⟩
          have cb : w'.cell? ⟨gb, 0, none⟩ = some (.int .i64 (fstZ b)) := hr.2 0 (idN_pos HTB.out)
          obtain rfl := hr.1 (idN_pos HTB.out)
          have S1 := And.intro ((hb'.cell (cell_lt' a0)).trans a0) (And.intro ((hb'.cell (cell_lt' a1)).trans a1) (And.intro ((hb'.cell (cell_lt' a2)).trans a2) (And.intro ((hb'.cell (cell_lt' a3)).trans a3) (hb7.trans (hb'.mono hb7.size)))))
          have a4' := (hb'.cell (cell_lt' a4)).trans a4
          clear hr hg hl
          go_simp
          refine hK.out _ _ ⟨S1, a4'⟩ (fun hHeld => ?_)
          clear hK K
          try simp only [Act.put, List.setIfInBounds_toArray, List.set_cons_zero, List.set_cons_succ]
          refine wpAnyH_strong (S' := fun w' => ((w'.cell? ⟨w.heap.size, 0, none⟩ = some (.bool a.up) ∧ w'.cell? ⟨w.heap.size, 1, none⟩ = some (.slice A a.T.length c) ∧ w'.cell? ⟨w.heap.size + 1, 0, none⟩ = some (.bool b.up) ∧ w'.cell? ⟨w.heap.size + 1, 1, none⟩ = some (.slice B b.T.length d) ∧ Below w2.heap.size w2 w') ∧ w'.cell? ⟨ga, 0, none⟩ = some (.int .i64 (fstZ a))) ∧ w'.cell? ⟨gb, 0, none⟩ = some (.int .i64 (fstZ b))) (fun _ h => h.1) ?_
          have hHeld3 : (fun w' => ((w'.cell? ⟨w.heap.size, 0, none⟩ = some (.bool a.up) ∧ w'.cell? ⟨w.heap.size, 1, none⟩ = some (.slice A a.T.length c) ∧ w'.cell? ⟨w.heap.size + 1, 0, none⟩ = some (.bool b.up) ∧ w'.cell? ⟨w.heap.size + 1, 1, none⟩ = some (.slice B b.T.length d) ∧ Below w2.heap.size w2 w') ∧ w'.cell? ⟨ga, 0, none⟩ = some (.int .i64 (fstZ a))) ∧ w'.cell? ⟨gb, 0, none⟩ = some (.int .i64 (fstZ b))) w' := ⟨hHeld, cb⟩
          try dsimp only at hHeld3
          have hb9 := hHeld3.1.1.2.2.2.2
          clear hHeld S1 hb' a0 a1 a2 a3 a4 a4' hb7 hHeld2
          refine wpAnyH_take (i := 8) (oi := _) (v := ?_) rfl (by kernel_rfl) (by kernel_rfl) (by kernel_rfl) (fun _ _ _ h => h) (Or.inl ⟨by rfl, ?_⟩) (by assumption) ?_
          rotate_left 1
          · intro w hSw
            try dsimp only at hSw
            go_simp
            try with_reducible rfl
          try simp only [Act.put, List.setIfInBounds_toArray, List.set_cons_zero, List.set_cons_succ]
          refine wpAnyH_take (i := 9) (oi := _) (v := ?_) rfl (by kernel_rfl) (by kernel_rfl) (by kernel_rfl) (fun _ _ _ h => h) (Or.inl ⟨by rfl, ?_⟩) (by assumption) ?_
          rotate_left 1
          · intro w hSw
            try dsimp only at hSw
            go_simp
            try with_reducible rfl
          try simp only [Act.put, List.setIfInBounds_toArray, List.set_cons_zero, List.set_cons_succ]
          refine wpAnyH_take (i := 10) (oi := _) (v := ?_) rfl (by kernel_rfl) (by kernel_rfl) (by kernel_rfl) (fun _ _ _ h => h) (Or.inl ⟨by rfl, ?_⟩) (by assumption) ?_
          rotate_left 1
          · intro w hSw
            try dsimp only at hSw
            go_simp
            try with_reducible rfl
          try simp only [Act.put, List.setIfInBounds_toArray, List.set_cons_zero, List.set_cons_succ]
          refine wpAnyH_take (i := 11) (oi := _) (v := ?_) rfl (by kernel_rfl) (by kernel_rfl) (by kernel_rfl) (fun _ _ _ h => h) (Or.inl ⟨by rfl, ?_⟩) (by assumption) ?_
          rotate_left 1
          · intro w hSw
            try dsimp only at hSw
            go_simp
            try with_reducible rfl
          try simp only [Act.put, List.setIfInBounds_toArray, List.set_cons_zero, List.set_cons_succ]
          refine wpAnyH_done (by kernel_rfl) ?_ _
          go_simp
          go_wp2
          go_ret
          exact ⟨ret_bool H.out.symm, HB2.out.trans (hb9.mono HB2.out.size)⟩
        · have h6' : (a.s != b.s) = true := by simp [h6]
          have H := vl (HF4.out h1 rfl (fun _ => h5) h6)
          clear h1 h2 h6 h5
          go_wp2
          all_goals
            go_ret
            exact ⟨ret_bool (by rw [H.out]; first | done | (simp; omega)), HB2.out⟩
      · have h5' : (a.b != b.b) = true := by simp [h5]
        have H := vl (HF3.out rfl rfl h5)
        clear h1 h2 h5
        go_wp2
        all_goals
          go_ret
          exact ⟨ret_bool (by rw [H.out]; first | done | (simp; omega)), HB2.out⟩
    · have h4' : (m == -1) = false := by simp [h4]
      by_cases h6 : a.s = b.s
      · have h6' : (a.s != b.s) = false := by simp [h6]
        have H := vl (HF5.out h1 rfl (fun h => absurd h h4) h6)
        have HTA := vl (clOk_iff.1 (HOK.out h1).1).t
        have HTB := vl (clOk_iff.1 (HOK'.out h1).1).t
        have hpa := idN_pos HTA.out
        have hpb := idN_pos HTB.out
        clear h1 h2 h6 h4
        go_wp2
        refine wp_region_held_drew (S := fun w' => w'.cell? ⟨w.heap.size, 0, none⟩ = some (.bool a.up) ∧ w'.cell? ⟨w.heap.size, 1, none⟩ = some (.slice A a.T.length c) ∧ w'.cell? ⟨w.heap.size + 1, 0, none⟩ = some (.bool b.up) ∧ w'.cell? ⟨w.heap.size + 1, 1, none⟩ = some (.slice B b.T.length d) ∧ Below w2.heap.size w2 w') (by kernel_rfl) ⟨x0, x1, y0, y1, (Below.refl _ _).drew⟩ (fun hHeld0 => ?_)
        clear x0 x1 x2 x3 y0 y1 y2 y3
        try dsimp only at hHeld0
        refine wpAnyH_take (i := 0) (oi := _) (v := ?_) rfl (by kernel_rfl) (by kernel_rfl) (by kernel_rfl) (fun _ _ _ h => h) (Or.inl ⟨by rfl, ?_⟩) (by assumption) ?_
        rotate_left 1
        · intro w hSw
          try dsimp only at hSw
          go_simp
          try with_reducible rfl
        try simp only [Act.put, List.setIfInBounds_toArray, List.set_cons_zero, List.set_cons_succ]
        refine wpAnyH_take (i := 1) (oi := _) (v := ?_) rfl (by kernel_rfl) (by kernel_rfl) (by kernel_rfl) (fun _ _ _ h => h) (Or.inl ⟨by rfl, ?_⟩) (by assumption) ?_
        rotate_left 1
        · intro w hSw
          try dsimp only at hSw
          go_simp
          try with_reducible rfl
        try simp only [Act.put, List.setIfInBounds_toArray, List.set_cons_zero, List.set_cons_succ]
        refine wpAnyH_take (i := 5) (oi := _) (v := ?_) rfl (by kernel_rfl) (by kernel_rfl) (by kernel_rfl) (fun _ _ _ h => h) (Or.inl ⟨by rfl, ?_⟩) (by assumption) ?_
        rotate_left 1
        · intro w hSw
          try dsimp only at hSw
          go_simp
          try with_reducible rfl
        try simp only [Act.put, List.setIfInBounds_toArray, List.set_cons_zero, List.set_cons_succ]
        refine wpAnyH_take (i := 6) (oi := _) (v := ?_) rfl (by kernel_rfl) (by kernel_rfl) (by kernel_rfl) (fun _ _ _ h => h) (Or.inl ⟨by rfl, ?_⟩) (by assumption) ?_
        rotate_left 1
        · intro w hSw
          try dsimp only at hSw
          go_simp
          try with_reducible rfl
        try simp only [Act.put, List.setIfInBounds_toArray, List.set_cons_zero, List.set_cons_succ]
        refine wpAnyH_ready (rs := [2]) (by kernel_rfl) (by simp) ?_
        refine AllReadyH.cons (o := _) rfl (fun K hK => ?_) AllReadyH.nil
        go_simp
        go_at_call 55
        obtain ⟨a0, a1, a2, a3, hb7⟩ : _ ∧ _ ∧ _ ∧ _ ∧ Below w2.heap.size w2 _ := by assumption
        with_reducible refine (idsof_spec a.up A c a.T _ HMA.out (HP2.out.below hb7)).mono ?_
        rintro e w' ⟨⟨A', c', ga, rfl, hr, _, hg, hl⟩, hb'⟩
        have ca : w'.cell? ⟨ga, 0, none⟩ = some (.int .i64 (fstZ a)) := hr.2 0 (idN_pos HTA.out)
        obtain rfl := hr.1 (idN_pos HTA.out)
        have S1 := And.intro ((hb'.cell (cell_lt' a0)).trans a0) (And.intro ((hb'.cell (cell_lt' a1)).trans a1) (And.intro ((hb'.cell (cell_lt' a2)).trans a2) (And.intro ((hb'.cell (cell_lt' a3)).trans a3) (hb7.trans (hb'.mono hb7.size)))))
        clear hr hg hl
        go_simp
        refine hK.out _ _ S1 (fun hHeld => ?_)
        clear hK K
        try simp only [Act.put, List.setIfInBounds_toArray, List.set_cons_zero, List.set_cons_succ]
        refine wpAnyH_strong (S' := fun w' => (w'.cell? ⟨w.heap.size, 0, none⟩ = some (.bool a.up) ∧ w'.cell? ⟨w.heap.size, 1, none⟩ = some (.slice A a.T.length c) ∧ w'.cell? ⟨w.heap.size + 1, 0, none⟩ = some (.bool b.up) ∧ w'.cell? ⟨w.heap.size + 1, 1, none⟩ = some (.slice B b.T.length d) ∧ Below w2.heap.size w2 w') ∧ w'.cell? ⟨ga, 0, none⟩ = some (.int .i64 (fstZ a))) (fun _ h => h.1) ?_
        have hHeld2 : (fun w' => (w'.cell? ⟨w.heap.size, 0, none⟩ = some (.bool a.up) ∧ w'.cell? ⟨w.heap.size, 1, none⟩ = some (.slice A a.T.length c) ∧ w'.cell? ⟨w.heap.size + 1, 0, none⟩ = some (.bool b.up) ∧ w'.cell? ⟨w.heap.size + 1, 1, none⟩ = some (.slice B b.T.length d) ∧ Below w2.heap.size w2 w') ∧ w'.cell? ⟨ga, 0, none⟩ = some (.int .i64 (fstZ a))) w' := ⟨hHeld, ca⟩
        try dsimp only at hHeld2
        clear hHeld S1 hb' a0 a1 a2 a3 hb7 hHeld0
        refine wpAnyH_take (i := 3) (oi := _) (v := ?_) rfl (by kernel_rfl) (by kernel_rfl) (by kernel_rfl) (fun _ _ _ h => h) (Or.inl ⟨by rfl, ?_⟩) (by assumption) ?_
        rotate_left 1
        · intro w hSw
          try dsimp only at hSw
          go_simp
          try with_reducible rfl
        try simp only [Act.put, List.setIfInBounds_toArray, List.set_cons_zero, List.set_cons_succ]
        refine wpAnyH_take (i := 4) (oi := _) (v := ?_) rfl (by kernel_rfl) (by kernel_rfl) (by kernel_rfl) (fun _ _ _ h => h) (Or.inl ⟨by rfl, ?_⟩) (by assumption) ?_
        rotate_left 1
        · intro w hSw
          try dsimp only at hSw
          go_simp
          try with_reducible rfl
        try simp only [Act.put, List.setIfInBounds_toArray, List.set_cons_zero, List.set_cons_succ]
        refine wpAnyH_ready (rs := [7]) (by kernel_rfl) (by simp) ?_
        refine AllReadyH.cons (o := _) rfl (fun K hK => ?_) AllReadyH.nil
        go_simp
        go_at_call 55
        obtain ⟨⟨a0, a1, a2, a3, hb7⟩, a4⟩ : (_ ∧ _ ∧ _ ∧ _ ∧ Below w2.heap.size w2 _) ∧ _ := by assumption
        with_reducible refine (idsof_spec b.up B d b.T _ HMB.out (HQ2.out.below hb7)).mono ?_
        rintro e w' ⟨⟨A', c', gb, rfl, hr, _, hg, hl⟩, hb'⟩
        have cb : w'.cell? ⟨gb, 0, none⟩ = some (.int .i64 (fstZ b)) := hr.2 0 (idN_pos HTB.out)
        obtain rfl := hr.1 (idN_pos HTB.out)
        have S1 := And.intro ((hb'.cell (cell_lt' a0)).trans a0) (And.intro ((hb'.cell (cell_lt' a1)).trans a1) (And.intro ((hb'.cell (cell_lt' a2)).trans a2) (And.intro ((hb'.cell (cell_lt' a3)).trans a3) (hb7.trans (hb'.mono hb7.size)))))
        have a4' := (hb'.cell (cell_lt' a4)).trans a4
        clear hr hg hl
        go_simp
        refine hK.out _ _ ⟨S1, a4'⟩ (fun hHeld => ?_)
        clear hK K
        try simp only [Act.put, List.setIfInBounds_toArray, List.set_cons_zero, List.set_cons_succ]
        refine wpAnyH_strong (S' := fun w' => ((w'.cell? ⟨w.heap.size, 0, none⟩ = some (.bool a.up) ∧ w'.cell? ⟨w.heap.size, 1, none⟩ = some (.slice A a.T.length c) ∧ w'.cell? ⟨w.heap.size + 1, 0, none⟩ = some (.bool b.up) ∧ w'.cell? ⟨w.heap.size + 1, 1, none⟩ = some (.slice B b.T.length d) ∧ Below w2.heap.size w2 w') ∧ w'.cell? ⟨ga, 0, none⟩ = some (.int .i64 (fstZ a))) ∧ w'.cell? ⟨gb, 0, none⟩ = some (.int .i64 (fstZ b))) (fun _ h => h.1) ?_
        have hHeld3 : (fun w' => ((w'.cell? ⟨w.heap.size, 0, none⟩ = some (.bool a.up) ∧ w'.cell? ⟨w.heap.size, 1, none⟩ = some (.slice A a.T.length c) ∧ w'.cell? ⟨w.heap.size + 1, 0, none⟩ = some (.bool b.up) ∧ w'.cell? ⟨w.heap.size + 1, 1, none⟩ = some (.slice B b.T.length d) ∧ Below w2.heap.size w2 w') ∧ w'.cell? ⟨ga, 0, none⟩ = some (.int .i64 (fstZ a))) ∧ w'.cell? ⟨gb, 0, none⟩ = some (.int .i64 (fstZ b))) w' := ⟨hHeld, cb⟩
        try dsimp only at hHeld3
        have hb9 := hHeld3.1.1.2.2.2.2
        clear hHeld S1 hb' a0 a1 a2 a3 a4 a4' hb7 hHeld2
        refine wpAnyH_take (i := 8) (oi := _) (v := ?_) rfl (by kernel_rfl) (by kernel_rfl) (by kernel_rfl) (fun _ _ _ h => h) (Or.inl ⟨by rfl, ?_⟩) (by assumption) ?_
        rotate_left 1
        · intro w hSw
          try dsimp only at hSw
          go_simp
          try with_reducible rfl
        try simp only [Act.put, List.setIfInBounds_toArray, List.set_cons_zero, List.set_cons_succ]
        refine wpAnyH_take (i := 9) (oi := _) (v := ?_) rfl (by kernel_rfl) (by kernel_rfl) (by kernel_rfl) (fun _ _ _ h => h) (Or.inl ⟨by rfl, ?_⟩) (by assumption) ?_
        rotate_left 1
        · intro w hSw
          try dsimp only at hSw
          go_simp
          try with_reducible rfl
        try simp only [Act.put, List.setIfInBounds_toArray, List.set_cons_zero, List.set_cons_succ]
        refine wpAnyH_take (i := 10) (oi := _) (v := ?_) rfl (by kernel_rfl) (by kernel_rfl) (by kernel_rfl) (fun _ _ _ h => h) (Or.inl ⟨by rfl, ?_⟩) (by assumption) ?_
        rotate_left 1
        · intro w hSw
          try dsimp only at hSw
          go_simp
          try with_reducible rfl
        try simp only [Act.put, List.setIfInBounds_toArray, List.set_cons_zero, List.set_cons_succ]
        refine wpAnyH_take (i := 11) (oi := _) (v := ?_) rfl (by kernel_rfl) (by kernel_rfl) (by kernel_rfl) (fun _ _ _ h => h) (Or.inl ⟨by rfl, ?_⟩) (by assumption) ?_
        rotate_left 1
        · intro w hSw
          try dsimp only at hSw
          go_simp
          try with_reducible rfl
        try simp only [Act.put, List.setIfInBounds_toArray, List.set_cons_zero, List.set_cons_succ]
        refine wpAnyH_done (by kernel_rfl) ?_ _
        go_simp
        go_wp2
        go_ret
        exact ⟨ret_bool H.out.symm, HB2.out.trans (hb9.mono HB2.out.size)⟩
      · have h6' : (a.s != b.s) = true := by simp [h6]
        have H := vl (HF4.out h1 rfl (fun h => absurd h h4) h6)
        clear h1 h2 h6 h4
        go_wp2
        all_goals
          go_ret
          exact ⟨ret_bool (by rw [H.out]; first | done | (simp; omega)), HB2.out⟩
  · have h3' : (m != n) = true := by simp [h3]
    have H := vl (HF2.out h1 h2 h3)
    clear h1 h2 h3
    go_wp2
    all_goals
      go_ret
      exact ⟨ret_bool (by rw [H.out]; first | done | (simp; omega)), HB2.out⟩
end Go.Proofs.Ytmfeleocjmdooaa.C1
