/- Depths and times: of the program and of its model. -/
import Derived.Test.YtngmpimoebggdaaSa2
namespace Go.Proofs.Ytngmpimoebggdaa.C1
open Go.ChangeShapes Go.WideShapes Go.ChangeAt Go.RowKit
set_option linter.unusedVariables false
set_option linter.unusedSimpArgs false

/-- The boxes of a way and of a reach. -/
theorem wr_new (Y : Wy) (r : Rc) (B D : Option Addr) (b d : Nat) (w : World) : WBox ((w.alloc (.cells #[.int .i64 Y.l, .int .i64 Y.b] 42)).alloc (.cells #[.slice B r.n b, .int .i64 r.v, .slice D r.m d] 54)) w.heap.size Y 42 ∧ Box ((w.alloc (.cells #[.int .i64 Y.l, .int .i64 Y.b] 42)).alloc (.cells #[.slice B r.n b, .int .i64 r.v, .slice D r.m d] 54)) (w.heap.size + 1) (.slice B r.n b) (.int .i64 r.v) (.slice D r.m d) 54 ∧ Below w.heap.size w ((w.alloc (.cells #[.int .i64 Y.l, .int .i64 Y.b] 42)).alloc (.cells #[.slice B r.n b, .int .i64 r.v, .slice D r.m d] 54)) :=
  ⟨(WBox.new w Y 42).alloc _, by have h := Box.new (w.alloc (.cells #[.int .i64 Y.l, .int .i64 Y.b] 42)) (.slice B r.n b) (.int .i64 r.v) (.slice D r.m d) 54; simpa using h, ((Below.refl w.heap.size w).alloc (Nat.le_refl _) (.cells #[.int .i64 Y.l, .int .i64 Y.b] 42)).alloc (by simp) (.cells #[.slice B r.n b, .int .i64 r.v, .slice D r.m d] 54)⟩
set_option maxHeartbeats 4000000 in
theorem depin_spec (Y : Wy) (r : Rc) (B D : Option Addr) (b d : Nat) (w : World) (hn : r.n ≤ 1048576) (hm : r.m ≤ 1048576) (hp : Pts w B r.n r.X r.Y) (hd : Ints w D r.m r.Z) :
    Calls Try.prog 80 #[.agg #[.int .i64 Y.l, .int .i64 Y.b], .agg #[.slice B r.n b, .int .i64 r.v, .slice D r.m d]] w (AnsI w (depZ Y r)) := by
  obtain ⟨hx, hy, hB⟩ := wr_new Y r B D b d w
  have HB0 := vl hB
  have HX0 := vl hx
  have HY0 := vl hy
  have HP := vl (hp.below hB)
  have HD := vl (hd.below hB)
  obtain ⟨lv, hlv⟩ : ∃ lv, levelR r = lv := ⟨_, rfl⟩
  have HL := vl (fun (w : World) (hr : Pts w B r.n r.X r.Y) (hd : Ints w D r.m r.Z) => by have h := level_spec r B D b d w hn hm hr hd; rw [hlv] at h; exact h)
  have HK := vl (fun (w : World) (hr : Pts w B r.n r.X r.Y) (hd : Ints w D r.m r.Z) => ok_spec r B D b d w hn hm hr hd)
  have hl := levelR_bd r
  rw [hlv] at hl
  obtain ⟨l0, l1⟩ := hl
  have HE := vl (show depZ Y r = if (wyB Y && rOk r) = true then max 0 (lv - Y.b) else 0 by rw [← hlv]; rfl)
  obtain ⟨x0, x1⟩ := hx.at
  obtain ⟨y0, y1, y2⟩ := hy.at
  clear hp hd hx hy hB hlv
  generalize hW : (w.alloc (.cells #[.int .i64 Y.l, .int .i64 Y.b] 42)).alloc (.cells #[.slice B r.n b, .int .i64 r.v, .slice D r.m d] 54) = W at *
  cases h0 : wyB Y with
  | false =>
    have HE' : Veil (depZ Y r = 0) := vl (HE.out.trans (by simp [h0]))
    have H0 := vl h0
    clear HE h0
    go_enter Try.func80, Try.ntmps80
    go_wp2_with fail
    try rw [hW]
    clear hW
    refine (wayok_spec Y _).mono ?_
    rintro e w1 ⟨rfl, hb1⟩
    rw [H0.out]
    have HB1 := vl (HB0.out.trans (hb1.mono HB0.out.size))
    clear hb1 x0 x1 y0 y1 y2
    go_wp2
    go_ret
    exact ⟨ret_int HE'.out.symm, HB1.out⟩
  | true =>
    have H0 := vl h0
    cases h1 : rOk r with
    | false =>
      have HE' : Veil (depZ Y r = 0) := vl (HE.out.trans (by simp [h1]))
      have H1 := vl h1
      clear HE h0 h1
      go_enter Try.func80, Try.ntmps80
      go_wp2_with fail
      try rw [hW]
      clear hW
      refine (wayok_spec Y _).mono ?_
      rintro e w1 ⟨rfl, hb1⟩
      rw [H0.out]
      have HB1 := vl (HB0.out.trans (hb1.mono HB0.out.size))
      have HY1 := vl (HY0.out.below hb1)
      have HP1 := vl (HP.out.below hb1)
      have HD1 := vl (HD.out.below hb1)
      clear hb1 x0 x1 y0 y1 y2
      obtain ⟨y0, y1, y2⟩ := HY1.out.at
      go_wp2_with fail
      refine (HK.out _ HP1.out HD1.out).mono ?_
      rintro e w2 ⟨rfl, hb2⟩
      rw [H1.out]
      have HB2 := vl (HB1.out.trans (hb2.mono HB1.out.size))
      clear hb2 y0 y1 y2
      go_wp2
      go_ret
      exact ⟨ret_int HE'.out.symm, HB2.out⟩
    | true =>
      have HE' : Veil (depZ Y r = max 0 (lv - Y.b)) := vl (HE.out.trans (by simp [h0, h1]))
      have H1 := vl h1
      have b0 := (wyB_iff.1 h0).b0
      have b1 := (wyB_iff.1 h0).b1
      have hwr : IntKind.i64.wrap (lv - Y.b) = lv - Y.b := IntWalk.i64_in _ (by omega)
      clear HE h0 h1
      go_enter Try.func80, Try.ntmps80
      go_wp2_with fail
      try rw [hW]
      clear hW
      refine (wayok_spec Y _).mono ?_
      rintro e w1 ⟨rfl, hb1⟩
      rw [H0.out]
      have HB1 := vl (HB0.out.trans (hb1.mono HB0.out.size))
      have HX1 := vl (HX0.out.below hb1)
      have HY1 := vl (HY0.out.below hb1)
      have HP1 := vl (HP.out.below hb1)
      have HD1 := vl (HD.out.below hb1)
      clear hb1 x0 x1 y0 y1 y2
      obtain ⟨y0, y1, y2⟩ := HY1.out.at
      go_wp2_with fail
      refine (HK.out _ HP1.out HD1.out).mono ?_
      rintro e w2 ⟨rfl, hb2⟩
      rw [H1.out]
      have HB2 := vl (HB1.out.trans (hb2.mono HB1.out.size))
      have HX2 := vl (HX1.out.below hb2)
      have HY2 := vl (HY1.out.below hb2)
      have HP2 := vl (HP1.out.below hb2)
      have HD2 := vl (HD1.out.below hb2)
      clear hb2 y0 y1 y2
      obtain ⟨x0, x1⟩ := HX2.out.at
      obtain ⟨y0, y1, y2⟩ := HY2.out.at
      go_wp2
      go_region_held3 (fun w' => w'.cell? ⟨w.heap.size, 1, none⟩ = some (.int .i64 Y.b) ∧ w'.cell? ⟨w.heap.size + 1, 0, none⟩ = some (.slice B r.n b) ∧ w'.cell? ⟨w.heap.size + 1, 1, none⟩ = some (.int .i64 r.v) ∧ w'.cell? ⟨w.heap.size + 1, 2, none⟩ = some (.slice D r.m d) ∧ Below w2.heap.size w2 w')
        (first | exact ⟨x1, y0, y1, y2, Below.refl _ _⟩ | exact ⟨x1, y0, y1, y2, (Below.refl _ _).drew⟩ | assumption)
        (first
          | (go_at_call 154; obtain ⟨a0, a1, a2, a3, hb7⟩ : _ ∧ _ ∧ _ ∧ _ ∧ Below w2.heap.size w2 _ := by assumption
             refine (HL.out _ (HP2.out.below hb7) (HD2.out.below hb7)).mono ?_
             rintro en w' ⟨rfl, hb'⟩
             have S1 := And.intro ((hb'.cell (cell_lt' a0)).trans a0) (And.intro ((hb'.cell (cell_lt' a1)).trans a1) (And.intro ((hb'.cell (cell_lt' a2)).trans a2) (And.intro ((hb'.cell (cell_lt' a3)).trans a3) (hb7.trans (hb'.mono hb7.size)))))
             clear hb'))
      all_goals
        obtain ⟨a0, a1, a2, a3, hb9⟩ : _ ∧ _ ∧ _ ∧ _ ∧ Below w2.heap.size w2 _ := by assumption
        go_wp2
        all_goals
          go_ret
          exact ⟨ret_int (HE'.out.trans (by first | omega | (rw [hwr]; omega))).symm, HB2.out.trans (hb9.mono HB2.out.size)⟩
set_option maxHeartbeats 4000000 in
theorem depin_impl (Y : Wy) (r : Rc) (B D : Option Addr) (b d : Nat) (w : World) (hn : r.n ≤ 1048576) (hm : r.m ≤ 1048576) (hp : Pts w B r.n r.X r.Y) (hd : Ints w D r.m r.Z) :
    Calls Try.prog 157 #[.agg #[.int .i64 Y.l, .int .i64 Y.b], .agg #[.slice B r.n b, .int .i64 r.v, .slice D r.m d]] w (AnsI w (depZ Y r)) := by
  obtain ⟨hx, hy, hB⟩ := wr_new Y r B D b d w
  have HB0 := vl hB
  have HX0 := vl hx
  have HY0 := vl hy
  have HP := vl (hp.below hB)
  have HD := vl (hd.below hB)
  obtain ⟨lv, hlv⟩ : ∃ lv, levelR r = lv := ⟨_, rfl⟩
  have HL := vl (fun (w : World) (hr : Pts w B r.n r.X r.Y) (hd : Ints w D r.m r.Z) => by have h := level_impl r B D b d w hn hm hr hd; rw [hlv] at h; exact h)
  have HK := vl (fun (w : World) (hr : Pts w B r.n r.X r.Y) (hd : Ints w D r.m r.Z) => ok_impl r B D b d w hn hm hr hd)
  have hl := levelR_bd r
  rw [hlv] at hl
  obtain ⟨l0, l1⟩ := hl
  have HE := vl (show depZ Y r = if (wyB Y && rOk r) = true then max 0 (lv - Y.b) else 0 by rw [← hlv]; rfl)
  obtain ⟨x0, x1⟩ := hx.at
  obtain ⟨y0, y1, y2⟩ := hy.at
  clear hp hd hx hy hB hlv
  generalize hW : (w.alloc (.cells #[.int .i64 Y.l, .int .i64 Y.b] 42)).alloc (.cells #[.slice B r.n b, .int .i64 r.v, .slice D r.m d] 54) = W at *
  cases h0 : wyB Y with
  | false =>
    have HE' : Veil (depZ Y r = 0) := vl (HE.out.trans (by simp [h0]))
    have H0 := vl h0
    clear HE h0
    go_enter Try.func157, Try.ntmps157
    go_wp2_with fail
    try rw [hW]
    clear hW
    refine (wayok_impl Y _).mono ?_
    rintro e w1 ⟨rfl, hb1⟩
    rw [H0.out]
    have HB1 := vl (HB0.out.trans (hb1.mono HB0.out.size))
    clear hb1 x0 x1 y0 y1 y2
    go_wp2
    go_ret
    exact ⟨ret_int HE'.out.symm, HB1.out⟩
  | true =>
    have H0 := vl h0
    cases h1 : rOk r with
    | false =>
      have HE' : Veil (depZ Y r = 0) := vl (HE.out.trans (by simp [h1]))
      have H1 := vl h1
      clear HE h0 h1
      go_enter Try.func157, Try.ntmps157
      go_wp2_with fail
      try rw [hW]
      clear hW
      refine (wayok_impl Y _).mono ?_
      rintro e w1 ⟨rfl, hb1⟩
      rw [H0.out]
      have HB1 := vl (HB0.out.trans (hb1.mono HB0.out.size))
      have HY1 := vl (HY0.out.below hb1)
      have HP1 := vl (HP.out.below hb1)
      have HD1 := vl (HD.out.below hb1)
      clear hb1 x0 x1 y0 y1 y2
      obtain ⟨y0, y1, y2⟩ := HY1.out.at
      go_wp2_with fail
      refine (HK.out _ HP1.out HD1.out).mono ?_
      rintro e w2 ⟨rfl, hb2⟩
      rw [H1.out]
      have HB2 := vl (HB1.out.trans (hb2.mono HB1.out.size))
      clear hb2 y0 y1 y2
      go_wp2
      go_ret
      exact ⟨ret_int HE'.out.symm, HB2.out⟩
    | true =>
      have HE' : Veil (depZ Y r = max 0 (lv - Y.b)) := vl (HE.out.trans (by simp [h0, h1]))
      have H1 := vl h1
      have b0 := (wyB_iff.1 h0).b0
      have b1 := (wyB_iff.1 h0).b1
      have hwr : IntKind.i64.wrap (lv - Y.b) = lv - Y.b := IntWalk.i64_in _ (by omega)
      clear HE h0 h1
      go_enter Try.func157, Try.ntmps157
      go_wp2_with fail
      try rw [hW]
      clear hW
      refine (wayok_impl Y _).mono ?_
      rintro e w1 ⟨rfl, hb1⟩
      rw [H0.out]
      have HB1 := vl (HB0.out.trans (hb1.mono HB0.out.size))
      have HX1 := vl (HX0.out.below hb1)
      have HY1 := vl (HY0.out.below hb1)
      have HP1 := vl (HP.out.below hb1)
      have HD1 := vl (HD.out.below hb1)
      clear hb1 x0 x1 y0 y1 y2
      obtain ⟨y0, y1, y2⟩ := HY1.out.at
      go_wp2_with fail
      refine (HK.out _ HP1.out HD1.out).mono ?_
      rintro e w2 ⟨rfl, hb2⟩
      rw [H1.out]
      have HB2 := vl (HB1.out.trans (hb2.mono HB1.out.size))
      have HX2 := vl (HX1.out.below hb2)
      have HY2 := vl (HY1.out.below hb2)
      have HP2 := vl (HP1.out.below hb2)
      have HD2 := vl (HD1.out.below hb2)
      clear hb2 y0 y1 y2
      obtain ⟨x0, x1⟩ := HX2.out.at
      obtain ⟨y0, y1, y2⟩ := HY2.out.at
      go_wp2
      go_region_held3 (fun w' => w'.cell? ⟨w.heap.size, 1, none⟩ = some (.int .i64 Y.b) ∧ w'.cell? ⟨w.heap.size + 1, 0, none⟩ = some (.slice B r.n b) ∧ w'.cell? ⟨w.heap.size + 1, 1, none⟩ = some (.int .i64 r.v) ∧ w'.cell? ⟨w.heap.size + 1, 2, none⟩ = some (.slice D r.m d) ∧ Below w2.heap.size w2 w')
        (first | exact ⟨x1, y0, y1, y2, Below.refl _ _⟩ | exact ⟨x1, y0, y1, y2, (Below.refl _ _).drew⟩ | assumption)
        (first
          | (go_at_call 199; obtain ⟨a0, a1, a2, a3, hb7⟩ : _ ∧ _ ∧ _ ∧ _ ∧ Below w2.heap.size w2 _ := by assumption
             refine (HL.out _ (HP2.out.below hb7) (HD2.out.below hb7)).mono ?_
             rintro en w' ⟨rfl, hb'⟩
             have S1 := And.intro ((hb'.cell (cell_lt' a0)).trans a0) (And.intro ((hb'.cell (cell_lt' a1)).trans a1) (And.intro ((hb'.cell (cell_lt' a2)).trans a2) (And.intro ((hb'.cell (cell_lt' a3)).trans a3) (hb7.trans (hb'.mono hb7.size)))))
             clear hb'))
      all_goals
        obtain ⟨a0, a1, a2, a3, hb9⟩ : _ ∧ _ ∧ _ ∧ _ ∧ Below w2.heap.size w2 _ := by assumption
        go_wp2
        all_goals
          go_ret
          exact ⟨ret_int (HE'.out.trans (by first | omega | (rw [hwr]; omega))).symm, HB2.out.trans (hb9.mono HB2.out.size)⟩
end Go.Proofs.Ytngmpimoebggdaa.C1
