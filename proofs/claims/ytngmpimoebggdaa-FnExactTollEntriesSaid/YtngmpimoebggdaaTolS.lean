/- The entries of a passage: of the model. -/
import Derived.Test.YtngmpimoebggdaaTolE
import Derived.Test.YtngmpimoebggdaaLast
import Derived.Test.YtngmpimoebggdaaHeld
import Derived.Deep.AppendLies
namespace Go.Proofs.Ytngmpimoebggdaa.C1
open Go.ChangeShapes Go.WideShapes Go.ChangeAt Go.RowKit Go.Proofs.Ytngmpimoebggdaa.ShareM
set_option linter.unusedVariables false
set_option linter.unusedSimpArgs false

set_option maxRecDepth 100000 in
set_option maxHeartbeats 8000000 in
theorem tol_spec (T : Tf) (A D : Option Addr) (c d : Nat) (up : Bool) (B : Option Addr) (e : Nat) (U : List (List Bt)) (t : Int) (w : World) (hn : T.n ≤ 1048576) (hm : T.m ≤ 1048576) (hA : SrcG w A T.n T.C) (hD : SrcG w D T.m T.W) (hu : Mod U) (hp : Trn w B U) :
    Calls Try.prog 50 #[.agg #[.int .i64 T.b, .int .i64 T.p, .slice A T.n c, .slice D T.m d], .agg #[.bool up, .slice B U.length e], .int .i64 t] w (GivesE w (tollL T U t)) := by
  obtain ⟨j0, hj, hy0, hy1, hy2⟩ := info_parts infoE
  have hB := (((Below.refl w.heap.size w).alloc (Nat.le_refl _) (.cells #[.int .i64 T.b, .int .i64 T.p, .slice A T.n c, .slice D T.m d] 62)).alloc (by simp) (.cells #[.bool up, .slice B U.length e] 29)).alloc (by simp; omega) (.cells #[] 136)
  have HA := vl (hA.below hB)
  have HD := vl (hD.below hB)
  have HP := vl (hp.below hB)
  have HX := vl ((Box4.alloc (Box4.new w (.int .i64 T.b) (.int .i64 T.p) (.slice A T.n c) (.slice D T.m d) 62) (.cells #[.bool up, .slice B U.length e] 29)).below ((Below.refl _ _).alloc (Nat.le_refl _) (.cells #[] 136)))
  have HY0 := TBox.new (w.alloc (.cells #[.int .i64 T.b, .int .i64 T.p, .slice A T.n c, .slice D T.m d] 62)) up B U.length e 29
  rw [World.size_alloc] at HY0
  have HY := vl (HY0.below ((Below.refl _ _).alloc (Nat.le_refl _) (.cells #[] 136)))
  have HB0 := vl hB
  have HPW := vl hp
  have HE0 := vl (show (((w.alloc (.cells #[.int .i64 T.b, .int .i64 T.p, .slice A T.n c, .slice D T.m d] 62)).alloc (.cells #[.bool up, .slice B U.length e] 29)).alloc (.cells #[] 136)).ownsRow w.heap.size 136 5 (.slice (some ⟨w.heap.size + 2, 0, none⟩) 0 0) 0 (enl []) from by
    have := World.ownsRow_lit (base := w.heap.size) (e := 136) (size := 5) ((w.alloc (.cells #[.int .i64 T.b, .int .i64 T.p, .slice A T.n c, .slice D T.m d] 62)).alloc (.cells #[.bool up, .slice B U.length e] 29)) #[] 0 (by simp; omega) (by decide) rfl
    simpa [enl] using this)
  clear hA hD hp HY0
  go_enter Try.func50, Try.ntmps50
  go_wp2_with fail
  generalize hW : ((w.alloc (.cells #[.int .i64 T.b, .int .i64 T.p, .slice A T.n c, .slice D T.m d] 62)).alloc (.cells #[.bool up, .slice B U.length e] 29)).alloc (.cells #[] 136) = W at HA HD HP HX HY HB0 HE0 ⊢
  clear hW hB
  refine (tfok_spec T _ _ _ _ _ hn hm HA.out HD.out).mono ?_
  rintro en w1 ⟨rfl, hb1⟩
  have HB1 := vl (HB0.out.trans (hb1.mono HB0.out.size))
  have HA1 := vl (HA.out.below hb1)
  have HD1 := vl (HD.out.below hb1)
  have HP1 := vl (HP.out.below hb1)
  have HX1 := vl (HX.out.below hb1)
  have HY1 := vl (HY.out.below hb1)
  have HE1 := vl (own_below HE0.out hb1)
  clear hb1 HA HD HP HX HY HB0 HE0
  obtain ⟨y0, y1⟩ := HY1.out
  cases hv : tfOk T with
  | false =>
    have H := vl (tollL_no1 (U := U) (t := t) hv)
    clear hv
    go_wp2
    go_ret
    rw [H.out]
    exact givesE_none HB1.out
  | true =>
    have HT := vl (tfIn_of hv)
    have HV := vl hv
    clear hv
    go_wp2_with fail
    refine (tok_spec up B e U _ hu HP1.out).mono ?_
    rintro en w2 ⟨rfl, hb2⟩
    have HB2 := vl (HB1.out.trans (hb2.mono HB1.out.size))
    have HA2 := vl (HA1.out.below hb2)
    have HD2 := vl (HD1.out.below hb2)
    have HP2 := vl (HP1.out.below hb2)
    have HX2 := vl (HX1.out.below hb2)
    have HY2 := vl (HY1.out.below hb2)
    have HE2 := vl (own_below HE1.out hb2)
    clear hb2 HA1 HD1 HP1 HX1 HY1 HB1 HE1 y0 y1
    cases ho : tOk U with
    | false =>
      have H := vl (tollL_no2 (T := T) (t := t) ho)
      clear ho
      go_wp2
      go_ret
      rw [H.out]
      exact givesE_none HB2.out
    | true =>
      have HOK := vl ho
      have hT0 := toll_in T U
      clear ho
      obtain ⟨w3, hw3⟩ : ∃ x, x = w2 := ⟨_, rfl⟩
      rw [← hw3] at HB2 HA2 HD2 HP2 HX2 HY2 HE2 ⊢
      clear hw3
      obtain ⟨x0, x1, x2, x3⟩ := HX2.out.at
      obtain ⟨y0, y1⟩ := HY2.out
      cases ht : inB t 0 1000000 with
      | false =>
        have H := vl (tollL_no3 (T := T) (U := U) ht)
        have HTT := vl ht
        clear ht
        go_wp2_with (go_at_call 65; refine (in_spec _ _ _ _).mono ?_; rintro en w' ⟨rfl, rfl⟩; rw [HTT.out])
        go_ret
        rw [H.out]
        exact givesE_none HB2.out
      | true =>
        have HTT := vl ht
        have HS := vl (tollL_yes HV.out HOK.out ht)
        obtain ⟨t0, t1⟩ := inB_iff.1 ht
        have hN := outN_le (tollZ T U) T.m T.W
        have hm11 := HT.out.m
        have hid := idN_pos HOK.out
        have hl1 := HX2.out.lt
        have hl2 := HY2.out.1
        clear ht
        go_wp2_with (go_at_call 65; refine (in_spec _ _ _ _).mono ?_; rintro en w' ⟨rfl, rfl⟩; rw [HTT.out])
        go_region_held3 (fun w' => w'.cell? ⟨w.heap.size, 0, none⟩ = some (.int .i64 T.b) ∧ w'.cell? ⟨w.heap.size, 1, none⟩ = some (.int .i64 T.p) ∧ w'.cell? ⟨w.heap.size, 2, none⟩ = some (.slice A T.n c) ∧ w'.cell? ⟨w.heap.size, 3, none⟩ = some (.slice D T.m d) ∧ w'.cell? ⟨w.heap.size + 1, 0, none⟩ = some (.bool up) ∧ w'.cell? ⟨w.heap.size + 1, 1, none⟩ = some (.slice B U.length e) ∧ Below w3.heap.size w3 w')
          (first | exact ⟨x0, x1, x2, x3, y0, y1, Below.refl _ _⟩ | exact ⟨x0, x1, x2, x3, y0, y1, (Below.refl _ _).drew⟩ | assumption)
          (first
            | (go_at_call 37; obtain ⟨q0, q1, q2, q3, q4, q5, hb7⟩ : _ ∧ _ ∧ _ ∧ _ ∧ _ ∧ _ ∧ Below w3.heap.size w3 _ := by assumption
               refine (toll_spec T A D c d up B e U _ hn hm (HA2.out.below hb7) (HD2.out.below hb7) hu (HP2.out.below hb7)).mono ?_
               rintro en w' ⟨rfl, hb'⟩
               have S0 := And.intro ((hb'.cell (cell_lt' q0)).trans q0) (And.intro ((hb'.cell (cell_lt' q1)).trans q1) (And.intro ((hb'.cell (cell_lt' q2)).trans q2) (And.intro ((hb'.cell (cell_lt' q3)).trans q3) (And.intro ((hb'.cell (cell_lt' q4)).trans q4) (And.intro ((hb'.cell (cell_lt' q5)).trans q5) (hb7.trans (hb'.mono hb7.size)))))))
               clear hb')
            | (go_at_call 98; obtain ⟨q0, q1, q2, q3, q4, q5, hb7⟩ : _ ∧ _ ∧ _ ∧ _ ∧ _ ∧ _ ∧ Below w3.heap.size w3 _ := by assumption
               refine (out_spec (tollZ T U) D T.m d T.W _ hm (HD2.out.below hb7)).mono ?_
               rintro en w' ⟨⟨As, cs, gs, rfl, hrs, hgs, hls⟩, hb'⟩
               have HRS := vl hrs
               have HGS := vl (show w3.heap.size ≤ gs from Nat.le_trans hb7.size hgs)
               have HLS := vl hls
               have S1 := And.intro ((hb'.cell (cell_lt' q0)).trans q0) (And.intro ((hb'.cell (cell_lt' q1)).trans q1) (And.intro ((hb'.cell (cell_lt' q2)).trans q2) (And.intro ((hb'.cell (cell_lt' q3)).trans q3) (And.intro ((hb'.cell (cell_lt' q4)).trans q4) (And.intro ((hb'.cell (cell_lt' q5)).trans q5) (hb7.trans (hb'.mono hb7.size)))))))
               clear hb' hrs hgs hls))
        all_goals
          obtain ⟨q0, q1, q2, q3, q4, q5, hb9⟩ : _ ∧ _ ∧ _ ∧ _ ∧ _ ∧ _ ∧ Below w3.heap.size w3 _ := by assumption
          obtain ⟨w4, hw4⟩ : ∃ u, u = w' := ⟨_, rfl⟩
          rw [← hw4] at q0 q1 q2 q3 q4 q5 hb9 HRS HLS ⊢
          have HB4 := vl (HB2.out.trans (hb9.mono HB2.out.size))
          have HY4 := vl (show TBox w4 (w.heap.size + 1) up B U.length e from ⟨q4, q5⟩)
          have HE4 := vl (own_below HE2.out hb9)
          have hs4 := HB4.out.size
          have hE2 := (HE2.out.lt (w.heap.size + 2) rfl).2
          have hs34 := hb9.size
          have hgs3 := HGS.out
          clear hw4 q0 q1 q2 q3 q4 q5 hb9 S0 S1 x0 x1 x2 x3 y0 y1 HB2 HA2 HD2 HP2 HX2 HY2 HE2
          generalize outF (tollZ T U) T.m T.W = S at HRS HS
          generalize outN (tollZ T U) T.m T.W = N at HRS HS HLS hN ⊢
          generalize hy : idf (bts U) 0 = y at HS
          have HYY := vl hy
          clear hy
          go_wp2
          go_loopw [7, 9] (fun v i wr => ∃ k : Nat, k ≤ N ∧ i = .int .i64 k ∧ Veil (Below w.heap.size w wr) ∧ Veil (w4.heap.size ≤ wr.heap.size) ∧ Veil (RowI wr As N gs S) ∧ Veil (TBox wr (w.heap.size + 1) up B U.length e) ∧ Veil (∀ b, v.ownBlock = some b → b = w.heap.size + 2 ∨ w4.heap.size ≤ b) ∧ Veil (wr.ownsRow w.heap.size 136 5 v (tolTo S t y k).length (enl (tolTo S t y k)))) (fun _ i _ => N - (intOf i).toNat)
          case atStart => exact ⟨0, by omega, rfl, HB4, vl (Nat.le_refl _), HRS, HY4, vl (fun b hb => by
            have hb' : some (w.heap.size + 2) = some b := hb
            injection hb' with hb'
            exact Or.inl hb'.symm), HE4⟩
          case round =>
            obtain ⟨k, hk, rfl, HB, HW4, HR, HY, HAt, HO⟩ := hrel
            by_cases hlt : k < N
            · obtain rfl := HR.out.1 (by omega)
              have c0 := HR.out.2 k hlt
              have hgs4 := HLS.out (by omega)
              have HP5 := vl (HPW.out.below HB.out)
              obtain ⟨y0, y1⟩ := HY.out
              have hl2 := cell_lt' y0
              have kN : (k : Int) < (N : Int) := by omega
              have hw4r := HW4.out
              by_cases hpos : 0 < S k
              · have HE := vl (tolTo_yes (t := t) (y := y) hpos)
                have HEN := vl (show entT S t y k = ⟨0, (k : Int) + 1, S k, t, y⟩ from rfl)
                have hle := tolTo_le S t y k
                generalize hz : S k = z at c0 hpos HEN ⊢
                clear hz
                have hwk : IntKind.i64.wrap ((k : Int) + 1) = (k : Int) + 1 := IntWalk.i64_in _ (by omega)
                go_wp2
                refine wp_region_last2 (fun w' => w'.cell? ⟨gs, k, none⟩ = some (.int .i64 z) ∧ w'.cell? ⟨w.heap.size + 1, 0, none⟩ = some (.bool up) ∧ w'.cell? ⟨w.heap.size + 1, 1, none⟩ = some (.slice B U.length e)) (by kernel_rfl) (by simp only [List.pop_toArray, List.dropLast_cons_cons, List.dropLast_singleton]; rfl) (by rfl) (by rfl) (by kernel_rfl) ⟨c0, y0, y1⟩ (fun hHeld => ?_)
                refine wpAnyH_take (i := 0) (oi := _) (v := ?_) rfl (by kernel_rfl) (by kernel_rfl) (by kernel_rfl) (fun _ _ _ h => h) (Or.inl ⟨by rfl, ?_⟩) (by assumption) ?_
                rotate_left 1
                · intro w hSw
                  try dsimp only at hSw
                  go_simp
                  try with_reducible rfl
                try simp only [Act.put, List.getElem_toArray, List.getElem_cons_succ, List.getElem_cons_zero, List.setIfInBounds_toArray, List.set_cons_zero, List.set_cons_succ]
                refine wpAnyH_take (i := 1) (oi := _) (v := ?_) rfl (by kernel_rfl) (by kernel_rfl) (by kernel_rfl) (fun _ _ _ h => h) (Or.inl ⟨by rfl, ?_⟩) (by assumption) ?_
                rotate_left 1
                · intro w hSw
                  try dsimp only at hSw
                  go_simp
                  try with_reducible rfl
                try simp only [Act.put, List.getElem_toArray, List.getElem_cons_succ, List.getElem_cons_zero, List.setIfInBounds_toArray, List.set_cons_zero, List.set_cons_succ]
                refine wpAnyH_take (i := 2) (oi := _) (v := ?_) rfl (by kernel_rfl) (by kernel_rfl) (by kernel_rfl) (fun _ _ _ h => h) (Or.inl ⟨by rfl, ?_⟩) (by assumption) ?_
                rotate_left 1
                · intro w hSw
                  try dsimp only at hSw
                  go_simp
                  try with_reducible rfl
                try simp only [Act.put, List.getElem_toArray, List.getElem_cons_succ, List.getElem_cons_zero, List.setIfInBounds_toArray, List.set_cons_zero, List.set_cons_succ]
                refine wpAnyH_take (i := 3) (oi := _) (v := ?_) rfl (by kernel_rfl) (by kernel_rfl) (by kernel_rfl) (fun _ _ _ h => h) (Or.inl ⟨by rfl, ?_⟩) (by assumption) ?_
                rotate_left 1
                · intro w hSw
                  try dsimp only at hSw
                  go_simp
                  try with_reducible rfl
                try simp only [Act.put, List.getElem_toArray, List.getElem_cons_succ, List.getElem_cons_zero, List.setIfInBounds_toArray, List.set_cons_zero, List.set_cons_succ]
                refine wpAnyH_take (i := 4) (oi := _) (v := ?_) rfl (by kernel_rfl) (by kernel_rfl) (by kernel_rfl) (fun _ _ _ h => h) (Or.inl ⟨by rfl, ?_⟩) (by assumption) ?_
                rotate_left 1
                · intro w hSw
                  try dsimp only at hSw
                  go_simp
                  try with_reducible rfl
                try simp only [Act.put, List.getElem_toArray, List.getElem_cons_succ, List.getElem_cons_zero, List.setIfInBounds_toArray, List.set_cons_zero, List.set_cons_succ]
                refine wpAnyH_take (i := 5) (oi := _) (v := ?_) rfl (by kernel_rfl) (by kernel_rfl) (by kernel_rfl) (fun _ _ _ h => h) (Or.inl ⟨by rfl, ?_⟩) (by assumption) ?_
                rotate_left 1
                · intro w hSw
                  try dsimp only at hSw
                  go_simp
                  try with_reducible rfl
                try simp only [Act.put, List.getElem_toArray, List.getElem_cons_succ, List.getElem_cons_zero, List.setIfInBounds_toArray, List.set_cons_zero, List.set_cons_succ]
                refine wpAnyH_take (i := 6) (oi := _) (v := ?_) rfl (by kernel_rfl) (by kernel_rfl) (by kernel_rfl) (fun _ _ _ h => h) (Or.inl ⟨by rfl, ?_⟩) (by assumption) ?_
                rotate_left 1
                · intro w hSw
                  try dsimp only at hSw
                  go_simp
                  try with_reducible rfl
                try simp only [Act.put, List.getElem_toArray, List.getElem_cons_succ, List.getElem_cons_zero, List.setIfInBounds_toArray, List.set_cons_zero, List.set_cons_succ]
                refine wpAnyH_take (i := 7) (oi := _) (v := ?_) rfl (by kernel_rfl) (by kernel_rfl) (by kernel_rfl) (fun _ _ _ h => h) (Or.inl ⟨by rfl, ?_⟩) (by assumption) ?_
                rotate_left 1
                · intro w hSw
                  try dsimp only at hSw
                  go_simp
                  try with_reducible rfl
                try simp only [Act.put, List.getElem_toArray, List.getElem_cons_succ, List.getElem_cons_zero, List.setIfInBounds_toArray, List.set_cons_zero, List.set_cons_succ]
                refine wpAnyH_take (i := 8) (oi := _) (v := ?_) rfl (by kernel_rfl) (by kernel_rfl) (by kernel_rfl) (fun _ _ _ h => h) (Or.inl ⟨by rfl, ?_⟩) (by assumption) ?_
                rotate_left 1
                · intro w hSw
                  try dsimp only at hSw
                  go_simp
                  try with_reducible rfl
                try simp only [Act.put, List.getElem_toArray, List.getElem_cons_succ, List.getElem_cons_zero, List.setIfInBounds_toArray, List.set_cons_zero, List.set_cons_succ]
                refine wpAnyH_ready (rs := [9]) (by kernel_rfl) (by simp) ?_
                refine AllReadyH.cons (o := _) rfl (fun K hK => ?_) AllReadyH.nil
                go_simp
                go_at_call 99
                refine (idsof_spec up B e U _ hu HP5.out.drew).mono ?_
                rintro en w6 ⟨⟨A6, c6, g6, rfl, hr6, _, _, _⟩, hb6d⟩
                have hb6 : Below wr.heap.size wr w6 := (Below.refl wr.heap.size wr).drew.trans hb6d
                have i0 := hr6.2 0 hid
                obtain rfl := hr6.1 hid
                rw [HYY.out] at i0
                have hid' : (0 : Int) < (idN U : Int) := by omega
                have HB6 := vl (HB.out.trans (hb6.mono HB.out.size))
                have HO6 := vl (own_below HO.out hb6)
                have hs6 := hb6.size
                have HOk := vl (fun k hk => HO6.out.lt k hk)
                have hs06 := HB6.out.size
                have HR6 := vl (HR.out.below hb6)
                have c6' := (hb6.cell (cell_lt' c0)).trans c0
                have y06 := (hb6.cell (cell_lt' y0)).trans y0
                have y16 := (hb6.cell (cell_lt' y1)).trans y1
                have hgs6 := cell_lt' c6'
                have hl26 := cell_lt' y06
                clear hb6 hb6d hr6 c0 y0 y1
                refine hK.out _ _ ⟨c6', y06, y16⟩ (fun hHeld => ?_)
                clear hK K
                try simp only [Act.put, List.getElem_toArray, List.getElem_cons_succ, List.getElem_cons_zero, List.setIfInBounds_toArray, List.set_cons_zero, List.set_cons_succ]
                refine wpAnyH_ready (rs := [10]) (by kernel_rfl) (by simp) ?_
                refine AllReadyH.cons (o := _) rfl (fun K hK => ?_) AllReadyH.nil
                go_simp
                refine hK.out _ _ hHeld (fun hHeld => ?_)
                clear hK K
                try simp only [Act.put, List.getElem_toArray, List.getElem_cons_succ, List.getElem_cons_zero, List.setIfInBounds_toArray, List.set_cons_zero, List.set_cons_succ]
                refine wpAnyH_ready (rs := [11]) (by kernel_rfl) (by simp) ?_
                refine AllReadyH.cons (o := _) rfl (fun K hK => ?_) AllReadyH.nil
                go_simp
                refine hK.out _ _ hHeld (fun hHeld => ?_)
                clear hK K
                try simp only [Act.put, List.getElem_toArray, List.getElem_cons_succ, List.getElem_cons_zero, List.setIfInBounds_toArray, List.set_cons_zero, List.set_cons_succ]
                refine wpAnyH_ready (rs := [12]) (by kernel_rfl) (by simp) ?_
                refine AllReadyH.cons (o := _) rfl (fun K hK => ?_) AllReadyH.nil
                go_simp
                refine hK.out _ _ hHeld (fun hHeld => ?_)
                clear hK K
                try simp only [Act.put, List.getElem_toArray, List.getElem_cons_succ, List.getElem_cons_zero, List.setIfInBounds_toArray, List.set_cons_zero, List.set_cons_succ]
                refine wpAnyH_ready (rs := [13]) (by kernel_rfl) (by simp) ?_
                refine AllReadyH.cons (o := _) rfl (fun K hK => ?_) AllReadyH.nil
                go_simp
                have hAl := (Below.refl w6.heap.size w6).alloc (Nat.le_refl _) (.cells #[.int .i64 0, .int .i64 ((k : Int) + 1), .int .i64 z, .int .i64 t, .int .i64 y] 136)
                have c7 := (hAl.cell (cell_lt' c6')).trans c6'
                have y07 := (hAl.cell (cell_lt' y06)).trans y06
                have y17 := (hAl.cell (cell_lt' y16)).trans y16
                clear hAl
                refine hK.out _ _ ⟨c7, y07, y17⟩ (fun hHeld => ?_)
                clear hK K
                try simp only [Act.put, List.getElem_toArray, List.getElem_cons_succ, List.getElem_cons_zero, List.setIfInBounds_toArray, List.set_cons_zero, List.set_cons_succ]
                refine wpAnyH_ready (rs := [14]) (by kernel_rfl) (by simp) ?_
                refine AllReadyH.cons (o := _) rfl (fun K hK => ?_) AllReadyH.nil
                refine step_append_lies _ (by rfl) _ _ 71 (by rfl) w.heap.size 136 j0 _ 5 40 Try.underlying71 hj hy0 hy1 hy2 rfl (by decide) _ (tolTo S t y k).length (enl (tolTo S t y k)) (by rfl) (HO6.out.alloc _) ⟨w6.heap.size, 0, none⟩ 1 1 (En.cells ⟨0, (k : Int) + 1, z, t, y⟩) (by rfl) rfl (news_e w6 ⟨0, (k : Int) + 1, z, t, y⟩ _) (en_one _) (by omega) (by unfold maxLen; omega) (by omega) (by simp; omega) _ rfl ?_
                intro g7 cap w7 hown hgr hat hlt7
                have HO7 := vl (show w7.ownsRow w.heap.size 136 5 (.slice (some ⟨g7, 0, none⟩) ((tolTo S t y k).length + 1) cap) (tolTo S t y (k + 1)).length (enl (tolTo S t y (k + 1))) from by rw [HE.out, HEN.out, enl_app, enl_one', List.length_append]; exact hown)
                have HB7 := vl (Below.grown (show Below w.heap.size w (w6.alloc (.cells #[.int .i64 0, .int .i64 ((k : Int) + 1), .int .i64 z, .int .i64 t, .int .i64 y] 136)) from HB6.out.alloc hs06 _) hgr (by simp; omega) (fun k hk => (HOk.out k hk).1))
                have hne1 : ∀ b, (b = gs ∨ b = w.heap.size + 1) → some b ≠ u7.ownBlock := fun b hb e => by have h1 := HAt.out b e.symm; rcases hb with rfl | rfl <;> omega
                have c8 := (hgr.cell_far ⟨gs, k, none⟩ (by simp; omega) (hne1 gs (Or.inl rfl))).trans c7
                have y08 := (hgr.cell_far ⟨w.heap.size + 1, 0, none⟩ (by simp; omega) (hne1 _ (Or.inr rfl))).trans y07
                have y18 := (hgr.cell_far ⟨w.heap.size + 1, 1, none⟩ (by simp; omega) (hne1 _ (Or.inr rfl))).trans y17
                have HR7 := vl (RowI.grown (HR6.out.below ((Below.refl w6.heap.size w6).alloc (Nat.le_refl _) (.cells #[.int .i64 0, .int .i64 ((k : Int) + 1), .int .i64 z, .int .i64 t, .int .i64 y] 136))) hgr (fun _ => hne1 gs (Or.inl rfl)))
                have hs7 := hgr.size
                have hw47 : w4.heap.size ≤ w7.heap.size := by simp at hs7; omega
                have HAt7 := vl (show ∀ b, (Value.slice (some ⟨g7, 0, none⟩) ((tolTo S t y k).length + 1) cap).ownBlock = some b → b = w.heap.size + 2 ∨ w4.heap.size ≤ b from fun b hb => by have hb9 : some g7 = some b := hb; injection hb9 with hb'; subst hb'; rcases hat with h | h; exact HAt.out _ h; right; simp at h; omega)
                clear hown hgr hat hlt7 c7 y07 y17 c6' y06 y16 i0
                refine hK.out _ _ ⟨c8, y08, y18⟩ (fun hHeld => ?_)
                clear hK K
                try simp only [Act.put, List.getElem_toArray, List.getElem_cons_succ, List.getElem_cons_zero, List.setIfInBounds_toArray, List.set_cons_zero, List.set_cons_succ]
                refine wpAnyH_done (by kernel_rfl) ?_ _
                unfold QL
                go_simp
                all_goals
                  go_wp2
                  go_roundw
                  case rel => exact ⟨k + 1, by omega, by go_num, HB7, vl hw47, HR7, vl ⟨y08, y18⟩, HAt7, HO7⟩
                  case measure => simp [intOf]; omega
              · have HE := vl (tolTo_no (t := t) (y := y) hpos)
                have hpos' : S k ≤ 0 := by omega
                generalize hz : S k = z at c0 hpos hpos' ⊢
                clear hz
                go_wp2
                go_roundw
                case rel => exact ⟨k + 1, by omega, by go_num, HB, HW4, HR, HY, HAt, by rw [HE.out]; exact HO⟩
                case measure => simp [intOf]; omega
            · obtain rfl : k = N := by omega
              have hs5 := HB.out.size
              go_wp2
              go_ret
              rw [HS.out]
              exact givesE_own HO.out (by omega) hs5 HB.out
end Go.Proofs.Ytngmpimoebggdaa.C1
