/- The entries of a passage: of the program. -/
import Derived.Test.YtngmpimoebggdaaTfT
import Derived.Test.YtngmpimoebggdaaShareO
import Derived.Test.YtngmpimoebggdaaStl
import Derived.Test.YtngmpimoebggdaaTrId
import Derived.Deep.RegionHeld3
namespace Go.Proofs.Ytngmpimoebggdaa.C1
open Go.ChangeShapes Go.WideShapes Go.ChangeAt Go.RowKit Go.Proofs.Ytngmpimoebggdaa.ShareM
set_option linter.unusedVariables false

/-- The entry for share k; the entries for the first n shares. -/
def entT (S : Nat → Int) (t y : Int) (k : Nat) : En := ⟨0, (k : Int) + 1, S k, t, y⟩
def tolTo (S : Nat → Int) (t y : Int) : Nat → List En
  | 0 => []
  | k + 1 => if 0 < S k then tolTo S t y k ++ [entT S t y k] else tolTo S t y k
theorem tolTo_le (S : Nat → Int) (t y : Int) : ∀ n, (tolTo S t y n).length ≤ n
  | 0 => Nat.le_refl _
  | n + 1 => by
    have := tolTo_le S t y n
    unfold tolTo
    split
    · simp only [List.length_append, List.length_cons, List.length_nil]; omega
    · omega
theorem tolTo_yes {S : Nat → Int} {t y : Int} {k : Nat} (h : 0 < S k) : tolTo S t y (k + 1) = tolTo S t y k ++ [entT S t y k] := by rw [tolTo, if_pos h]
theorem tolTo_no {S : Nat → Int} {t y : Int} {k : Nat} (h : ¬ 0 < S k) : tolTo S t y (k + 1) = tolTo S t y k := by rw [tolTo, if_neg h]
noncomputable def tollL (T : Tf) (U : List (List Bt)) (t : Int) : List En :=
  if tfOk T = true ∧ tOk U = true ∧ inB t 0 1000000 = true then tolTo (outF (tollZ T U) T.m T.W) t (idf (bts U) 0) (outN (tollZ T U) T.m T.W) else []
theorem tollL_no1 {T : Tf} {U : List (List Bt)} {t : Int} (h : tfOk T = false) : tollL T U t = [] := by unfold tollL; rw [if_neg (fun h' => by rw [h] at h'; cases h'.1)]
theorem tollL_no2 {T : Tf} {U : List (List Bt)} {t : Int} (h : tOk U = false) : tollL T U t = [] := by unfold tollL; rw [if_neg (fun h' => by rw [h] at h'; cases h'.2.1)]
theorem tollL_no3 {T : Tf} {U : List (List Bt)} {t : Int} (h : inB t 0 1000000 = false) : tollL T U t = [] := by unfold tollL; rw [if_neg (fun h' => by rw [h] at h'; cases h'.2.2)]
theorem tollL_yes {T : Tf} {U : List (List Bt)} {t : Int} (h : tfOk T = true) (h2 : tOk U = true) (h3 : inB t 0 1000000 = true) : tollL T U t = tolTo (outF (tollZ T U) T.m T.W) t (idf (bts U) 0) (outN (tollZ T U) T.m T.W) := by unfold tollL; rw [if_pos ⟨h, h2, h3⟩]
theorem tollL_le (T : Tf) (U : List (List Bt)) (t : Int) : (tollL T U t).length ≤ 11 := by
  unfold tollL
  split
  · rename_i h
    have h1 := (tfIn_of h.1).m
    have h2 := outN_le (tollZ T U) T.m T.W
    have h3 := tolTo_le (outF (tollZ T U) T.m T.W) t (idf (bts U) 0) (outN (tollZ T U) T.m T.W)
    omega
  · simp
theorem idN_pos {U : List (List Bt)} (h : tOk U = true) : 0 < idN U := by
  unfold idN
  rw [if_pos h]
  have := (tOk_iff.1 h).n0
  omega
set_option maxRecDepth 100000 in
set_option maxHeartbeats 8000000 in
theorem tol_impl (T : Tf) (A D : Option Addr) (c d : Nat) (up : Bool) (B : Option Addr) (e : Nat) (U : List (List Bt)) (t : Int) (w : World) (hn : T.n ≤ 1048576) (hm : T.m ≤ 1048576) (hA : SrcG w A T.n T.C) (hD : SrcG w D T.m T.W) (hu : Mod U) (hp : Trn w B U) :
    Calls Try.prog 51 #[.agg #[.int .i64 T.b, .int .i64 T.p, .slice A T.n c, .slice D T.m d], .agg #[.bool up, .slice B U.length e], .int .i64 t] w (GivesE w (tollL T U t)) := by
  obtain ⟨j0, hj, hy0, hy1, hy2⟩ := info_parts infoE
  have hB := ((Below.refl w.heap.size w).alloc (Nat.le_refl _) (.cells #[.int .i64 T.b, .int .i64 T.p, .slice A T.n c, .slice D T.m d] 62)).alloc (by simp) (.cells #[.bool up, .slice B U.length e] 29)
  have HA := vl (hA.below hB)
  have HD := vl (hD.below hB)
  have HP := vl (hp.below hB)
  have HX := vl ((Box4.alloc (Box4.new w (.int .i64 T.b) (.int .i64 T.p) (.slice A T.n c) (.slice D T.m d) 62) (.cells #[.bool up, .slice B U.length e] 29)))
  have HY0 := TBox.new (w.alloc (.cells #[.int .i64 T.b, .int .i64 T.p, .slice A T.n c, .slice D T.m d] 62)) up B U.length e 29
  rw [World.size_alloc] at HY0
  have HY := vl (HY0)
  have HB0 := vl hB
  have HPW := vl hp
  clear hA hD hp HY0
  go_enter Try.func51, Try.ntmps51
  go_wp2_with fail
  generalize hW : (w.alloc (.cells #[.int .i64 T.b, .int .i64 T.p, .slice A T.n c, .slice D T.m d] 62)).alloc (.cells #[.bool up, .slice B U.length e] 29) = W at HA HD HP HX HY HB0 ⊢
  clear hW hB
  refine (tfok_impl T _ _ _ _ _ hn hm HA.out HD.out).mono ?_
  rintro en w1 ⟨rfl, hb1⟩
  have HB1 := vl (HB0.out.trans (hb1.mono HB0.out.size))
  have HA1 := vl (HA.out.below hb1)
  have HD1 := vl (HD.out.below hb1)
  have HP1 := vl (HP.out.below hb1)
  have HX1 := vl (HX.out.below hb1)
  have HY1 := vl (HY.out.below hb1)
  clear hb1 HA HD HP HX HY HB0
  obtain ⟨y0, y1⟩ := HY1.out
  cases hv : tfOk T with
  | false =>
    have H := vl (tollL_no1 (U := U) (t := t) hv)
    clear hv
    go_wp2
    go_ret
    rw [H.out]
    exact givesE_none HB1.out
  | true =>
    have HT := vl (tfIn_of hv)
    have HV := vl hv
    clear hv
    go_wp2_with fail
    refine (tok_impl up B e U _ hu HP1.out).mono ?_
    rintro en w2 ⟨rfl, hb2⟩
    have HB2 := vl (HB1.out.trans (hb2.mono HB1.out.size))
    have HA2 := vl (HA1.out.below hb2)
    have HD2 := vl (HD1.out.below hb2)
    have HP2 := vl (HP1.out.below hb2)
    have HX2 := vl (HX1.out.below hb2)
    have HY2 := vl (HY1.out.below hb2)
    clear hb2 HA1 HD1 HP1 HX1 HY1 HB1 y0 y1
    cases ho : tOk U with
    | false =>
      have H := vl (tollL_no2 (T := T) (t := t) ho)
      clear ho
      go_wp2
      go_ret
      rw [H.out]
      exact givesE_none HB2.out
    | true =>
      have HOK := vl ho
      have hT0 := toll_in T U
      clear ho
      obtain ⟨w3, hw3⟩ : ∃ x, x = w2 := ⟨_, rfl⟩
      rw [← hw3] at HB2 HA2 HD2 HP2 HX2 HY2 ⊢
      clear hw3
      obtain ⟨x0, x1, x2, x3⟩ := HX2.out.at
      obtain ⟨y0, y1⟩ := HY2.out
      cases ht : inB t 0 1000000 with
      | false =>
        have H := vl (tollL_no3 (T := T) (U := U) ht)
        have HTT := vl ht
        clear ht
        go_wp2_with (go_at_call 100; refine (time_i _ _).mono ?_; rintro en w' ⟨rfl, rfl⟩; rw [HTT.out])
        go_ret
        rw [H.out]
        exact givesE_none HB2.out
      | true =>
        have HTT := vl ht
        have HS := vl (tollL_yes HV.out HOK.out ht)
        obtain ⟨t0, t1⟩ := inB_iff.1 ht
        have hN := outN_le (tollZ T U) T.m T.W
        have hm11 := HT.out.m
        have hid := idN_pos HOK.out
        have hl1 := HX2.out.lt
        have hl2 := HY2.out.1
        clear ht
        go_wp2_with (go_at_call 100; refine (time_i _ _).mono ?_; rintro en w' ⟨rfl, rfl⟩; rw [HTT.out])
        go_region_held3 (fun w' => w'.cell? ⟨w.heap.size, 0, none⟩ = some (.int .i64 T.b) ∧ w'.cell? ⟨w.heap.size, 1, none⟩ = some (.int .i64 T.p) ∧ w'.cell? ⟨w.heap.size, 2, none⟩ = some (.slice A T.n c) ∧ w'.cell? ⟨w.heap.size, 3, none⟩ = some (.slice D T.m d) ∧ w'.cell? ⟨w.heap.size + 1, 0, none⟩ = some (.bool up) ∧ w'.cell? ⟨w.heap.size + 1, 1, none⟩ = some (.slice B U.length e) ∧ Below w3.heap.size w3 w')
          (first | exact ⟨x0, x1, x2, x3, y0, y1, Below.refl _ _⟩ | exact ⟨x0, x1, x2, x3, y0, y1, (Below.refl _ _).drew⟩ | assumption)
          (first
            | (go_at_call 38; obtain ⟨q0, q1, q2, q3, q4, q5, hb7⟩ : _ ∧ _ ∧ _ ∧ _ ∧ _ ∧ _ ∧ Below w3.heap.size w3 _ := by assumption
               refine (toll_impl T A D c d up B e U _ hn hm (HA2.out.below hb7) (HD2.out.below hb7) hu (HP2.out.below hb7)).mono ?_
               rintro en w' ⟨rfl, hb'⟩
               have S0 := And.intro ((hb'.cell (cell_lt' q0)).trans q0) (And.intro ((hb'.cell (cell_lt' q1)).trans q1) (And.intro ((hb'.cell (cell_lt' q2)).trans q2) (And.intro ((hb'.cell (cell_lt' q3)).trans q3) (And.intro ((hb'.cell (cell_lt' q4)).trans q4) (And.intro ((hb'.cell (cell_lt' q5)).trans q5) (hb7.trans (hb'.mono hb7.size)))))))
               clear hb')
            | (go_at_call 101; obtain ⟨q0, q1, q2, q3, q4, q5, hb7⟩ : _ ∧ _ ∧ _ ∧ _ ∧ _ ∧ _ ∧ Below w3.heap.size w3 _ := by assumption
               refine (out_impl (tollZ T U) D T.m d T.W _ hm (HD2.out.below hb7)).mono ?_
               rintro en w' ⟨⟨As, cs, gs, rfl, hrs, hfs, hgs, hls⟩, hb'⟩
               have HRS := vl hrs
               have HGS := vl (show w3.heap.size ≤ gs from Nat.le_trans hb7.size hgs)
               have HLS := vl hls
               have S1 := And.intro ((hb'.cell (cell_lt' q0)).trans q0) (And.intro ((hb'.cell (cell_lt' q1)).trans q1) (And.intro ((hb'.cell (cell_lt' q2)).trans q2) (And.intro ((hb'.cell (cell_lt' q3)).trans q3) (And.intro ((hb'.cell (cell_lt' q4)).trans q4) (And.intro ((hb'.cell (cell_lt' q5)).trans q5) (hb7.trans (hb'.mono hb7.size)))))))
               clear hb' hrs hfs hgs hls))
        all_goals
          obtain ⟨q0, q1, q2, q3, q4, q5, hb9⟩ : _ ∧ _ ∧ _ ∧ _ ∧ _ ∧ _ ∧ Below w3.heap.size w3 _ := by assumption
          obtain ⟨w4, hw4⟩ : ∃ u, u = w' := ⟨_, rfl⟩
          rw [← hw4] at q0 q1 q2 q3 q4 q5 hb9 HRS HLS ⊢
          have HB4 := vl (HB2.out.trans (hb9.mono HB2.out.size))
          have HY4 := vl (show TBox w4 (w.heap.size + 1) up B U.length e from ⟨q4, q5⟩)
          have HP4 := vl (HP2.out.below hb9)
          have hs4 := HB4.out.size
          clear hw4 q0 q1 q2 q3 q4 q5 hb9 S0 S1 x0 x1 x2 x3 y0 y1 HB2 HA2 HD2 HP2 HX2 HY2
          generalize outF (tollZ T U) T.m T.W = S at HRS HS
          generalize outN (tollZ T U) T.m T.W = N at HRS HS HLS hN ⊢
          generalize hy : idf (bts U) 0 = y at HS
          have HYY := vl hy
          clear hy
          go_wp2
          go_loopw [7, 31] (fun v i wr => ∃ k : Nat, k ≤ N ∧ i = .int .i64 k ∧ Veil (Below w.heap.size w wr) ∧ Veil (Below w4.heap.size w4 wr) ∧ Veil (wr.ownsRow w4.heap.size 136 5 v (tolTo S t y k).length (enl (tolTo S t y k)))) (fun _ i _ => N - (intOf i).toNat)
          case atStart => exact ⟨0, by omega, rfl, HB4, vl (Below.refl _ _), vl (own_nil _ _ _ _)⟩
          case round =>
            obtain ⟨k, hk, rfl, HB, HBB, HO⟩ := hrel
            by_cases hlt : k < N
            · obtain rfl := HRS.out.1 (by omega)
              have c0 := (HRS.out.below HBB.out).2 k hlt
              have HY5 := vl (HY4.out.below HBB.out)
              have HP5 := vl (HP4.out.below HBB.out)
              have hs5 := HBB.out.size
              obtain ⟨y0, y1⟩ := HY5.out
              have hl2 := cell_lt' y0
              have kN : (k : Int) < (N : Int) := by omega
              by_cases hpos : 0 < S k
              · have HE := vl (tolTo_yes (t := t) (y := y) hpos)
                have HEN := vl (show entT S t y k = ⟨0, 1 + (k : Int), S k, t, y⟩ from by unfold entT; rw [Int.add_comm])
                have hle := tolTo_le S t y k
                generalize S k = z at c0 hpos HEN ⊢
                go_wp2_with fail
                refine (idsof_impl up B e U _ hu HP5.out).mono ?_
                rintro en w6 ⟨⟨A6, c6, g6, rfl, hr6, _, _, _⟩, hb6⟩
                have i0 := hr6.2 0 hid
                obtain rfl := hr6.1 hid
                rw [HYY.out] at i0
                have hid' : (0 : Int) < (idN U : Int) := by omega
                have HB6 := vl (HB.out.trans (hb6.mono HB.out.size))
                have HBB6 := vl (HBB.out.trans (hb6.mono HBB.out.size))
                have HO6 := vl (own_below HO.out hb6)
                have hs6 := hb6.size
                have HOk := vl (fun k hk => HO6.out.lt k hk)
                have hs46 := HBB6.out.size
                clear hb6 hr6 y0 y1 c0
                go_wp2_with (at_builtin; refine wpList_app rfl _ _ 71 rfl w4.heap.size 136 j0 _ 5 40 Try.underlying71 hj hy0 hy1 hy2 rfl (by decide) _ _ _ rfl ((HO6.out.alloc (.cells #[.int .i64 0, .int .i64 (1 + (k : Int)), .int .i64 z, .int .i64 t, .int .i64 y] 136)).alloc _) (some ⟨w6.heap.size + 1, 0, none⟩) 1 1 (En.cells ⟨0, 1 + (k : Int), z, t, y⟩) rfl rfl (fun _ => ⟨_, rfl, ?c1⟩) ?c2 ?c3 ?c4 ?c5 ?_)
                case c1 => exact news_e' (w6.alloc (.cells #[.int .i64 0, .int .i64 (1 + (k : Int)), .int .i64 z, .int .i64 t, .int .i64 y] 136)) _ ⟨0, 1 + (k : Int), z, t, y⟩ _ (by simp)
                case c2 => exact en_one _
                case c3 => unfold maxLen; omega
                case c4 => omega
                case c5 => simp; omega
                intro v' w7 hown hgr
                have HO7 := vl (show w7.ownsRow w4.heap.size 136 5 v' (tolTo S t y (k + 1)).length (enl (tolTo S t y (k + 1))) from by
                  rw [HE.out, HEN.out, enl_app, enl_one', List.length_append]; exact hown)
                have hb6s := HB6.out.size
                have HB7 := vl (Below.grown (show Below w.heap.size w ((w6.alloc (.cells #[.int .i64 0, .int .i64 (1 + (k : Int)), .int .i64 z, .int .i64 t, .int .i64 y] 136)).alloc (.cells #[.int .i64 0, .int .i64 (1 + (k : Int)), .int .i64 z, .int .i64 t, .int .i64 y] 136)) from (HB6.out.alloc hb6s _).alloc (by simp; omega) _) hgr (by simp; omega) (fun k hk => by have := HOk.out k hk; omega))
                have HBB7 := vl (Below.grown (show Below w4.heap.size w4 ((w6.alloc (.cells #[.int .i64 0, .int .i64 (1 + (k : Int)), .int .i64 z, .int .i64 t, .int .i64 y] 136)).alloc (.cells #[.int .i64 0, .int .i64 (1 + (k : Int)), .int .i64 z, .int .i64 t, .int .i64 y] 136)) from (HBB6.out.alloc hs46 _).alloc (by simp; omega) _) hgr (by simp; omega) (fun k hk => (HOk.out k hk).1))
                clear hgr hown i0
                go_wp2
                go_roundw
                case rel => exact ⟨k + 1, by omega, by go_num, HB7, HBB7, HO7⟩
                case measure => simp [intOf]; omega
              · have HE := vl (tolTo_no (t := t) (y := y) hpos)
                have hpos' : S k ≤ 0 := by omega
                generalize S k = z at c0 hpos hpos' ⊢
                go_wp2
                go_roundw
                case rel => exact ⟨k + 1, by omega, by go_num, HB, HBB, by rw [HE.out]; exact HO⟩
                case measure => simp [intOf]; omega
            · obtain rfl : k = N := by omega
              have hs5 := HBB.out.size
              go_wp2
              go_ret
              rw [HS.out]
              exact givesE_own HO.out (by omega) hs5 HB.out
end Go.Proofs.Ytngmpimoebggdaa.C1
