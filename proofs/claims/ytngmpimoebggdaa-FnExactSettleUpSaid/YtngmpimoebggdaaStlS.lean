/- Settlements of the model. -/
import Derived.Test.YtngmpimoebggdaaStl
import Derived.Test.YtngmpimoebggdaaTrId
import Derived.Deep.AppendLies
namespace Go.Proofs.Ytngmpimoebggdaa.C1
open Go.ChangeShapes Go.WideShapes Go.ChangeAt Go.RowKit Go.Proofs.Ytngmpimoebggdaa.ShareM
set_option linter.unusedVariables false

theorem itl_upd (n : Nat) (Y : Nat → Int) (j : Nat) (x : Int) : (itl n Y).set j (.int .i64 x) = itl n (upd Y j x) := by
  refine List.ext_getElem? fun i => ?_
  rcases Nat.lt_or_ge i n with hi | hi
  · rw [itl_at hi]
    by_cases e : i = j
    · subst e
      rw [List.getElem?_set_self (by rw [itl_len]; exact hi), upd_at]
    · rw [List.getElem?_set_ne (fun h => e h.symm), itl_at hi, upd_ne e]
  · rw [List.getElem?_eq_none (by rw [List.length_set, itl_len]; exact hi), List.getElem?_eq_none (by rw [itl_len]; exact hi)]
theorem own_rowI {w : World} {B g n c : Nat} {Z : Nat → Int} (h : w.ownsRow B 3 1 (.slice (some ⟨g, 0, none⟩) n c) n (itl n Z)) : RowI w (some ⟨g, 0, none⟩) n g Z ∧ Free w n g :=
  ⟨⟨fun _ => rfl, fun i hi => (h.cellAt i (by omega)).trans (itl_at hi)⟩, fun i hi => h.frozenAt i⟩
theorem own_upd {w : World} {B g n c j : Nat} {Z : Nat → Int} (h : w.ownsRow B 3 1 (.slice (some ⟨g, 0, none⟩) n c) n (itl n Z)) (x : Int) : (w.setCell ⟨g, j, none⟩ (.int .i64 x)).ownsRow B 3 1 (.slice (some ⟨g, 0, none⟩) n c) n (itl n (upd Z j x)) := by
  rw [← itl_upd]
  exact (h.stored j (.int .i64 x)).1
theorem own_head {w : World} {B n : Nat} {v : Value} {Z : Nat → Int} (h : w.ownsRow B 3 1 v n (itl n Z)) : ∃ A c, v = .slice A n c ∧ (0 < n → ∃ g, A = some ⟨g, 0, none⟩ ∧ B ≤ g ∧ g < w.heap.size) := by
  rcases h.2 with ⟨rfl, h0⟩ | ⟨g, cap, cur, rfl, hg, hh, _⟩
  · exact ⟨none, 0, by rw [h0], fun h => by omega⟩
  · exact ⟨_, cap, rfl, fun _ => ⟨g, rfl, hg, (Array.getElem?_eq_some_iff.1 hh).1⟩⟩
theorem hi_in (Y : Nat → Int) {k n : Nat} (hk : k ≤ n) (hn : 0 < n) : hiTo Y k < n := by
  rcases Nat.eq_zero_or_pos k with h | h
  · subst h; unfold hiTo; exact hn
  · have := hi_lt Y k h; omega
theorem lo_in (Y : Nat → Int) {k n : Nat} (hk : k ≤ n) (hn : 0 < n) : loTo Y k < n := hi_in _ hk hn
set_option maxRecDepth 100000 in
set_option maxHeartbeats 8000000 in
theorem settle_spec (A : Option Addr) (n c : Nat) (Z : Nat → Int) (t : Int) (w : World) (hn : n ≤ 1048576) (hp : SrcG w A n Z) :
    Calls Try.prog 55 #[.slice A n c, .int .i64 t] w (GivesE w (settleL n Z t)) := by
  obtain ⟨i0, hi, hz0, hz1, hz2⟩ := info_parts infoI
  obtain ⟨j0, hj, hy0, hy1, hy2⟩ := info_parts infoE
  have hB0 := ((Below.refl w.heap.size w).alloc (Nat.le_refl _) (.cells #[] 136)).alloc (by simp) (.cells #[] 3)
  have HP := vl (src_g (hp.below hB0))
  have HE0 := vl (show ((w.alloc (.cells #[] 136)).alloc (.cells #[] 3)).ownsRow w.heap.size 136 5 (.slice (some ⟨w.heap.size, 0, none⟩) 0 0) 0 (enl []) from by
    have := World.ownsRow_lit (base := w.heap.size) (e := 136) (size := 5) w #[] 0 (by simp) (by decide) rfl
    have h2 := this.alloc (.cells #[] 3)
    simpa [enl] using h2)
  have HI0 := vl (show ((w.alloc (.cells #[] 136)).alloc (.cells #[] 3)).ownsRow w.heap.size 3 1 (.slice (some ⟨w.heap.size + 1, 0, none⟩) 0 0) 0 [] from by
    have := World.ownsRow_lit (base := w.heap.size) (e := 3) (size := 1) (w.alloc (.cells #[] 136)) #[] 0 (by simp) (by decide) rfl
    simpa using this)
  have HB0 := vl hB0
  clear hp hB0
  go_enter Try.func55, Try.ntmps55
  go_wp2_with (at_builtin; refine wpList_app rfl _ _ 47 rfl w.heap.size 3 i0 _ 1 8 Try.underlying47 hi hz0 hz1 hz2 rfl (by decide) _ _ _ rfl HI0.out A n c (itl n Z) rfl (by rw [itl_len]; omega) HP.out itl_one ?c3 ?c4 ?c5 ?_)
  case c3 => unfold maxLen; omega
  case c4 => omega
  case c5 => simp; omega
  intro vb w1 hown hgr
  have HB1 := vl (HB0.out.grown hgr (by simp; omega) (fun k hk => by simp [Value.ownBlock] at hk; omega))
  have HE1 := vl (HE0.out.kept hgr (Or.inr (by simp [Value.ownBlock])))
  have HR1 := vl hown
  have hs1 := HB1.out.size
  obtain ⟨A5, c5, hvb, h5⟩ := own_head hown
  subst hvb
  have H5 := vl h5
  clear hown hgr h5 HE0 HI0 HP HB0 hi hz0 hz1 hz2
  go_wp2
  go_loop [7, 8] (fun s i => ∃ k : Nat, k ≤ n ∧ i = .int .i64 k ∧ s = .int .i64 (sumTo Z k) ∧ Veil (inAll Z k = true) ∧ Veil (k = 0 ∨ n ≤ 12)) (fun _ i => n - (intOf i).toNat)
  case atStart => exact ⟨0, by omega, rfl, rfl, vl rfl, vl (Or.inl rfl)⟩
  case round =>
    obtain ⟨k, hk, rfl, rfl, HA, HK⟩ := hrel
    obtain ⟨s0, s1⟩ := sum_inAll HA.out (by have := HK.out; omega)
    by_cases hlt : k < n
    · obtain ⟨g5, hg5, _⟩ := H5.out (by omega)
      subst hg5
      have c0 := (own_rowI HR1.out).1.2 k hlt
      cases hv : inB (Z k) (-1000000000) 1000000000 with
      | false =>
        have HS := vl (settle_bad (t := t) (can_out hlt hv))
        have HV := vl hv
        clear hv
        go_wp2_with (go_at_call 65; refine (in_spec _ _ _ _).mono ?_; rintro e w' ⟨rfl, rfl⟩; rw [HV.out])
        go_ret
        rw [HS.out]
        exact givesE_own HE1.out (Nat.le_refl _) hs1 HB1.out
      | true =>
        obtain ⟨z0, z1⟩ := inB_iff.1 hv
        have HV := vl hv
        by_cases h12 : 12 < n
        · have HS := vl (settle_bad (t := t) (can_len (Z := Z) h12))
          clear hv
          go_wp2_with (go_at_call 65; refine (in_spec _ _ _ _).mono ?_; rintro e w' ⟨rfl, rfl⟩; rw [HV.out])
          go_ret
          rw [HS.out]
          exact givesE_own HE1.out (Nat.le_refl _) hs1 HB1.out
        · have HN := vl (show inAll Z (k + 1) = true by rw [inAll, HA.out, hv]; rfl)
          have h12' : (n : Int) ≤ 12 := by omega
          have HK' := vl (show k + 1 = 0 ∨ n ≤ 12 from Or.inr (by omega))
          clear hv
          go_wp2_with (go_at_call 65; refine (in_spec _ _ _ _).mono ?_; rintro e w' ⟨rfl, rfl⟩; rw [HV.out])
          go_round
          case rel => exact ⟨k + 1, by omega, by go_num, rfl, HN, HK'⟩
          case measure => simp [intOf]; omega
    · obtain rfl : k = n := by omega
      have n12 : k ≤ 12 := by have := HK.out; omega
      have HC := vl (can_sum n12 HA.out)
      clear HK
      by_cases h0 : sumTo Z k = 0
      · have HCT := vl (HC.out.trans (decide_eq_true h0))
        have HI := vl (can_iff.1 HCT.out)
        rw [h0]
        cases ht : inB t 0 1000000 with
        | false =>
          have HS := vl (settle_time (n := k) (Z := Z) ht)
          have HT := vl ht
          clear ht h0 s0 s1
          go_wp2_with (go_at_call 65; refine (in_spec _ _ _ _).mono ?_; rintro e w' ⟨rfl, rfl⟩; rw [HT.out])
          go_ret
          rw [HS.out]
          exact givesE_own HE1.out (Nat.le_refl _) hs1 HB1.out
        | true =>
          have HS := vl (settle_ok HCT.out ht)
          have HT := vl ht
          clear ht h0 s0 s1
          rw [HS.out]
          obtain ⟨m, rfl⟩ : ∃ m, m = k := ⟨_, rfl⟩
          go_wp2_with (go_at_call 65; refine (in_spec _ _ _ _).mono ?_; rintro e w' ⟨rfl, rfl⟩; rw [HT.out])
          go_loopw [5] (fun v wr => ∃ (Y : Nat → Int) (f : Nat) (acc : List En), Veil (StR m t (setl m t 12 Z) Y f acc) ∧ Veil (Below w.heap.size w wr) ∧ Veil (wr.ownsRow w.heap.size 3 1 (.slice A5 m c5) m (itl m Y)) ∧ Veil (wr.ownsRow w.heap.size 136 5 v acc.length (enl acc))) (fun v _ => 13 - lenV v)
          case atStart => exact ⟨Z, 12, [], vl (StR.start HI.out), HB1, HR1, HE1⟩
          case round =>
            obtain ⟨Y, f, acc, HSt, HB, HR, HO⟩ := hrel
            obtain ⟨W9, rfl⟩ : ∃ W9, W9 = wr := ⟨_, rfl⟩
            go_wp2
            go_loopw [9, 10, 11] (fun h l i wr => ∃ k q : Nat, k ≤ m ∧ i = .int .i64 k ∧ h = .int .i64 (hiTo Y k : Int) ∧ l = .int .i64 (loTo Y k : Int) ∧ wr = W9.drewN q) (fun _ _ i _ => m - (intOf i).toNat)
            case atStart => exact ⟨0, 0, by omega, rfl, rfl, rfl, rfl⟩
            case round =>
              obtain ⟨k, q, hk, rfl, rfl, rfl, rfl⟩ := hrel
              by_cases hlt : k < m
              · have hm0 : 0 < m := by omega
                obtain ⟨g5, hg5, _⟩ := H5.out hm0
                subst hg5
                have HRq := vl (own_rowI HR.out).1
                have c0 := HRq.out.2 k hlt
                have hh := hi_in Y (k := k) hk hm0
                have hl := lo_in Y (k := k) hk hm0
                have c1 := HRq.out.2 _ hh
                have c2 := HRq.out.2 _ hl
                have HN1 := vl (show hiTo Y (k + 1) = if Y (hiTo Y k) < Y k then k else hiTo Y k from rfl)
                have HN2 := vl (lo_succ Y k)
                generalize hiTo Y k = h at hh c1 HN1 ⊢
                generalize loTo Y k = l at hl c2 HN2 ⊢
                generalize hx : Y k = x at c0 HN1 HN2
                generalize hy : Y h = y at c1 HN1
                generalize hz : Y l = z at c2 HN2
                have hh0 : (h : Int) < (m : Int) := by omega
                have hl0 : (l : Int) < (m : Int) := by omega
                clear hx hy hz hh hl
                by_cases h1 : y < x <;> by_cases h2 : x < z
                all_goals
                  have HM1 := HN1
                  have HM2 := HN2
                  simp only [h1, h2, if_true, if_false] at HM1 HM2
                  clear HN1 HN2
                  go_wp2
                  go_quiet (fail)
                  go_wp2
                  go_quiet (fail)
                  go_wp2
                  go_roundw
                  case rel => exact ⟨k + 1, _, by omega, by go_num, by rw [HM1.out], by rw [HM2.out], rfl⟩
                  case measure => simp [intOf]; omega
              · obtain rfl : k = m := by omega
                obtain ⟨m, rfl⟩ : ∃ m, m = k := ⟨_, rfl⟩
                have HB8 := vl (HB.out.drewN' q)
                have HR8 := vl (show (W9.drewN q).ownsRow w.heap.size 3 1 (.slice A5 m c5) m (itl m Y) from HR.out)
                have HO8 := vl (show (W9.drewN q).ownsRow w.heap.size 136 5 _ acc.length (enl acc) from HO.out)
                generalize hW8 : W9.drewN q = W8 at HB8 HR8 HO8 ⊢
                clear hW8 HB HR HO
                have hs8 := HB8.out.size
                by_cases hm0 : 0 < m
                · obtain ⟨g5, hg5, hgb, _⟩ := H5.out hm0
                  subst hg5
                  have HRq := vl (own_rowI HR8.out).1
                  have HFq := vl (own_rowI HR8.out).2
                  have hh := hi_in Y (Nat.le_refl m) hm0
                  have hl := lo_in Y (Nat.le_refl m) hm0
                  have c1 := HRq.out.2 _ hh
                  have c2 := HRq.out.2 _ hl
                  have z1 := HFq.out _ hh
                  have z2 := HFq.out _ hl
                  have hI := HSt.out.ok
                  have hh0 : (hiTo Y m : Int) < (m : Int) := by omega
                  have hl0 : (loTo Y m : Int) < (m : Int) := by omega
                  have m0 : ¬ ((m : Int) = 0) := by omega
                  by_cases ho : owes Y m
                  · obtain ⟨a1, a2, p, q9, hne⟩ := hI.pos ho
                    obtain ⟨b0, b1, b2, b3⟩ := hI.amt ho
                    obtain ⟨c10, c11⟩ := hI.bd _ a1
                    obtain ⟨c20, c21⟩ := hI.bd _ a2
                    obtain ⟨hf, hst⟩ := HSt.out.step ho
                    have HSt' := vl hst
                    have hlen := HSt.out.len
                    obtain ⟨V5, d5, g7, hv7, _, _⟩ := rowE_of_own HO8.out hs8
                    subst hv7
                    have HAm := vl (show entZ Y m t = ⟨(hiTo Y m : Int), (loTo Y m : Int), amtZ Y m, t, 0⟩ from rfl)
                    have HNx := vl (show nxtZ Y m = upd (upd Y (hiTo Y m) (Y (hiTo Y m) - amtZ Y m)) (loTo Y m) (Y (loTo Y m) + amtZ Y m) from rfl)
                    have HMi := vl (show amtZ Y m = min (Y (hiTo Y m)) (-Y (loTo Y m)) from rfl)
                    clear hI ho hst a1 a2
                    generalize hiTo Y m = h at hh c1 z1 hh0 p hne c10 c11 b1 HAm HNx HMi HSt' ⊢
                    generalize loTo Y m = l at hl c2 z2 hl0 q9 hne c20 c21 b2 HAm HNx HMi HSt' ⊢
                    generalize amtZ Y m = a at b0 b1 b2 b3 HAm HNx HMi HSt' ⊢
                    generalize hx9 : Y h = x at c1 p c10 c11 b1 HNx HMi ⊢
                    generalize hy9 : Y l = y at c2 q9 c20 c21 b2 HNx HMi ⊢
                    have hx0 : (x == 0) = false := by simp; omega
                    have hm9 : ((m : Int) == 0) = false := by simp; omega
                    have hne' : ¬ (l = h) := fun e => hne e.symm
                    have hcs : (Veil (a = x) ∧ x ≤ -y) ∨ (Veil (a = -y) ∧ -y < x) := by
                      have := HMi.out
                      by_cases e : x ≤ -y
                      · exact Or.inl ⟨vl (by omega), e⟩
                      · exact Or.inr ⟨vl (by omega), by omega⟩
                    have HX9 := vl hx9
                    have HY9 := vl hy9
                    clear hx9 hy9
                    rcases hcs with ⟨HAx, hxy⟩ | ⟨HAx, hxy⟩
                    · go_wp2
                      go_quiet (fail)
                      have HB7 := vl (HB8.out.drewN' nq)
                      have HR7 := vl (show (W8.drewN nq).ownsRow w.heap.size 3 1 (.slice (some ⟨g5, 0, none⟩) m c5) m (itl m Y) from HR8.out)
                      have HO7 := vl (show (W8.drewN nq).ownsRow w.heap.size 136 5 (.slice V5 acc.length d5) acc.length (enl acc) from HO8.out)
                      have hs7 : w.heap.size ≤ (W8.drewN nq).heap.size := HB7.out.size
                      generalize hW7 : W8.drewN nq = W7 at HB7 HR7 HO7 hs7 ⊢
                      clear hW7 c1 c2 z1 z2 HRq HFq HR8 HO8 HB8
                      have HOk := vl (fun k hk => HO7.out.lt k hk)
                      have HDj := vl (own_ne HR7.out HO7.out (by decide))
                      go_wp2_with (at_builtin; refine wpList_app rfl _ _ 71 rfl w.heap.size 136 j0 _ 5 40 Try.underlying71 hj hy0 hy1 hy2 rfl (by decide) _ _ _ rfl (HO7.out.alloc _) (some ⟨W7.heap.size, 0, none⟩) 1 1 (En.cells ⟨(h : Int), (l : Int), x, t, 0⟩) rfl rfl (fun _ => ⟨_, rfl, ?c1⟩) ?c2 ?c3 ?c4 ?c5 ?_)
                      case c1 => exact news_e W7 ⟨(h : Int), (l : Int), x, t, 0⟩ _
                      case c2 => exact en_one _
                      case c3 => unfold maxLen; omega
                      case c4 => omega
                      case c5 => simp; omega
                      intro v' w7 hown hgr
                      have HE9 := vl (show (w7.ownsRow w.heap.size 136 5 v' (acc ++ [entZ Y m t]).length (enl (acc ++ [entZ Y m t]))) from by
                        rw [enl_app, enl_one', HAm.out, HAx.out, List.length_append]; exact hown)
                      have HB9 := vl (Below.grown (show Below w.heap.size w (W7.alloc (.cells #[.int .i64 (h : Int), .int .i64 (l : Int), .int .i64 (x), .int .i64 t, .int .i64 0] 136)) from HB7.out.alloc hs7 _) hgr (by simp; omega) (fun k hk => (HOk.out k hk).1))
                      have HR9 := vl (World.ownsRow.kept (HR7.out.alloc (.cells #[.int .i64 (h : Int), .int .i64 (l : Int), .int .i64 (x), .int .i64 t, .int .i64 0] 136)) hgr HDj.out)
                      have hs9 : w.heap.size ≤ w7.heap.size := HB9.out.size
                      have HD9 := vl (own_ne HE9.out HR9.out (by decide))
                      obtain ⟨V9, d9, g9, hv9, _⟩ := rowE_of_own HE9.out hs9
                      have HV9 := vl hv9
                      clear hgr hown
                      have HRq := vl (own_rowI HR9.out).1
                      have HFq := vl (own_rowI HR9.out).2
                      have c1 := HRq.out.2 _ hh
                      have c2 := HRq.out.2 _ hl
                      have z1 := HFq.out _ hh
                      have z2 := HFq.out _ hl
                      rw [HX9.out] at c1
                      rw [HY9.out] at c2
                      go_wp2
                      go_roundw
                      case rel =>
                        refine ⟨nxtZ Y m, f - 1, acc ++ [entZ Y m t], HSt', vl ?_, vl ?_, vl ?_⟩
                        · exact (HB9.out.setCell (by show w.heap.size ≤ g5; exact hgb) _).setCell (by show w.heap.size ≤ g5; exact hgb) _
                        · rw [HNx.out, HAx.out, show x - x = 0 by omega]
                          exact own_upd (own_upd HR9.out _) _
                        · have hne9 : ∀ k, v'.ownBlock = some k → k ≠ g5 := fun k hk e => by
                            rcases HD9.out with h | h
                            · rw [h] at hk; cases hk
                            · exact h (by rw [hk, e]; rfl)
                          exact own_set (own_set HE9.out hne9) hne9
                      case measure =>
                        rw [HV9.out]
                        simp only [lenV, List.length_append, List.length_cons, List.length_nil]
                        omega
                    · go_wp2
                      go_quiet (fail)
                      have HB7 := vl (HB8.out.drewN' nq)
                      have HR7 := vl (show (W8.drewN nq).ownsRow w.heap.size 3 1 (.slice (some ⟨g5, 0, none⟩) m c5) m (itl m Y) from HR8.out)
                      have HO7 := vl (show (W8.drewN nq).ownsRow w.heap.size 136 5 (.slice V5 acc.length d5) acc.length (enl acc) from HO8.out)
                      have hs7 : w.heap.size ≤ (W8.drewN nq).heap.size := HB7.out.size
                      generalize hW7 : W8.drewN nq = W7 at HB7 HR7 HO7 hs7 ⊢
                      clear hW7 c1 c2 z1 z2 HRq HFq HR8 HO8 HB8
                      have HOk := vl (fun k hk => HO7.out.lt k hk)
                      have HDj := vl (own_ne HR7.out HO7.out (by decide))
                      go_wp2_with (at_builtin; refine wpList_app rfl _ _ 71 rfl w.heap.size 136 j0 _ 5 40 Try.underlying71 hj hy0 hy1 hy2 rfl (by decide) _ _ _ rfl (HO7.out.alloc _) (some ⟨W7.heap.size, 0, none⟩) 1 1 (En.cells ⟨(h : Int), (l : Int), -y, t, 0⟩) rfl rfl (fun _ => ⟨_, rfl, ?c1⟩) ?c2 ?c3 ?c4 ?c5 ?_)
                      case c1 => exact news_e W7 ⟨(h : Int), (l : Int), -y, t, 0⟩ _
                      case c2 => exact en_one _
                      case c3 => unfold maxLen; omega
                      case c4 => omega
                      case c5 => simp; omega
                      intro v' w7 hown hgr
                      have HE9 := vl (show (w7.ownsRow w.heap.size 136 5 v' (acc ++ [entZ Y m t]).length (enl (acc ++ [entZ Y m t]))) from by
                        rw [enl_app, enl_one', HAm.out, HAx.out, List.length_append]; exact hown)
                      have HB9 := vl (Below.grown (show Below w.heap.size w (W7.alloc (.cells #[.int .i64 (h : Int), .int .i64 (l : Int), .int .i64 (-y), .int .i64 t, .int .i64 0] 136)) from HB7.out.alloc hs7 _) hgr (by simp; omega) (fun k hk => (HOk.out k hk).1))
                      have HR9 := vl (World.ownsRow.kept (HR7.out.alloc (.cells #[.int .i64 (h : Int), .int .i64 (l : Int), .int .i64 (-y), .int .i64 t, .int .i64 0] 136)) hgr HDj.out)
                      have hs9 : w.heap.size ≤ w7.heap.size := HB9.out.size
                      have HD9 := vl (own_ne HE9.out HR9.out (by decide))
                      obtain ⟨V9, d9, g9, hv9, _⟩ := rowE_of_own HE9.out hs9
                      have HV9 := vl hv9
                      clear hgr hown
                      have HRq := vl (own_rowI HR9.out).1
                      have HFq := vl (own_rowI HR9.out).2
                      have c1 := HRq.out.2 _ hh
                      have c2 := HRq.out.2 _ hl
                      have z1 := HFq.out _ hh
                      have z2 := HFq.out _ hl
                      rw [HX9.out] at c1
                      rw [HY9.out] at c2
                      go_wp2
                      go_roundw
                      case rel =>
                        refine ⟨nxtZ Y m, f - 1, acc ++ [entZ Y m t], HSt', vl ?_, vl ?_, vl ?_⟩
                        · exact (HB9.out.setCell (by show w.heap.size ≤ g5; exact hgb) _).setCell (by show w.heap.size ≤ g5; exact hgb) _
                        · rw [HNx.out, HAx.out, show x - -y = x + y by omega]
                          exact own_upd (own_upd HR9.out _) _
                        · have hne9 : ∀ k, v'.ownBlock = some k → k ≠ g5 := fun k hk e => by
                            rcases HD9.out with h | h
                            · rw [h] at hk; cases hk
                            · exact h (by rw [hk, e]; rfl)
                          exact own_set (own_set HE9.out hne9) hne9
                      case measure =>
                        rw [HV9.out]
                        simp only [lenV, List.length_append, List.length_cons, List.length_nil]
                        omega
                  · have hdone := HSt.out.done ho
                    have h0 : Y (hiTo Y m) = 0 := by
                      by_cases e : Y (hiTo Y m) = 0
                      · exact e
                      · exact absurd ⟨hm0, e⟩ ho
                    rw [h0] at c1
                    have HD := vl hdone
                    clear hI ho hdone h0
                    go_wp2
                    go_ret
                    rw [HS.out, ← HD.out]
                    exact givesE_own HO8.out (Nat.le_refl _) hs8 HB8.out
                · obtain rfl : m = 0 := by omega
                  have hdone := HSt.out.done (fun h => absurd h.1 (by omega))
                  have HD := vl hdone
                  clear hdone
                  go_wp2
                  go_ret
                  rw [HS.out, ← HD.out]
                  exact givesE_own HO8.out (Nat.le_refl _) hs8 HB8.out
      · have HS := vl (settle_bad (t := t) (HC.out.trans (decide_eq_false h0)))
        go_wp2
        go_ret
        rw [HS.out]
        exact givesE_own HE1.out (Nat.le_refl _) hs1 HB1.out
end Go.Proofs.Ytngmpimoebggdaa.C1
