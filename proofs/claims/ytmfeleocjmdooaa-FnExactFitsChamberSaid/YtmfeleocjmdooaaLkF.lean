/- Whether trains fit into a chamber: of the model and of the program. -/
import Derived.Test.YtmfeleocjmdooaaLkI
import Derived.Test.YtmfeleocjmdooaaFitM
import Derived.Deep.RegionHeld3
namespace Go.Proofs.Ytmfeleocjmdooaa.C1
open Go.ChangeShapes Go.WideShapes Go.ChangeAt Go.RowKit
set_option linter.unusedVariables false

theorem widT_of {T : List (List Bt)} (h : tOk T = true) : widT T = widZ T := by unfold widT; rw [if_pos h]
theorem lenT_of {T : List (List Bt)} (h : tOk T = true) : lenT T = lenZ T := by unfold lenT; rw [if_pos h]
set_option maxRecDepth 100000 in
set_option maxHeartbeats 4000000 in
theorem fits_spec (k : Lk) (A0 A : Option Addr) (n0 c0 c : Nat) (S : List Tr) (w : World) (hm : ModS S) (hp : Trs w A S) :
    Calls Try.prog 77 #[.agg #[.int .i64 k.le, .int .i64 k.wi, .int .i64 k.sa, .int .i64 k.sb, .int .i64 k.ba, .int .i64 k.ar, .int .i64 k.ra, .int .i64 k.wa, .int .i64 k.ga, .slice A0 n0 c0], .slice A S.length c] w fun e w' => e = .returned (.bool (fitB k.le k.wi S)) ∧ Below w.heap.size w w' := by
  have HB0 := vl ((Below.refl w.heap.size w).alloc (Nat.le_refl _) (.cells #[.int .i64 k.le, .int .i64 k.wi, .int .i64 k.sa, .int .i64 k.sb, .int .i64 k.ba, .int .i64 k.ar, .int .i64 k.ra, .int .i64 k.wa, .int .i64 k.ga, .slice A0 n0 c0] 73))
  have HP := vl (hp.below HB0.out)
  have HM := vl hm
  have hn := hm.len
  have HX0 := vl (KBox.new w k (.slice A0 n0 c0) 73)
  clear hp hm
  by_cases h8 : 8 < S.length
  · have HE := vl (fit_bad (le := k.le) (wi := k.wi) (trsB_len h8))
    go_enter Try.func77, Try.ntmps77
    go_wp2
    go_ret
    exact ⟨ret_bool HE.out.symm, HB0.out⟩
  have h8' : S.length ≤ 8 := by omega
  clear h8
  go_enter Try.func77, Try.ntmps77
  go_wp2
  go_loopw [5, 6, 7, 8] (fun l m u i wr => ∃ n : Nat, n ≤ S.length ∧ i = .int .i64 n ∧ l = .int .i64 (lengM (lines k.wi (S.take n))) ∧ m = .int .i64 (lineM (lines k.wi (S.take n))) ∧ u = .int .i64 (usedM (lines k.wi (S.take n))) ∧ Veil (Below w.heap.size w wr) ∧ Veil (KBox wr w.heap.size k (.slice A0 n0 c0)) ∧ Veil (Trs wr A S) ∧ Veil (∀ (i : Nat) (t : Tr), i < n → S[i]? = some t → tOk t.R = true ∧ widZ t.R ≤ k.wi)) (fun _ _ _ i _ => S.length - (intOf i).toNat)
  case atStart => exact ⟨0, by omega, rfl, rfl, rfl, rfl, HB0, HX0, HP, vl fun i t h => by omega⟩
  case round =>
    obtain ⟨n, hk, rfl, rfl, rfl, rfl, HB, HX, HPr, HA⟩ := hrel
    by_cases hlt : n < S.length
    · obtain ⟨t, ht⟩ := get_of hlt
      obtain ⟨g, o, rfl, hc⟩ := HPr.out (by omega)
      obtain ⟨x0, Ai, ci, x1, HT⟩ := hc n t ht
      have HK := vl ht
      have HMt := vl (HM.out.all t (mem_of ht))
      clear hc ht
      go_wp2_with fail
      refine (tok_spec t.up Ai ci t.R _ HMt.out HT.out).mono ?_
      rintro e w1 ⟨rfl, hb1⟩
      have HB1 := vl (HB.out.trans (hb1.mono HB.out.size))
      have HX1 := vl (HX.out.below hb1)
      have HP1 := vl (HPr.out.below hb1)
      clear hb1 x0 x1 HT
      cases hok : tOk t.R with
      | false =>
        have HE := vl (fit_bad (le := k.le) (wi := k.wi) (trsB_bad (allOk_no (mem_of HK.out) hok)))
        clear hok
        go_wp2
        go_ret
        exact ⟨ret_bool HE.out.symm, HB1.out⟩
      | true =>
        have HO := vl hok
        have HI := vl (tOk_iff.1 hok)
        have HWT := vl (widT_of hok)
        have HLT := vl (lenT_of hok)
        clear hok
        obtain ⟨g', o', e', hc⟩ := HP1.out (by omega)
        obtain ⟨x0, Ai, ci, x1, HT⟩ := hc n t HK.out
        injection e' with e'
        injection e' with e1 e2 _
        subst e1; subst e2
        clear hc
        go_wp2_with fail
        refine (wid_spec t.up Ai ci t.R _ HMt.out HT.out).mono ?_
        rintro e w2 ⟨rfl, hb2⟩
        rw [HWT.out]
        have HB2 := vl (HB1.out.trans (hb2.mono HB1.out.size))
        have HX2 := vl (HX1.out.below hb2)
        have HP2 := vl (HP1.out.below hb2)
        clear hb2 x0 x1 HT
        obtain ⟨wd0, wd1⟩ := widZ_in HI.out
        obtain ⟨ln0, ln1⟩ := lenZ_in HI.out
        obtain ⟨y0, y1, y2, y3, y4, y5, y6, y7, y8, y9⟩ := HX2.out
        clear y0 y2 y3 y4 y5 y6 y7 y8 y9
        by_cases hw : k.wi < widZ t.R
        · have HE := vl (fit_wide (le := k.le) (wi := k.wi) (mem_of HK.out) hw)
          go_wp2
          go_ret
          exact ⟨ret_bool HE.out.symm, HB2.out⟩
        have hw' : widZ t.R ≤ k.wi := by omega
        clear hw
        have hT8 : ∀ u ∈ S.take n, TIn u.R := fun u hu => by
          obtain ⟨i, hi⟩ := List.getElem?_of_mem hu
          have hil := len_of hi
          rw [List.length_take] at hil
          rw [List.getElem?_take_of_lt (by omega)] at hi
          exact tOk_iff.1 (HA.out i u (by omega) hi).1
        have hbd := step_bd (W := k.wi) (S := S.take n) (by rw [List.length_take]; omega) hT8 n
        rw [List.take_take, Nat.min_self] at hbd
        obtain ⟨⟨u0, u1⟩, ⟨l0, l1⟩, z0, z1⟩ := hbd
        have HIn := vl (fun (hn : 0 < n) h => step_in (W := k.wi) HK.out hn h)
        have HNew := vl (fun h => step_new (W := k.wi) HK.out ln0 h)
        have HA2 := vl (show ∀ (i : Nat) (u : Tr), i < n + 1 → S[i]? = some u → tOk u.R = true ∧ widZ u.R ≤ k.wi from fun i u hi hu => by
          by_cases e : i = n
          · subst e
            rw [HK.out] at hu
            injection hu with hu
            subst hu
            exact ⟨HO.out, hw'⟩
          · exact HA.out i u (by omega) hu)
        clear hT8 HA
        generalize usedM (lines k.wi (S.take n)) = us at u0 u1 HIn HNew ⊢
        generalize lineM (lines k.wi (S.take n)) = ln at l0 l1 HIn HNew ⊢
        generalize lengM (lines k.wi (S.take n)) = lg at z0 z1 HIn HNew ⊢
        obtain ⟨wd, hwd⟩ : ∃ wd, wd = widZ t.R := ⟨_, rfl⟩
        obtain ⟨le, hle⟩ : ∃ le, le = lenZ t.R := ⟨_, rfl⟩
        rw [← hwd] at wd0 wd1 hw' HIn HNew HWT ⊢
        rw [← hle] at ln0 ln1 HIn HNew HLT
        clear hwd hle
        obtain ⟨g', o', e', hc⟩ := HP2.out (by omega)
        obtain ⟨x0, Ai, ci, x1, HT⟩ := hc n t HK.out
        injection e' with e'
        injection e' with e1 e2 _
        subst e1; subst e2
        clear hc
        by_cases hn0 : 0 < n
        · by_cases hfit : us + wd ≤ k.wi
          · obtain ⟨q1, q2, q3⟩ := HIn.out hn0 hfit
            have HQ := vl (And.intro q1 (And.intro q2 q3))
            clear q1 q2 q3 HIn HNew
            go_wp2_with fail
            refine (len_spec t.up Ai ci t.R _ HMt.out HT.out).mono ?_
            rintro e w3 ⟨rfl, hb3⟩
            rw [HLT.out]
            have HB3 := vl (HB2.out.trans (hb3.mono HB2.out.size))
            have HX3 := vl (HX2.out.below hb3)
            have HP3 := vl (HP2.out.below hb3)
            clear hb3 x0 x1 HT y1
            go_wp2
            all_goals
              go_roundw
              case rel => exact ⟨n + 1, by omega, by go_num, congrArg (Value.int .i64) HQ.out.2.2.symm, congrArg (Value.int .i64) (by rw [HQ.out.2.1]; omega), congrArg (Value.int .i64) HQ.out.1.symm, HB3, HX3, HP3, HA2⟩
              case measure => simp [intOf]; omega
          · have hov : k.wi < us + wd := by omega
            obtain ⟨q1, q2, q3⟩ := HNew.out (Or.inr hfit)
            have HQ := vl (And.intro q1 (And.intro q2 q3))
            clear q1 q2 q3 HIn HNew hfit
            go_wp2_with fail
            refine (len_spec t.up Ai ci t.R _ HMt.out HT.out).mono ?_
            rintro e w3 ⟨rfl, hb3⟩
            rw [HLT.out]
            have HB3 := vl (HB2.out.trans (hb3.mono HB2.out.size))
            have HX3 := vl (HX2.out.below hb3)
            have HP3 := vl (HP2.out.below hb3)
            clear hb3 x0 x1 HT y1
            go_wp2
            go_roundw
            case rel => exact ⟨n + 1, by omega, by go_num, congrArg (Value.int .i64) HQ.out.2.2.symm, congrArg (Value.int .i64) HQ.out.2.1.symm, congrArg (Value.int .i64) HQ.out.1.symm, HB3, HX3, HP3, HA2⟩
            case measure => simp [intOf]; omega
        · obtain rfl : n = 0 := by omega
          obtain ⟨q1, q2, q3⟩ := HNew.out (Or.inl rfl)
          have HQ := vl (And.intro q1 (And.intro q2 q3))
          clear q1 q2 q3 HIn HNew hn0
          simp only [Nat.zero_mul, Nat.add_zero] at x0 x1
          go_wp2_with fail
          refine (len_spec t.up Ai ci t.R _ HMt.out HT.out).mono ?_
          rintro e w3 ⟨rfl, hb3⟩
          rw [HLT.out]
          have HB3 := vl (HB2.out.trans (hb3.mono HB2.out.size))
          have HX3 := vl (HX2.out.below hb3)
          have HP3 := vl (HP2.out.below hb3)
          clear hb3 x0 x1 HT y1
          go_wp2
          go_roundw
          case rel => exact ⟨0 + 1, by omega, by go_num, congrArg (Value.int .i64) HQ.out.2.2.symm, congrArg (Value.int .i64) HQ.out.2.1.symm, congrArg (Value.int .i64) HQ.out.1.symm, HB3, HX3, HP3, HA2⟩
          case measure => simp [intOf]; omega
    · obtain rfl : n = S.length := by omega
      have HAll := vl (allOk_of fun i t hi => (HA.out i t (len_of hi) hi).1)
      have HE := vl (show fitB k.le k.wi S = (difB (idz (boz S)) && decide (lengM (lines k.wi (S.take S.length)) + lineM (lines k.wi (S.take S.length)) ≤ k.le)) from by
        rw [List.take_length, ← tot_line]
        unfold fitB
        rw [trsB_of h8' HAll.out, narrow_of fun t ht => by
          obtain ⟨i, hi⟩ := List.getElem?_of_mem ht
          exact (HA.out i t (len_of hi) hi).2, Bool.true_and]
        rfl)
      have hT8 : ∀ u ∈ S, TIn u.R := fun u hu => by
        obtain ⟨i, hi⟩ := List.getElem?_of_mem hu
        exact tOk_iff.1 (HA.out i u (len_of hi) hi).1
      obtain ⟨_, ⟨l0, l1⟩, z0, z1⟩ := step_bd (W := k.wi) h8' hT8 S.length
      clear hT8 HA
      generalize lineM (lines k.wi (S.take S.length)) = ln at l0 l1 HE ⊢
      generalize lengM (lines k.wi (S.take S.length)) = lg at z0 z1 HE ⊢
      obtain ⟨y0, y1, y2, y3, y4, y5, y6, y7, y8, y9⟩ := HX.out
      clear y1 y2 y3 y4 y5 y6 y7 y8 y9
      by_cases hfit : lg + ln ≤ k.le
      · have HE2 := vl (show fitB k.le k.wi S = difB (idz (boz S)) by rw [HE.out, decide_eq_true hfit, Bool.and_true])
        clear HE
        go_wp2_with fail
        refine (differ_spec A c S _ HM.out HAll.out HPr.out).mono ?_
        rintro e w1 ⟨rfl, hb1⟩
        have HB1 := vl (HB.out.trans (hb1.mono HB.out.size))
        clear hb1
        go_wp2
        go_ret
        exact ⟨ret_bool HE2.out.symm, HB1.out⟩
      · have hov : k.le < lg + ln := by omega
        have HE2 := vl (show fitB k.le k.wi S = false by rw [HE.out, decide_eq_false hfit, Bool.and_false])
        clear HE hfit
        go_wp2
        go_ret
        exact ⟨ret_bool HE2.out.symm, HB.out⟩
set_option maxRecDepth 100000 in
set_option maxHeartbeats 4000000 in
theorem room_impl (k : Lk) (A0 A : Option Addr) (n0 c0 c : Nat) (L : List Ti) (w : World) (hn : L.length ≤ 8) (hk : TiOk w L) (hp : Tis w A L) :
    Calls Try.prog 135 #[.agg #[.int .i64 k.le, .int .i64 k.wi, .int .i64 k.sa, .int .i64 k.sb, .int .i64 k.ba, .int .i64 k.ar, .int .i64 k.ra, .int .i64 k.wa, .int .i64 k.ga, .slice A0 n0 c0], .slice A L.length c] w fun e w' => e = .returned (.bool (roomB k.le k.wi L)) ∧ Below w.heap.size w w' := by
  have HB0 := vl ((Below.refl w.heap.size w).alloc (Nat.le_refl _) (.cells #[.int .i64 k.le, .int .i64 k.wi, .int .i64 k.sa, .int .i64 k.sb, .int .i64 k.ba, .int .i64 k.ar, .int .i64 k.ra, .int .i64 k.wa, .int .i64 k.ga, .slice A0 n0 c0] 73))
  have HP := vl (hp.below HB0.out)
  have HK := vl (hk.below HB0.out)
  have HX0 := vl (KBox.new w k (.slice A0 n0 c0) 73)
  clear hp hk
  obtain ⟨y0, y1, y2, y3, y4, y5, y6, y7, y8, y9⟩ := HX0.out
  clear y0 y2 y3 y4 y5 y6 y7 y8 y9
  go_enter Try.func135, Try.ntmps135
  go_wp2_with fail
  refine (side_t k.wi A c L _ (by omega) HK.out HP.out).mono ?_
  rintro e w3 ⟨⟨v3, xs3, rfl, ho3⟩, hb3⟩
  obtain ⟨A3, c3, rfl, _⟩ := own_src ho3.own
  have HB3 := vl (HB0.out.trans (hb3.mono HB0.out.size))
  have HX3 := vl (HX0.out.below hb3)
  have HK3 := vl (HK.out.below hb3)
  have HO3 := vl ho3
  have HRow := vl (fun r hr => sideP_row (P := fits_t k.wi) (L := L) (r := r) hr)
  have hM8 : (sideP (fits_t k.wi) L).length ≤ 8 := Nat.le_trans sideP_len hn
  have HE := vl (show roomB k.le k.wi L = ((sideP (fits_t k.wi) L).all (fun r => decide (sumX r ≤ k.wi)) && decide ((sideP (fits_t k.wi) L).foldl (fun n r => wrap64 (n + topX r)) 0 ≤ k.le)) from rfl)
  have hlw3 : w.heap.size < w3.heap.size := HX3.out.lt
  clear ho3 hb3 y1 HX0 HB0 HP HK
  generalize sideP (fits_t k.wi) L = M at HO3 hM8 HRow HE ⊢
  go_wp2
  go_loopw [5, 13] (fun l i wr => ∃ n : Nat, n ≤ M.length ∧ i = .int .i64 n ∧ l = .int .i64 (fk (fun n r => wrap64 (n + topX r)) 0 M n) ∧ Veil (Below w.heap.size w wr) ∧ Veil (Below w3.heap.size w3 wr) ∧ Veil (∀ (i : Nat) (r : List Ti), i < n → M[i]? = some r → sumX r ≤ k.wi)) (fun _ i _ => M.length - (intOf i).toNat)
  case atStart => exact ⟨0, by omega, rfl, by rw [fk_zero], HB3, vl (Below.refl _ _), vl fun i r h => by omega⟩
  case round =>
    obtain ⟨n, hk, rfl, rfl, HB, HC, HA⟩ := hrel
    have HX := vl (HX3.out.below HC.out)
    obtain ⟨y0, y1, y2, y3, y4, y5, y6, y7, y8, y9⟩ := HX.out
    clear y2 y3 y4 y5 y6 y7 y8 y9
    by_cases hlt : n < M.length
    · obtain ⟨r, hr⟩ := get_of hlt
      have hO := HO3.out.below HC.out
      obtain ⟨u, hu, hro⟩ := hO.row n r hr
      obtain ⟨Ar, cr, rfl, hvr⟩ := tis_of_own hro
      obtain ⟨g0, rfl⟩ : ∃ g0, A3 = some ⟨g0, 0, none⟩ := by
        rcases hO.own.2 with ⟨_, h0⟩ | ⟨g, cap, cur, e, _⟩
        · omega
        · injection e with e1; exact ⟨g, e1⟩
      have x0 : wr.cell? ⟨g0, n, none⟩ = some (.slice Ar r.length cr) := by
        rw [hO.own.cellAt _ (by omega)]; exact hu
      obtain ⟨hr8, hrm⟩ := HRow.out r (mem_of hr)
      have HVr := vl hvr
      have HKr := vl (show TiOk wr r from fun a ha => (HK3.out.below HC.out) a (hrm a ha))
      have HS := vl (fk_succ (f := fun (n : Int) (r : List Ti) => wrap64 (n + topX r)) (a := (0 : Int)) hr)
      have HK2 := vl hr
      clear hO hu hro hrm hr hvr y0
      generalize fk (fun n r => wrap64 (n + topX r)) 0 M n = l at HS ⊢
      go_wp2
      go_region_held3 (fun w' => w'.cell? ⟨w.heap.size, 1, none⟩ = some (.int .i64 k.wi))
        (first | assumption | go_keep)
        (first
          | (go_at_call 182
             refine (sumT_impl Ar cr r _ (by omega) (HKr.out.below (Below.refl wr.heap.size wr).drew) (HVr.out.below (Below.refl wr.heap.size wr).drew)).mono ?_
             rintro e w5 ⟨rfl, hb5⟩
             have S5 := (hb5.cell (cell_lt' y1)).trans y1))
      have hb5' : Below wr.heap.size wr w5 := (Below.refl wr.heap.size wr).drew.trans hb5
      have HB5 := vl (HB.out.trans (hb5'.mono HB.out.size))
      have HC5 := vl (HC.out.trans (hb5'.mono HC.out.size))
      have HV5 := vl (HVr.out.below hb5')
      have HL5 := vl (HKr.out.below hb5')
      clear hb5 hb5' S5 x0 y1
      by_cases hwide : k.wi < sumX r
      · have HE2 := vl (show roomB k.le k.wi L = false by
          rw [HE.out, Bool.and_eq_false_iff]
          exact Or.inl (List.all_eq_false.2 ⟨r, mem_of HK2.out, by simp; omega⟩))
        go_wp2
        go_ret
        exact ⟨ret_bool HE2.out.symm, HB5.out⟩
      · have hnar : sumX r ≤ k.wi := by omega
        have HA2 := vl (show ∀ (i : Nat) (s : List Ti), i < n + 1 → M[i]? = some s → sumX s ≤ k.wi from fun i s hi hs => by
          by_cases e : i = n
          · subst e
            rw [HK2.out] at hs
            injection hs with hs
            subst hs
            exact hnar
          · exact HA.out i s (by omega) hs)
        clear hwide
        go_wp2_with fail
        refine (topT_impl Ar cr r _ (by omega) HL5.out HV5.out).mono ?_
        rintro e w6 ⟨rfl, hb6⟩
        have HB6 := vl (HB5.out.trans (hb6.mono HB5.out.size))
        have HC6 := vl (HC5.out.trans (hb6.mono HC5.out.size))
        clear hb6
        go_wp2
        go_roundw
        case rel => exact ⟨n + 1, by omega, by go_num, congrArg (Value.int .i64) (by rw [HS.out]), HB6, HC6, HA2⟩
        case measure => simp [intOf]; omega
    · obtain rfl : n = M.length := by omega
      have HE2 := vl (show roomB k.le k.wi L = decide (M.foldl (fun n r => wrap64 (n + topX r)) 0 ≤ k.le) from by
        rw [HE.out, show M.all (fun r => decide (sumX r ≤ k.wi)) = true from List.all_eq_true.2 fun r hr => by
          obtain ⟨i, hi⟩ := List.getElem?_of_mem hr
          exact decide_eq_true (HA.out i r (len_of hi) hi), Bool.true_and])
      rw [fk_end]
      clear HE
      generalize M.foldl (fun n r => wrap64 (n + topX r)) 0 = tot at HE2 ⊢
      go_wp2
      go_ret
      exact ⟨ret_bool HE2.out.symm, HB.out⟩
theorem fit_len {le wi : Int} {S : List Tr} (h : 8 < S.length) : fitB le wi S = false := fit_bad (trsB_len h)
theorem fit_split {le wi : Int} {L : List Ti} : fitB le wi (L.map Ti.t) = (roomB le wi L && trsB (L.map Ti.t)) := by
  cases h : trsB (L.map Ti.t) with
  | true => rw [fit_room h, Bool.and_true]
  | false => rw [fit_bad h, Bool.and_false]
set_option maxRecDepth 100000 in
set_option maxHeartbeats 4000000 in
theorem fits_impl (k : Lk) (A0 A : Option Addr) (n0 c0 c : Nat) (S : List Tr) (w : World) (hm : ModS S) (hp : Trs w A S) :
    Calls Try.prog 79 #[.agg #[.int .i64 k.le, .int .i64 k.wi, .int .i64 k.sa, .int .i64 k.sb, .int .i64 k.ba, .int .i64 k.ar, .int .i64 k.ra, .int .i64 k.wa, .int .i64 k.ga, .slice A0 n0 c0], .slice A S.length c] w fun e w' => e = .returned (.bool (fitB k.le k.wi S)) ∧ Below w.heap.size w w' := by
  have HB0 := vl ((Below.refl w.heap.size w).alloc (Nat.le_refl _) (.cells #[.int .i64 k.le, .int .i64 k.wi, .int .i64 k.sa, .int .i64 k.sb, .int .i64 k.ba, .int .i64 k.ar, .int .i64 k.ra, .int .i64 k.wa, .int .i64 k.ga, .slice A0 n0 c0] 73))
  have HP := vl (hp.below HB0.out)
  have HM := vl hm
  have HX0 := vl (KBox.new w k (.slice A0 n0 c0) 73)
  clear hp hm
  by_cases h8 : 8 < S.length
  · have HE := vl (fit_len (le := k.le) (wi := k.wi) h8)
    go_enter Try.func79, Try.ntmps79
    go_wp2
    go_ret
    exact ⟨ret_bool HE.out.symm, HB0.out⟩
  have h8' : S.length ≤ 8 := by omega
  clear h8
  obtain ⟨L, hL, hT, hK⟩ := trs_ti HM.out.all HP.out
  have hLn : L.length = S.length := by rw [← hL]; simp
  have HT := vl hT
  have HK := vl hK
  have HSp := vl (fit_split (le := k.le) (wi := k.wi) (L := L))
  rw [hL] at HSp
  have HLn := vl hLn
  clear hT hK hL hLn
  obtain ⟨y0, y1, y2, y3, y4, y5, y6, y7, y8, y9⟩ := HX0.out
  go_enter Try.func79, Try.ntmps79
  go_wp2_with fail
  have hr := room_impl k A0 A n0 c0 c L (w.alloc (.cells #[.int .i64 k.le, .int .i64 k.wi, .int .i64 k.sa, .int .i64 k.sb, .int .i64 k.ba, .int .i64 k.ar, .int .i64 k.ra, .int .i64 k.wa, .int .i64 k.ga, .slice A0 n0 c0] 73)) (by have := HLn.out; omega) HK.out HT.out
  rw [HLn.out] at hr
  refine hr.mono ?_
  rintro e w1 ⟨rfl, hb1⟩
  have HB1 := vl (HB0.out.trans (hb1.mono HB0.out.size))
  have HP1 := vl (HP.out.below hb1)
  clear hb1 hr y0 y1 y2 y3 y4 y5 y6 y7 y8 y9
  cases hrm : roomB k.le k.wi L with
  | false =>
    have HE := vl (show fitB k.le k.wi S = false by rw [HSp.out, hrm]; rfl)
    clear hrm
    go_wp2
    go_ret
    exact ⟨ret_bool HE.out.symm, HB1.out⟩
  | true =>
    have HE := vl (show fitB k.le k.wi S = trsB S by rw [HSp.out, hrm, Bool.true_and])
    clear hrm
    go_wp2_with fail
    refine (trains_impl A c S _ HM.out HP1.out).mono ?_
    rintro e w2 ⟨rfl, hb2⟩
    have HB2 := vl (HB1.out.trans (hb2.mono HB1.out.size))
    clear hb2
    go_wp2
    go_ret
    exact ⟨ret_bool HE.out.symm, HB2.out⟩
end Go.Proofs.Ytmfeleocjmdooaa.C1
