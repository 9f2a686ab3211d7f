/- Whether trains fit into a chamber: of the model and of the program. -/
import Derived.Test.YtneapghhnjheaaaLkI
import Derived.Test.YtneapghhnjheaaaFitM
import Derived.Deep.RegionHeld3
namespace Go.Proofs.Ytneapghhnjheaaa.C1
open Go.ChangeShapes Go.WideShapes Go.ChangeAt Go.RowKit
set_option linter.unusedVariables false

theorem widT_of {T : List (List Bt)} (h : tOk T = true) : widT T = widZ T := by unfold widT; rw [if_pos h]
theorem lenT_of {T : List (List Bt)} (h : tOk T = true) : lenT T = lenZ T := by unfold lenT; rw [if_pos h]
theorem widZ_in {T : List (List Bt)} (h : TIn T) : 0 ≤ widZ T ∧ widZ T ≤ 180 := by
  have := widZ_bd h T.length
  rw [fk_end] at this
  exact this
theorem lenZ_in {T : List (List Bt)} (h : TIn T) : 0 ≤ lenZ T ∧ lenZ T ≤ 1200 := by
  have := lenZ_bd h T.length
  rw [fk_end] at this
  have h6 := h.rows.2
  exact ⟨this.1, by have := this.2; unfold lenZ; omega⟩
set_option maxRecDepth 100000 in
set_option maxHeartbeats 4000000 in
theorem fits_spec (k : Lk) (A0 A : Option Addr) (n0 c0 c : Nat) (S : List Tr) (w : World) (hm : ModS S) (hp : Trs w A S) :
    Calls Try.prog 34 #[.agg #[.int .i64 k.le, .int .i64 k.wi, .int .i64 k.sa, .int .i64 k.sb, .int .i64 k.ba, .int .i64 k.ar, .int .i64 k.ra, .int .i64 k.wa, .int .i64 k.ga, .slice A0 n0 c0], .slice A S.length c] w fun e w' => e = .returned (.bool (fitB k.le k.wi S)) ∧ Below w.heap.size w w' := by
  have HB0 := vl ((Below.refl w.heap.size w).alloc (Nat.le_refl _) (.cells #[.int .i64 k.le, .int .i64 k.wi, .int .i64 k.sa, .int .i64 k.sb, .int .i64 k.ba, .int .i64 k.ar, .int .i64 k.ra, .int .i64 k.wa, .int .i64 k.ga, .slice A0 n0 c0] 45))
  have HP := vl (hp.below HB0.out)
  have HM := vl hm
  have hn := hm.len
  have HX0 := vl (KBox.new w k (.slice A0 n0 c0) 45)
  clear hp hm
  by_cases h8 : 8 < S.length
  · have HE := vl (fit_bad (le := k.le) (wi := k.wi) (trsB_len h8))
    go_enter Try.func34, Try.ntmps34
    go_wp2
    go_ret
    exact ⟨ret_bool HE.out.symm, HB0.out⟩
  have h8' : S.length ≤ 8 := by omega
  clear h8
  go_enter Try.func34, Try.ntmps34
  go_wp2
  go_loopw [5, 6, 7, 8] (fun l m u i wr => ∃ n : Nat, n ≤ S.length ∧ i = .int .i64 n ∧ l = .int .i64 (lengM (lines k.wi (S.take n))) ∧ m = .int .i64 (lineM (lines k.wi (S.take n))) ∧ u = .int .i64 (usedM (lines k.wi (S.take n))) ∧ Veil (Below w.heap.size w wr) ∧ Veil (KBox wr w.heap.size k (.slice A0 n0 c0)) ∧ Veil (Trs wr A S) ∧ Veil (∀ (i : Nat) (t : Tr), i < n → S[i]? = some t → tOk t.R = true ∧ widZ t.R ≤ k.wi)) (fun _ _ _ i _ => S.length - (intOf i).toNat)
  case atStart => exact ⟨0, by omega, rfl, rfl, rfl, rfl, HB0, HX0, HP, vl fun i t h => by omega⟩
  case round =>
    obtain ⟨n, hk, rfl, rfl, rfl, rfl, HB, HX, HPr, HA⟩ := hrel
    by_cases hlt : n < S.length
    · obtain ⟨t, ht⟩ := get_of hlt
      obtain ⟨g, o, rfl, hc⟩ := HPr.out (by omega)
      obtain ⟨x0, Ai, ci, x1, HT⟩ := hc n t ht
      have HK := vl ht
      have HMt := vl (HM.out.all t (mem_of ht))
      clear hc ht
      go_wp2_with fail
      refine (tok_spec t.up Ai ci t.R _ HMt.out HT.out).mono ?_
      rintro e w1 ⟨rfl, hb1⟩
      have HB1 := vl (HB.out.trans (hb1.mono HB.out.size))
      have HX1 := vl (HX.out.below hb1)
      have HP1 := vl (HPr.out.below hb1)
      clear hb1 x0 x1 HT
      cases hok : tOk t.R with
      | false =>
        have HE := vl (fit_bad (le := k.le) (wi := k.wi) (trsB_bad (allOk_no (mem_of HK.out) hok)))
        clear hok
        go_wp2
        go_ret
        exact ⟨ret_bool HE.out.symm, HB1.out⟩
      | true =>
        have HO := vl hok
        have HI := vl (tOk_iff.1 hok)
        have HWT := vl (widT_of hok)
        have HLT := vl (lenT_of hok)
        clear hok
        obtain ⟨g', o', e', hc⟩ := HP1.out (by omega)
        obtain ⟨x0, Ai, ci, x1, HT⟩ := hc n t HK.out
        injection e' with e'
        injection e' with e1 e2 _
        subst e1; subst e2
        clear hc
        go_wp2_with fail
        refine (wid_spec t.up Ai ci t.R _ HMt.out HT.out).mono ?_
        rintro e w2 ⟨rfl, hb2⟩
        rw [HWT.out]
        have HB2 := vl (HB1.out.trans (hb2.mono HB1.out.size))
        have HX2 := vl (HX1.out.below hb2)
        have HP2 := vl (HP1.out.below hb2)
        clear hb2 x0 x1 HT
        obtain ⟨wd0, wd1⟩ := widZ_in HI.out
        obtain ⟨ln0, ln1⟩ := lenZ_in HI.out
        obtain ⟨y0, y1, y2, y3, y4, y5, y6, y7, y8, y9⟩ := HX2.out
        clear y0 y2 y3 y4 y5 y6 y7 y8 y9
        by_cases hw : k.wi < widZ t.R
        · have HE := vl (fit_wide (le := k.le) (wi := k.wi) (mem_of HK.out) hw)
          go_wp2
          go_ret
          exact ⟨ret_bool HE.out.symm, HB2.out⟩
        have hw' : widZ t.R ≤ k.wi := by omega
        clear hw
        have hT8 : ∀ u ∈ S.take n, TIn u.R := fun u hu => by
          obtain ⟨i, hi⟩ := List.getElem?_of_mem hu
          have hil := len_of hi
          rw [List.length_take] at hil
          rw [List.getElem?_take_of_lt (by omega)] at hi
          exact tOk_iff.1 (HA.out i u (by omega) hi).1
        have hbd := step_bd (W := k.wi) (S := S.take n) (by rw [List.length_take]; omega) hT8 n
        rw [List.take_take, Nat.min_self] at hbd
        obtain ⟨⟨u0, u1⟩, ⟨l0, l1⟩, z0, z1⟩ := hbd
        have HIn := vl (fun (hn : 0 < n) h => step_in (W := k.wi) HK.out hn h)
        have HNew := vl (fun h => step_new (W := k.wi) HK.out ln0 h)
        have HA2 := vl (show ∀ (i : Nat) (u : Tr), i < n + 1 → S[i]? = some u → tOk u.R = true ∧ widZ u.R ≤ k.wi from fun i u hi hu => by
          by_cases e : i = n
          · subst e
            rw [HK.out] at hu
            injection hu with hu
            subst hu
            exact ⟨HO.out, hw'⟩
          · exact HA.out i u (by omega) hu)
        clear hT8 HA
        generalize usedM (lines k.wi (S.take n)) = us at u0 u1 HIn HNew ⊢
        generalize lineM (lines k.wi (S.take n)) = ln at l0 l1 HIn HNew ⊢
        generalize lengM (lines k.wi (S.take n)) = lg at z0 z1 HIn HNew ⊢
        obtain ⟨wd, hwd⟩ : ∃ wd, wd = widZ t.R := ⟨_, rfl⟩
        obtain ⟨le, hle⟩ : ∃ le, le = lenZ t.R := ⟨_, rfl⟩
        rw [← hwd] at wd0 wd1 hw' HIn HNew HWT ⊢
        rw [← hle] at ln0 ln1 HIn HNew HLT
        clear hwd hle
        obtain ⟨g', o', e', hc⟩ := HP2.out (by omega)
        obtain ⟨x0, Ai, ci, x1, HT⟩ := hc n t HK.out
        injection e' with e'
        injection e' with e1 e2 _
        subst e1; subst e2
        clear hc
        by_cases hn0 : 0 < n
        · by_cases hfit : us + wd ≤ k.wi
          · obtain ⟨q1, q2, q3⟩ := HIn.out hn0 hfit
            have HQ := vl (And.intro q1 (And.intro q2 q3))
            clear q1 q2 q3 HIn HNew
            go_wp2_with fail
            refine (len_spec t.up Ai ci t.R _ HMt.out HT.out).mono ?_
            rintro e w3 ⟨rfl, hb3⟩
            rw [HLT.out]
            have HB3 := vl (HB2.out.trans (hb3.mono HB2.out.size))
            have HX3 := vl (HX2.out.below hb3)
            have HP3 := vl (HP2.out.below hb3)
            clear hb3 x0 x1 HT y1
            go_wp2
            all_goals
              go_roundw
              case rel => exact ⟨n + 1, by omega, by go_num, congrArg (Value.int .i64) HQ.out.2.2.symm, congrArg (Value.int .i64) (by rw [HQ.out.2.1]; omega), congrArg (Value.int .i64) HQ.out.1.symm, HB3, HX3, HP3, HA2⟩
              case measure => simp [intOf]; omega
          · have hov : k.wi < us + wd := by omega
            obtain ⟨q1, q2, q3⟩ := HNew.out (Or.inr hfit)
            have HQ := vl (And.intro q1 (And.intro q2 q3))
            clear q1 q2 q3 HIn HNew hfit
            go_wp2_with fail
            refine (len_spec t.up Ai ci t.R _ HMt.out HT.out).mono ?_
            rintro e w3 ⟨rfl, hb3⟩
            rw [HLT.out]
            have HB3 := vl (HB2.out.trans (hb3.mono HB2.out.size))
            have HX3 := vl (HX2.out.below hb3)
            have HP3 := vl (HP2.out.below hb3)
            clear hb3 x0 x1 HT y1
            go_wp2
            go_roundw
            case rel => exact ⟨n + 1, by omega, by go_num, congrArg (Value.int .i64) HQ.out.2.2.symm, congrArg (Value.int .i64) HQ.out.2.1.symm, congrArg (Value.int .i64) HQ.out.1.symm, HB3, HX3, HP3, HA2⟩
            case measure => simp [intOf]; omega
        · obtain rfl : n = 0 := by omega
          obtain ⟨q1, q2, q3⟩ := HNew.out (Or.inl rfl)
          have HQ := vl (And.intro q1 (And.intro q2 q3))
          clear q1 q2 q3 HIn HNew hn0
          simp only [Nat.zero_mul, Nat.add_zero] at x0 x1
          go_wp2_with fail
          refine (len_spec t.up Ai ci t.R _ HMt.out HT.out).mono ?_
          rintro e w3 ⟨rfl, hb3⟩
          rw [HLT.out]
          have HB3 := vl (HB2.out.trans (hb3.mono HB2.out.size))
          have HX3 := vl (HX2.out.below hb3)
          have HP3 := vl (HP2.out.below hb3)
          clear hb3 x0 x1 HT y1
          go_wp2
          go_roundw
          case rel => exact ⟨0 + 1, by omega, by go_num, congrArg (Value.int .i64) HQ.out.2.2.symm, congrArg (Value.int .i64) HQ.out.2.1.symm, congrArg (Value.int .i64) HQ.out.1.symm, HB3, HX3, HP3, HA2⟩
          case measure => simp [intOf]; omega
    · obtain rfl : n = S.length := by omega
      have HAll := vl (allOk_of fun i t hi => (HA.out i t (len_of hi) hi).1)
      have HE := vl (show fitB k.le k.wi S = (difB (idz (boz S)) && decide (lengM (lines k.wi (S.take S.length)) + lineM (lines k.wi (S.take S.length)) ≤ k.le)) from by
        rw [List.take_length, ← tot_line]
        unfold fitB
        rw [trsB_of h8' HAll.out, narrow_of fun t ht => by
          obtain ⟨i, hi⟩ := List.getElem?_of_mem ht
          exact (HA.out i t (len_of hi) hi).2, Bool.true_and]
        rfl)
      have hT8 : ∀ u ∈ S, TIn u.R := fun u hu => by
        obtain ⟨i, hi⟩ := List.getElem?_of_mem hu
        exact tOk_iff.1 (HA.out i u (len_of hi) hi).1
      obtain ⟨_, ⟨l0, l1⟩, z0, z1⟩ := step_bd (W := k.wi) h8' hT8 S.length
      clear hT8 HA
      generalize lineM (lines k.wi (S.take S.length)) = ln at l0 l1 HE ⊢
      generalize lengM (lines k.wi (S.take S.length)) = lg at z0 z1 HE ⊢
      obtain ⟨y0, y1, y2, y3, y4, y5, y6, y7, y8, y9⟩ := HX.out
      clear y1 y2 y3 y4 y5 y6 y7 y8 y9
      by_cases hfit : lg + ln ≤ k.le
      · have HE2 := vl (show fitB k.le k.wi S = difB (idz (boz S)) by rw [HE.out, decide_eq_true hfit, Bool.and_true])
        clear HE
        go_wp2_with fail
        refine (differ_spec A c S _ HM.out HAll.out HPr.out).mono ?_
        rintro e w1 ⟨rfl, hb1⟩
        have HB1 := vl (HB.out.trans (hb1.mono HB.out.size))
        clear hb1
        go_wp2
        go_ret
        exact ⟨ret_bool HE2.out.symm, HB1.out⟩
      · have hov : k.le < lg + ln := by omega
        have HE2 := vl (show fitB k.le k.wi S = false by rw [HE.out, decide_eq_false hfit, Bool.and_false])
        clear HE hfit
        go_wp2
        go_ret
        exact ⟨ret_bool HE2.out.symm, HB.out⟩
theorem widV_train {w : World} {up : Bool} {A : Option Addr} {c : Nat} {T : List (List Bt)} (ht : TIn T) (hp : Trn w A T) : WidV w (.iface 26 (.agg #[.bool up, .slice A T.length c])) (widZ T) :=
  ⟨_, _, 76, rfl, fun _ => by kernel_rfl, fun _ _ => by simp [go_sem], fun w' hb => twid_impl up A c T w' ht (hp.below hb)⟩
theorem lenV_train {w : World} {up : Bool} {A : Option Addr} {c : Nat} {T : List (List Bt)} (ht : TIn T) (hp : Trn w A T) : LenV w (.iface 26 (.agg #[.bool up, .slice A T.length c])) (lenZ T) :=
  ⟨_, _, 75, rfl, fun _ => by kernel_rfl, fun _ _ => by simp [go_sem], fun w' hb => tlen_impl up A c T w' ht (hp.below hb)⟩
theorem vs_train {w : World} {S : List Tr} {xs : List Value} (hx : Tvs w S xs) (hi : ∀ t ∈ S, TIn t.R) : (∀ a ∈ vsOf S xs, WidV w a.v a.wd) ∧ (∀ a ∈ vsOf S xs, LenV w a.v a.l) ∧ (∀ a ∈ vsOf S xs, 0 ≤ a.wd ∧ a.wd ≤ 200) := by
  refine ⟨fun a ha => ?_, fun a ha => ?_, fun a ha => ?_⟩
  · obtain ⟨i, t, h1, h2, h3, h4⟩ := vsOf_mem ha
    obtain ⟨Ai, ci, e, hT⟩ := hx.2 i t h1
    rw [h2] at e
    injection e with e
    rw [e, h4]
    exact widV_train (hi t (mem_of h1)) hT.out
  · obtain ⟨i, t, h1, h2, h3, h4⟩ := vsOf_mem ha
    obtain ⟨Ai, ci, e, hT⟩ := hx.2 i t h1
    rw [h2] at e
    injection e with e
    rw [e, h3]
    exact lenV_train (hi t (mem_of h1)) hT.out
  · obtain ⟨i, t, h1, h2, h3, h4⟩ := vsOf_mem ha
    have := widZ_in (hi t (mem_of h1))
    omega
theorem vsr_train {w : World} {B : Nat} {t : TypeId} {A : Option Addr} {c : Nat} {S : List Tr} {xs : List Value} (hl : xs.length = S.length) (h : w.ownsRow B t 1 (.slice A S.length c) S.length xs) : VsR w A (vsOf S xs) := by
  have e : (vsOf S xs).map Vs.v = xs := by
    unfold vsOf
    rw [List.map_map]
    exact List.map_snd_zip (by omega)
  refine vsr_of_own (B := B) (t := t) (c := c) ?_
  rw [vsOf_len hl, e]
  exact h
theorem side_train (W : Int) (A : Option Addr) (c : Nat) (S : List Tr) (xs : List Value) (w : World) (hxs : xs.length = S.length) (h8 : S.length ≤ 8) (hV : (∀ a ∈ vsOf S xs, WidV w a.v a.wd) ∧ (∀ a ∈ vsOf S xs, LenV w a.v a.l) ∧ (∀ a ∈ vsOf S xs, 0 ≤ a.wd ∧ a.wd ≤ 200)) (hp : VsR w A (vsOf S xs)) :
    Calls Try.prog 85 #[.int .i64 W, .slice A S.length c] w fun e w' => (∃ v ys, e = .returned v ∧ VRows w' w.heap.size v (rowsV (sideG W Vs.wd (vsOf S xs))) ys) ∧ Below w.heap.size w w' := by
  have h := side_impl W A c (vsOf S xs) w (by rw [vsOf_len hxs]; exact h8) hV.2.2 hV.1 hp
  rwa [vsOf_len hxs] at h
set_option maxRecDepth 100000 in
set_option maxHeartbeats 4000000 in
theorem fits_impl (k : Lk) (A0 A : Option Addr) (n0 c0 c : Nat) (S : List Tr) (w : World) (hm : ModS S) (hp : Trs w A S) :
    Calls Try.prog 33 #[.agg #[.int .i64 k.le, .int .i64 k.wi, .int .i64 k.sa, .int .i64 k.sb, .int .i64 k.ba, .int .i64 k.ar, .int .i64 k.ra, .int .i64 k.wa, .int .i64 k.ga, .slice A0 n0 c0], .slice A S.length c] w fun e w' => e = .returned (.bool (fitB k.le k.wi S)) ∧ Below w.heap.size w w' := by
  have HB0 := vl ((Below.refl w.heap.size w).alloc (Nat.le_refl _) (.cells #[.int .i64 k.le, .int .i64 k.wi, .int .i64 k.sa, .int .i64 k.sb, .int .i64 k.ba, .int .i64 k.ar, .int .i64 k.ra, .int .i64 k.wa, .int .i64 k.ga, .slice A0 n0 c0] 45))
  have HP := vl (hp.below HB0.out)
  have HM := vl hm
  have hn := hm.len
  have HX0 := vl (KBox.new w k (.slice A0 n0 c0) 45)
  clear hp hm
  go_enter Try.func33, Try.ntmps33
  go_wp2_with fail
  refine (trains_impl A c S _ HM.out HP.out).mono ?_
  rintro e w1 ⟨rfl, hb1⟩
  have HB1 := vl (HB0.out.trans (hb1.mono HB0.out.size))
  have HX1 := vl (HX0.out.below hb1)
  have HP1 := vl (HP.out.below hb1)
  clear hb1
  cases hok : trsB S with
  | false =>
    have HE := vl (fit_bad (le := k.le) (wi := k.wi) hok)
    clear hok
    go_wp2
    go_ret
    exact ⟨ret_bool HE.out.symm, HB1.out⟩
  | true =>
    have h8 : S.length ≤ 8 := by
      rcases Nat.lt_or_ge 8 S.length with h | h
      · rw [trsB_len h] at hok; cases hok
      · exact h
    have hall : allOk S = true := by
      cases h : allOk S with
      | true => rfl
      | false => rw [trsB_bad h] at hok; cases hok
    have HI := vl (fun (t : Tr) (ht : t ∈ S) => tOk_iff.1 (allOk_at hall ht))
    have HK := vl hok
    clear hok hall
    obtain ⟨y0, y1, y2, y3, y4, y5, y6, y7, y8, y9⟩ := HX1.out
    clear y0 y2 y3 y4 y5 y6 y7 y8 y9
    have hxl := HX1.out.lt
    go_wp2
    go_region_held3 (fun w' => w'.cell? ⟨w.heap.size, 1, none⟩ = some (.int .i64 k.wi))
      (first | assumption | go_keep)
      (first
        | (go_at_call 85
           refine (side_train k.wi A2 c2 S xs _ hxs h8 HV2.out HR2.out).mono ?_
           rintro e w3 ⟨⟨v3, xs3, rfl, ho3⟩, hb3⟩
           obtain ⟨A3, c3, rfl, _⟩ := own_src ho3.own
           rw [rowsV_len] at ho3 ⊢
           have S3 := (hb3.cell (cell_lt' S2)).trans S2)
        | (go_at_call 97
           refine (vessels_t A c S _ (by omega) HP1.out.drew).mono ?_
           rintro e w2 ⟨⟨v2, xs, rfl, ho2, hx2⟩, hb2⟩
           obtain ⟨A2, c2, rfl, _⟩ := own_src ho2
           have hxs := hx2.1
           have HV2 := vl (vs_train hx2 HI.out)
           have HR2 := vl (vsr_train hxs ho2)
           have S2 := (hb2.cell (cell_lt' y1)).trans y1))
    have hb13 : Below w1.heap.size w1 w3 := (Below.refl w1.heap.size w1).drew.trans (hb2.trans (hb3.mono hb2.size))
    have HB3 := vl (HB1.out.trans (hb13.mono HB1.out.size))
    have HX3 := vl (HX1.out.below hb13)
    have HV3 := vl (And.intro (fun a ha => (HV2.out.1 a ha).later hb3) (fun a ha => (HV2.out.2.1 a ha).later hb3))
    have HBd := vl (HV2.out.2.2)
    have HL12 := vl (fun (a : Vs) (ha : a ∈ vsOf S xs) => by
      obtain ⟨i, t, h1, _, h3, _⟩ := vsOf_mem ha
      have := lenZ_in (HI.out t (mem_of h1))
      exact (show a.l ≤ 1200 by omega))
    have HO3 := vl ho3
    have hM8 : (sideG k.wi Vs.wd (vsOf S xs)).length ≤ 8 := Nat.le_trans sideG_len (by rw [vsOf_len hxs]; exact h8)
    have HRow := vl (fun r hr => by
      have h := sideG_row (W := k.wi) (wd := Vs.wd) (L := vsOf S xs) (r := r) hr
      exact (⟨Nat.le_trans h.1 (by rw [vsOf_len hxs]; exact h8), h.2⟩ : r.length ≤ 8 ∧ ∀ x ∈ r, x ∈ vsOf S xs))
    have HLine := vl (fun r hr h => fit_line (le := k.le) (wi := k.wi) hxs (r := r) hr h)
    have HEnd := vl (fun h => fit_end (le := k.le) (wi := k.wi) hxs HK.out (fun t ht => (widZ_in (HI.out t ht)).1) h)
    clear ho3 ho2 hb2 hb3 hb13 hx2 S2 S3 y1 HV2 HR2 HP1 HX1 HB1 HX0 HB0 HP
    generalize sideG k.wi Vs.wd (vsOf S xs) = M at HO3 hM8 HRow HLine HEnd ⊢
    go_wp2
    go_loopw [5, 17] (fun l i wr => ∃ n : Nat, n ≤ M.length ∧ i = .int .i64 n ∧ l = .int .i64 (fk (fun n r => n + topG r) 0 M n) ∧ Veil (Below w.heap.size w wr) ∧ Veil (Below w3.heap.size w3 wr) ∧ Veil (∀ (i : Nat) (r : List Vs), i < n → M[i]? = some r → sumG Vs.wd r ≤ k.wi)) (fun _ i _ => M.length - (intOf i).toNat)
    case atStart => exact ⟨0, by omega, rfl, by rw [fk_zero], HB3, vl (Below.refl _ _), vl fun i r h => by omega⟩
    case round =>
      obtain ⟨n, hk, rfl, rfl, HB, HC, HA⟩ := hrel
      have HX := vl (HX3.out.below HC.out)
      obtain ⟨y0, y1, y2, y3, y4, y5, y6, y7, y8, y9⟩ := HX.out
      clear y2 y3 y4 y5 y6 y7 y8 y9
      by_cases hlt : n < M.length
      · obtain ⟨r, hr⟩ := get_of hlt
        have hO := HO3.out.below HC.out
        obtain ⟨u, hu, hro⟩ := hO.row n (r.map Vs.v) (by unfold rowsV; rw [List.getElem?_map, hr]; rfl)
        rw [List.length_map] at hro
        obtain ⟨Ar, cr, rfl, _⟩ := own_src hro
        obtain ⟨g0, c0, rfl, e0⟩ : ∃ g0 c0', A3 = some ⟨g0, 0, none⟩ ∧ c0' = c3 := by
          rcases hO.own.2 with ⟨_, h0⟩ | ⟨g, cap, cur, e, _⟩
          · rw [rowsV_len] at h0; omega
          · injection e with e1; exact ⟨g, c3, e1, rfl⟩
        have x0 : wr.cell? ⟨g0, n, none⟩ = some (.slice Ar r.length cr) := by
          have h := hO.own
          rw [rowsV_len] at h
          rw [h.cellAt _ (by omega)]; exact hu
        obtain ⟨hr8, hrm⟩ := HRow.out r (mem_of hr)
        have HVr := vl (vsr_of_own hro)
        have HWr := vl (fun (a : Vs) (ha : a ∈ r) => (HV3.out.1 a (hrm a ha)).later HC.out)
        have HLr := vl (fun (a : Vs) (ha : a ∈ r) => (HV3.out.2 a (hrm a ha)).later HC.out)
        have HBr := vl (fun (a : Vs) (ha : a ∈ r) => HBd.out a (hrm a ha))
        have HS := vl (fk_succ (f := fun (n : Int) (r : List Vs) => n + topG r) (a := (0 : Int)) hr)
        have HTr : ∀ k, 0 ≤ fk (fun n (a : Vs) => max n a.l) 0 r k ∧ fk (fun n (a : Vs) => max n a.l) 0 r k ≤ 1200 := fun k => fk_max (g := Vs.l) (by omega) (fun a ha => HL12.out a (hrm a ha)) k
        have ht := HTr r.length
        rw [fk_end] at ht
        obtain ⟨t0, t1⟩ : 0 ≤ topG r ∧ topG r ≤ 1200 := ht
        have hsum := fk_sum (g := topG) (L := M) (s := 1200) (by omega) (fun x hx => by
          have h := fk_max (g := Vs.l) (L := x) (s := 1200) (by omega) (fun a ha => HL12.out a ((HRow.out x hx).2 a ha)) x.length
          rw [fk_end] at h
          exact h.1) (fun x hx => by
          have h := fk_max (g := Vs.l) (L := x) (s := 1200) (by omega) (fun a ha => HL12.out a ((HRow.out x hx).2 a ha)) x.length
          rw [fk_end] at h
          exact h.2) n
        obtain ⟨q0, q1⟩ := hsum
        have HK2 := vl hr
        clear hO hu hro hrm hr HTr e0 y0
        generalize fk (fun n r => n + topG r) 0 M n = l at HS q0 q1 ⊢
        have q2 : l ≤ 20000 := by omega
        clear q1
        go_wp2
        go_region_held3 (fun w' => w'.cell? ⟨w.heap.size, 1, none⟩ = some (.int .i64 k.wi))
          (first | assumption | go_keep)
          (first
            | (go_at_call 98
               refine (sumV Ar cr r _ hr8 HBr.out (fun a ha => (HWr.out a ha).later (Below.refl wr.heap.size wr).drew) (HVr.out.below (Below.refl wr.heap.size wr).drew)).mono ?_
               rintro e w5 ⟨rfl, hb5⟩
               have S5 := (hb5.cell (cell_lt' y1)).trans y1))
        have hb5' : Below wr.heap.size wr w5 := (Below.refl wr.heap.size wr).drew.trans hb5
        have HB5 := vl (HB.out.trans (hb5'.mono HB.out.size))
        have HC5 := vl (HC.out.trans (hb5'.mono HC.out.size))
        have HV5 := vl (HVr.out.below hb5')
        have HL5 := vl (fun a ha => (HLr.out a ha).later hb5')
        clear hb5 hb5' S5 x0 y1
        by_cases hwide : k.wi < sumG Vs.wd r
        · have HE := vl (HLine.out r (mem_of HK2.out) hwide)
          go_wp2
          go_ret
          exact ⟨ret_bool HE.out.symm, HB5.out⟩
        · have hnar : sumG Vs.wd r ≤ k.wi := by omega
          have HA2 := vl (show ∀ (i : Nat) (s : List Vs), i < n + 1 → M[i]? = some s → sumG Vs.wd s ≤ k.wi from fun i s hi hs => by
            by_cases e : i = n
            · subst e
              rw [HK2.out] at hs
              injection hs with hs
              subst hs
              exact hnar
            · exact HA.out i s (by omega) hs)
          clear hwide
          go_wp2_with fail
          refine (greatV Ar cr r _ hr8 HL5.out HV5.out).mono ?_
          rintro e w6 ⟨rfl, hb6⟩
          have HB6 := vl (HB5.out.trans (hb6.mono HB5.out.size))
          have HC6 := vl (HC5.out.trans (hb6.mono HC5.out.size))
          clear hb6
          go_wp2
          go_roundw
          case rel => exact ⟨n + 1, by omega, by go_num, congrArg (Value.int .i64) (by rw [HS.out]), HB6, HC6, HA2⟩
          case measure => simp [intOf]; omega
      · obtain rfl : n = M.length := by omega
        have HE := vl (HEnd.out (fun r hr => by
          obtain ⟨i, hi⟩ := List.getElem?_of_mem hr
          exact HA.out i r (len_of hi) hi))
        rw [fk_end]
        generalize M.foldl (fun n r => n + topG r) 0 = tot at HE ⊢
        go_wp2
        go_ret
        exact ⟨ret_bool HE.out.symm, HB.out⟩
end Go.Proofs.Ytneapghhnjheaaa.C1
