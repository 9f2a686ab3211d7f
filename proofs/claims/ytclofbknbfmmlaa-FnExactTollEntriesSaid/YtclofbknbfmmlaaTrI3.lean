/- Whether a train is valid: of the program. -/
import Derived.Test.YtclofbknbfmmlaaTrI2
namespace Go.Proofs.Ytclofbknbfmmlaa.C1
open Go.ChangeShapes Go.WideShapes Go.ChangeAt Go.RowKit
set_option linter.unusedVariables false

theorem invalid_b (b : Bt) (w : World) : Calls Try.prog 81 #[.agg #[.int .i64 b.i, .int .i64 b.l, .int .i64 b.w, .int .i64 b.d, .int .i64 b.s, .int .i64 b.c]] w fun e w' => e = .returned (.bool (!bOk b)) ∧ Below w.heap.size w w' := by
  have HB0 := vl ((Below.refl w.heap.size w).alloc (Nat.le_refl _) (.cells #[.int .i64 b.i, .int .i64 b.l, .int .i64 b.w, .int .i64 b.d, .int .i64 b.s, .int .i64 b.c] 90))
  go_enter Try.func81, Try.ntmps81
  go_wp2_with fail
  refine (bok_impl b _).mono ?_
  rintro e w1 ⟨rfl, hb1⟩
  have HB1 := vl (HB0.out.trans (hb1.mono HB0.out.size))
  clear hb1
  go_wp2
  all_goals
    go_ret
    exact ⟨rfl, HB1.out⟩
/-- Whether a function of boats that only reads says p. -/
def Says (f : Value) (p : Bt → Bool) : Prop := True
set_option maxHeartbeats 1000000 in
theorem indexb_all (A : Option Addr) (c : Nat) (L : List Bt) (w : World) (hn : L.length ≤ 1048576) (hp : Bts w A L) (h : L.all bOk = true) :
    Calls Try.prog 100 #[.slice A L.length c, .func (Fn.func 81) #[] #[]] w fun e w' => e = .returned (.int .i64 (-1)) ∧ Below w.heap.size w w' := by
  have HP := vl hp
  have HO := vl h
  clear hp h
  go_enter Try.func100, Try.ntmps100
  go_wp2
  go_loopw [8] (fun i wr => ∃ k : Nat, k ≤ L.length ∧ i = .int .i64 k ∧ Veil (Below w.heap.size w wr)) (fun i _ => L.length - (intOf i).toNat)
  case atStart => exact ⟨0, by omega, rfl, vl (Below.refl _ _)⟩
  case round =>
    obtain ⟨k, hk, rfl, HB⟩ := hrel
    by_cases hlt : k < L.length
    · obtain ⟨b, hb⟩ := get_of hlt
      obtain ⟨g, o, rfl, hc⟩ := (HP.out.below HB.out) (by omega)
      obtain ⟨x0, x1, x2, x3, x4, x5⟩ := hc k b hb
      have HK := vl (List.all_eq_true.1 HO.out b (mem_of hb))
      clear hc hb
      go_wp2_with fail
      refine (invalid_b b _).mono ?_
      rintro e w1 ⟨rfl, hb1⟩
      rw [HK.out]
      have HB1 := vl (HB.out.trans (hb1.mono HB.out.size))
      clear hb1
      go_wp2
      go_roundw
      case rel => exact ⟨k + 1, by omega, by go_num, HB1⟩
      case measure => simp [intOf]; omega
    · go_wp2
      go_ret
      exact ⟨rfl, HB.out⟩
theorem all_no {L : List Bt} (h : L.all bOk = false) : ∃ (i : Nat) (b : Bt), L[i]? = some b ∧ bOk b = false := by
  rw [List.all_eq_false] at h
  obtain ⟨b, hm, hb⟩ := h
  obtain ⟨i, hi⟩ := List.getElem?_of_mem hm
  exact ⟨i, b, hi, by simpa using hb⟩
set_option maxHeartbeats 1000000 in
theorem indexb_some (A : Option Addr) (c : Nat) (L : List Bt) (w : World) (hn : L.length ≤ 1048576) (hp : Bts w A L) (h : L.all bOk = false) :
    Calls Try.prog 100 #[.slice A L.length c, .func (Fn.func 81) #[] #[]] w fun e w' => (∃ k : Nat, k < L.length ∧ e = .returned (.int .i64 (k : Int))) ∧ Below w.heap.size w w' := by
  obtain ⟨j, bj, hj, hbj⟩ := all_no h
  have hjl := len_of hj
  have HP := vl hp
  have HJ := vl (And.intro hj hbj)
  clear hp h hj hbj
  go_enter Try.func100, Try.ntmps100
  go_wp2
  go_loopw [8] (fun i wr => ∃ k : Nat, k ≤ j ∧ i = .int .i64 k ∧ Veil (Below w.heap.size w wr)) (fun i _ => L.length - (intOf i).toNat)
  case atStart => exact ⟨0, by omega, rfl, vl (Below.refl _ _)⟩
  case round =>
    obtain ⟨k, hk, rfl, HB⟩ := hrel
    have hlt : k < L.length := by omega
    obtain ⟨b, hb⟩ := get_of hlt
    obtain ⟨g, o, rfl, hc⟩ := (HP.out.below HB.out) (by omega)
    obtain ⟨x0, x1, x2, x3, x4, x5⟩ := hc k b hb
    have HK := vl hb
    clear hc hb
    go_wp2_with fail
    refine (invalid_b b _).mono ?_
    rintro e w1 ⟨rfl, hb1⟩
    have HB1 := vl (HB.out.trans (hb1.mono HB.out.size))
    clear hb1 x0 x1 x2 x3 x4 x5
    cases hok : bOk b with
    | true =>
      have hkj : k + 1 ≤ j := by
        rcases Nat.lt_or_ge k j with h | h
        · exact h
        · obtain rfl : k = j := by omega
          have := HJ.out.1
          rw [HK.out] at this
          injection this with this
          rw [this, HJ.out.2] at hok; cases hok
      clear hok
      go_wp2
      go_roundw
      case rel => exact ⟨k + 1, hkj, by go_num, HB1⟩
      case measure => simp [intOf]; omega
    | false =>
      clear hok
      go_wp2
      go_ret
      exact ⟨⟨k, hlt, rfl⟩, HB1.out⟩
theorem anybad (A : Option Addr) (c : Nat) (L : List Bt) (w : World) (hn : L.length ≤ 1048576) (hp : Bts w A L) :
    Calls Try.prog 83 #[.slice A L.length c, .func (Fn.func 81) #[] #[]] w fun e w' => e = .returned (.bool (!L.all bOk)) ∧ Below w.heap.size w w' := by
  have HP := vl hp
  clear hp
  cases h : L.all bOk with
  | true =>
    have HO := vl h
    clear h
    go_enter Try.func83, Try.ntmps83
    go_wp2_with fail
    refine (indexb_all _ _ L _ hn HP.out HO.out).mono ?_
    rintro e w1 ⟨rfl, hb1⟩
    have HB1 := vl hb1
    clear hb1
    go_wp2
    go_ret
    exact ⟨rfl, HB1.out⟩
  | false =>
    have HO := vl h
    clear h
    go_enter Try.func83, Try.ntmps83
    go_wp2_with fail
    refine (indexb_some _ _ L _ hn HP.out HO.out).mono ?_
    rintro e w1 ⟨⟨k, hk, rfl⟩, hb1⟩
    have HB1 := vl hb1
    have k0 : (0 : Int) ≤ (k : Int) := by omega
    clear hb1
    go_wp2
    go_ret
    exact ⟨rfl, HB1.out⟩
theorem differ_ids (A : Option Addr) (c : Nat) (L : List Bt) (w : World) (hn : L.length ≤ 1048576) (hc : L.length ≤ c) {g : Nat} (hr : RowI w A L.length g (idf L)) :
    Calls Try.prog 84 #[.slice A L.length c] w fun e w' => e = .returned (.bool (difB (idz L))) ∧ w = w' := by
  have := differ_impl A c (idz L) w (by rw [idz_len]; exact hn) (by rw [idz_len]; exact hc) (by rw [idz_len]; exact fun h => ⟨g, hr.1 h, fun i hi => hr.2 i hi⟩)
  rwa [idz_len] at this
set_option maxRecDepth 100000 in
set_option maxHeartbeats 2000000 in
theorem tok_impl (up : Bool) (A : Option Addr) (c : Nat) (T : List (List Bt)) (w : World) (hm : Mod T) (hp : Trn w A T) :
    Calls Try.prog 53 #[.agg #[.bool up, .slice A T.length c]] w fun e w' => e = .returned (.bool (tOk T)) ∧ Below w.heap.size w w' := by
  have HM := vl hm
  have hn := hm.rows
  have ha := hm.all
  have HB0 := vl ((Below.refl w.heap.size w).alloc (Nat.le_refl _) (.cells #[.bool up, .slice A T.length c] 38))
  have HP := vl (hp.alloc (.cells #[.bool up, .slice A T.length c] 38))
  clear hp hm
  cases hf : (full T && inB ((bts T).length : Int) 1 6) with
  | false =>
    have HF := vl hf
    have HE := vl (show tOk T = false by unfold tOk; rw [← Bool.and_assoc, hf, Bool.false_and])
    clear hf
    go_enter Try.func53, Try.ntmps53
    go_wp2_with fail
    refine (rows_impl A c T _ HM.out HP.out).mono ?_
    rintro e w' ⟨rfl, rfl⟩
    rw [HF.out]
    go_wp2
    go_ret
    exact ⟨ret_bool HE.out.symm, HB0.out⟩
  | true =>
    have HF := vl hf
    have HE := vl (show tOk T = ((bts T).all bOk && difB (idz (bts T))) by unfold tOk; rw [← Bool.and_assoc, hf, Bool.true_and])
    clear hf
    go_enter Try.func53, Try.ntmps53
    go_wp2_with fail
    refine (rows_impl A c T _ HM.out HP.out).mono ?_
    rintro e w' ⟨rfl, rfl⟩
    rw [HF.out]
    go_wp2_with fail
    have HB1 := vl (HB0.out.alloc HB0.out.size (.cells #[.iface 38 (.agg #[.bool up, .slice A T.length c])] 106))
    refine (boats_t up A c _ T _ HM.out (HP.out.alloc _) (by simp)).mono ?_
    rintro e w2 ⟨⟨v, rfl, ho2⟩, hb2⟩
    have HB2 := vl (HB1.out.trans (hb2.mono (by simp; omega)))
    obtain ⟨A2, c2, g2, rfl, hc2, hr2, _⟩ := rowB_of_own ho2 hb2.size
    have HR2 := vl hr2.bts
    clear ho2 hb2 hr2 hc2
    go_wp2_with fail
    refine (anybad A2 c2 (bts T) _ ha HR2.out).mono ?_
    rintro e w3 ⟨rfl, hb3⟩
    have HB3 := vl (HB2.out.trans (hb3.mono HB2.out.size))
    have HR3 := vl (HR2.out.below hb3)
    clear hb3 HR2
    cases hall : (bts T).all bOk with
    | false =>
      have HE2 := vl (show tOk T = false by rw [HE.out, hall, Bool.false_and])
      clear hall
      go_wp2
      go_ret
      exact ⟨ret_bool HE2.out.symm, HB3.out⟩
    | true =>
      have HE2 := vl (show tOk T = difB (idz (bts T)) by rw [HE.out, hall, Bool.true_and])
      clear hall
      go_wp2_with fail
      refine (ids_impl A2 c2 (bts T) _ ha HR3.out).mono ?_
      rintro e w4 ⟨⟨v, rfl, ho4⟩, hb4⟩
      have HB4 := vl (HB3.out.trans (hb4.mono HB3.out.size))
      obtain ⟨A4, c4, g4, rfl, hc4, hr4, _⟩ := rowI_of_own ho4 hb4.size
      have HR4 := vl hr4
      clear ho4 hb4 hr4
      go_wp2_with fail
      refine (differ_ids A4 c4 (bts T) _ ha hc4 HR4.out).mono ?_
      rintro e w' ⟨rfl, rfl⟩
      go_wp2
      go_ret
      exact ⟨ret_bool HE2.out.symm, HB4.out⟩
end Go.Proofs.Ytclofbknbfmmlaa.C1
