/-
  For every input the Go function 'laws.FnPauses' returns true, and each argument reads afterwards as it read before. No further condition.
-/
import Derived.Test.YtaacgajpjkfplaaDPau
import Derived.Test.YtaacgajpjkfplaaLift
import Derived.Test.YtaacgajpjkfplaaOpen
import Derived.ChangeMaps5
namespace Go.Proofs.Ytaacgajpjkfplaa.fnPauses
open Go.Proofs.Ytaacgajpjkfplaa.C1 Go.Proofs.Ytaacgajpjkfplaa.Lift Go.Proofs.Ytaacgajpjkfplaa.Opened
open Go.ChangeShapes Go.WideShapes Go.ChangeAt Go.RowKit Go.ChangeMaps
set_option linter.unusedVariables false

set_option maxRecDepth 100000 in
set_option maxHeartbeats 4000000 in
theorem walk (A : Option Addr) (n cap : Nat) (f : Nat → Int) (w : World) (hn : n ≤ 9223372036854775807) (hs : SrcB w A n f) :
    Calls Try.prog 4 #[.slice A n cap] w fun e w' => e = .returned (.bool true) ∧ Below w.heap.size w w' := by
  by_cases hbig : 1048576 < n
  · go_enter Try.func4, Try.ntmps4
    go_wp2_with (go_at_call 14; refine (big_yes _ _ _ _ hbig).mono ?_; rintro e w' ⟨rfl, rfl⟩)
    go_ret
    exact ⟨rfl, Below.refl _ _⟩
  have hl : n ≤ 1048576 := by omega
  have HS := Lib.hid hs
  clear hs hbig
  go_enter Try.func4, Try.ntmps4
  go_wp2_with fail
  refine (big_no _ _ _ _ hl).mono ?_
  rintro e w' ⟨rfl, rfl⟩
  go_wp2_with fail
  refine (pauses_draw _ _ _ f _ hl HS.out).mono ?_
  rintro e w1 ⟨B, m, c, F, U, rfl, hm3, hmc, hp, hps, hb1⟩
  have HP := Lib.hid hp
  have HT := Lib.hid hps
  have HB1 := Lib.hid hb1
  have HK := Lib.hid (show psOk m F U = true by rw [ps_to hps]; exact decide_eq_true (by omega))
  clear hp hps hb1
  go_wp2
  go_loopw [4] (fun s wr => ∃ k : Nat, k ≤ 120 ∧ s = .int .i64 (k : Int) ∧ Hid (Below w1.heap.size w1 wr)) (fun s _ => 120 - (intOf s).toNat)
  case atStart => exact ⟨0, by omega, rfl, Lib.hid (Below.refl _ _)⟩
  case round =>
    obtain ⟨k, hk, rfl, HB⟩ := hrel
    by_cases hlt : k < 120
    · obtain ⟨m1, m2, m3, m4⟩ := moved_in HT.out (t := (k : Int)) (by omega) m (Nat.le_refl _)
      have HN := Lib.hid (nextO_in HK.out (t := (k : Int)) (inB_yes (by omega) (by omega)))
      go_wp2_with fail
      refine (nexto_impl B m c F U (k : Int) _ (by omega) hmc (HP.out.below HB.out)).mono ?_
      rintro e w2 ⟨rfl, hb2⟩
      rw [HN.out]
      have HX := Lib.hid m3
      have HO := Lib.hid (show isOp m F U (moved F U (k : Int) m) = true by rw [isOp_in HK.out (inB_yes (by omega) (by omega)), anyL_no.2 m4]; rfl)
      have HE := Lib.hid (show isOp m F U (k : Int) = decide (moved F U (k : Int) m = k) by
        rw [isOp_in HK.out (inB_yes (by omega) (by omega))]
        by_cases he : moved F U (k : Int) m = k
        · rw [decide_eq_true he]
          rw [he] at m4
          rw [anyL_no.2 m4]; rfl
        · obtain ⟨i, hi, hh⟩ := m3 (k : Int) (Int.le_refl _) (by omega)
          rw [decide_eq_false he, anyL_yes hi hh]; rfl)
      have HC := Lib.hid (fun (x : Int) (h1 : (k : Int) ≤ x) (h2 : x < moved F U (k : Int) m) => (show isOp m F U x = false by
        obtain ⟨i, hi, hh⟩ := m3 x h1 h2
        rw [isOp_in HK.out (inB_yes (by omega) (by omega)), anyL_yes hi hh]; rfl))
      have HB2 := Lib.hid (HB.out.trans (hb2.mono HB.out.size))
      clear hb2 m3 m4 HN
      generalize moved F U (k : Int) m = z at *
      obtain ⟨d, rfl⟩ : ∃ d : Nat, z = (k : Int) + d := ⟨(z - k).toNat, by omega⟩
      go_wp2_with fail
      refine (isop_impl B m c F U _ _ (by omega) (HP.out.below HB2.out)).mono ?_
      rintro e w3 ⟨rfl, hb3⟩
      rw [HO.out]
      have HB3 := Lib.hid (HB2.out.trans (hb3.mono HB2.out.size))
      clear hb3
      go_wp2_with fail
      refine (isop_impl B m c F U _ _ (by omega) (HP.out.below HB3.out)).mono ?_
      rintro e w4 ⟨rfl, hb4⟩
      rw [HE.out]
      have HB4 := Lib.hid (HB3.out.trans (hb4.mono HB3.out.size))
      clear hb4
      by_cases hd : d = 0
      · subst hd
        have e1 : (k : Int) + ((0 : Nat) : Int) = k := by omega
        rw [e1]
        rw [e1] at HC
        rw [decide_eq_true rfl]
        go_wp2
        go_loopw [6] (fun s wr2 => ∃ i : Nat, i ≤ 0 ∧ s = .int .i64 ((k : Int) + (i : Int)) ∧ Hid (Below w1.heap.size w1 wr2)) (fun s _ => 0 + k - (intOf s).toNat)
        case atStart => exact ⟨0, by omega, by simp, HB4⟩
        case round =>
          obtain ⟨i, hi, rfl, HB5⟩ := hrel
          obtain rfl : i = 0 := by omega
          have e3 : (k : Int) + ((0 : Nat) : Int) = k := by omega
          rw [e3]
          go_wp2
          go_roundw
          case rel => exact ⟨k + 1, by omega, by go_num, HB5⟩
          case measure => simp [intOf]; omega
      · have e2 : ((k : Int) + (d : Int) == (k : Int)) = false := by simp; omega
        rw [decide_eq_false (show ¬ ((k : Int) + (d : Int) = k) by omega)]
        go_wp2
        go_loopw [6] (fun s wr2 => ∃ i : Nat, i ≤ d ∧ s = .int .i64 ((k : Int) + (i : Int)) ∧ Hid (Below w1.heap.size w1 wr2)) (fun s _ => d + k - (intOf s).toNat)
        case atStart => exact ⟨0, by omega, by simp, HB4⟩
        case round =>
          obtain ⟨i, hi, rfl, HB5⟩ := hrel
          by_cases hid : i < d
          · have HF := Lib.hid (HC.out ((k : Int) + (i : Int)) (by omega) (by omega))
            go_wp2_with fail
            refine (isop_impl B m c F U _ _ (by omega) (HP.out.below HB5.out)).mono ?_
            rintro e w6 ⟨rfl, hb6⟩
            rw [HF.out]
            have HB6 := Lib.hid (HB5.out.trans (hb6.mono HB5.out.size))
            clear hb6
            go_wp2
            go_roundw
            case rel => exact ⟨i + 1, by omega, by go_num, HB6⟩
            case measure => simp [intOf]; omega
          · obtain rfl : i = d := by omega
            go_wp2
            go_roundw
            case rel => exact ⟨k + 1, by omega, by go_num, HB5⟩
            case measure => simp [intOf]; omega
    · obtain rfl : k = 120 := by omega
      go_wp2_with fail
      refine (ps_impl B m c F U _ (by omega) (HP.out.below HB.out)).mono ?_
      rintro e w2 ⟨rfl, hb2⟩
      rw [HK.out]
      have HB2 := Lib.hid (HB.out.trans (hb2.mono HB.out.size))
      clear hb2
      go_wp2
      go_ret
      exact ⟨rfl, HB1.out.trans (HB2.out.mono HB1.out.size)⟩

theorem parOk : Try.f4.params.toList.all (fun t => Try.prog.readableRec t && decide (t < Try.prog.types.size)) = true := by kernel_rfl
set_option maxRecDepth 100000 in
theorem lifted (os : Os) (started : os.Started) (H : Type) (enc : TypeId × Value → H) :
    ReturnsInHanded {} Try.checked os 4 .any (Rows.fnPausesSpec.pre6 enc Try.prog Try.f4 Rows.fnPausesRow.domain false) (Rows.fnPausesSpec.post enc Try.prog Try.f4 false true false false) := by
  refine law_lifted (C := Try.checked) own started (by kernel_rfl) Try.func4 laid (fun t ht => by
      have h := List.all_eq_true.1 parOk t ht
      rw [Bool.and_eq_true] at h
      exact ⟨h.1, of_decide_eq_true h.2⟩) rfl Try.underlying4 rfl
    (fun xs hx => by
      rw [show Try.f4.params.toList.length = 1 from by rw [Try.params4]; rfl] at hx
      match xs, hx with
      | [d0], _ => rfl)
    (ChangeSpec.witness6 (enc := enc) (C := Try.checked) false ⟨#[], #[.slice none 0 0], []⟩ 8 (by kernel_rfl) (by kernel_rfl) (by kernel_rfl) (by kernel_rfl)) ?_
  intro W base args ds p hval0 hA0 _
  have hval : ∀ (j : Nat) t v, Try.f4.params[j]? = some t → args[j]? = some v → Value.okWide Try.prog W .any base t v := hval0
  have hA : DataW.TrodAll enc Try.prog W 0 (fun _ => true) true Try.f4.params.toList args.toList ds p := hA0
  clear hA0 hval0
  rw [Try.params4] at hA hval
  obtain ⟨v0, vs0, d0, ds0, p0, q0, hargs, rfl, rfl, h0, r0⟩ := trodAll_cons hA
  obtain ⟨rfl, rfl, rfl⟩ := trodAll_nil r0
  obtain rfl : args = #[v0] := by cases args; simp_all
  obtain ⟨A0, n0, c0, f0, rfl, x0, y0⟩ := slice_bytes Try.underlying22 (by kernel_rfl) Try.underlying5 (hval 0 22 _ rfl rfl) h0
  exact walk A0 n0 c0 f0 W x0 y0

/-- The statement. -/
theorem proved : Rows.FnPausesSaid :=
  OpenClaim.holds_of_wide 4 Try.f4 rfl rfl rfl rfl rfl rfl rfl ⟨rfl, rfl, rfl, rfl, rfl⟩ rfl rfl rfl rfl rfl (by kernel_rfl) Try.func4 (by kernel_rfl)
    (of_decide_eq_true (by kernel_rfl)) (by unfold Func.isWrapper; first | (rw [if_pos (by decide +kernel)]; kernel_rfl) | (rw [if_neg (by decide +kernel)]; exact ⟨rfl, rfl⟩))
    (fun os started H enc _ => lifted os started H enc)
#print axioms proved
end Go.Proofs.Ytaacgajpjkfplaa.fnPauses
