/- When a lock is open next: of the program and of its model. -/
import Derived.Test.YtaacgajpjkfplaaPaI
import Derived.WalkMore
import Derived.ScopeJumps
namespace Go.Proofs.Ytaacgajpjkfplaa.C1
open Go.ChangeShapes Go.WideShapes Go.ChangeAt Go.RowKit
set_option linter.unusedVariables false

theorem u_pos {F U : Nat → Int} {n k : Nat} (h : psTo F U n = true) (hk : k < n) : 0 ≤ F k ∧ F k < U k ∧ U k ≤ 1000000 := by
  obtain ⟨u0, u1, u2⟩ := psAt_iff.1 (psTo_iff.1 h k hk)
  have u3 : 0 ≤ lastU U k := by
    unfold lastU
    split
    · exact Int.le_refl _
    · have h0 := psAt_iff.1 (psTo_iff.1 h 0 (by omega))
      have e0 : lastU U 0 = 0 := rfl
      have := (ends_mono h (i := 0) (j := k - 1) (by omega) (by omega)).1
      omega
  omega
set_option maxHeartbeats 2000000 in
theorem nexto_spec (A : Option Addr) (n c : Nat) (F U : Nat → Int) (t : Int) (w : World) (hn : n ≤ 1048576) (hp : Pts w A n F U) :
    Calls Try.prog 42 #[.slice A n c, .int .i64 t] w fun e w' => e = .returned (.int .i64 (nextO n F U t)) ∧ Below w.heap.size w w' := by
  have HP := Lib.hid hp
  clear hp
  cases hk : psOk n F U with
  | false =>
    have HI := Lib.hid (nextO_bad (t := t) hk)
    have HK := Lib.hid hk
    clear hk
    go_enter Try.func42, Try.ntmps42
    go_wp2_with fail
    refine (ps_spec _ _ _ F U _ hn HP.out).mono ?_
    rintro e w1 ⟨rfl, hb1⟩
    rw [HK.out]
    have HB1 := Lib.hid hb1
    clear hb1
    go_wp2
    go_ret
    exact ⟨ret_int HI.out.symm, HB1.out⟩
  | true =>
    have HK := Lib.hid hk
    cases ht : inB t 0 1000000 with
    | false =>
      have HI := Lib.hid (nextO_out (n := n) (F := F) (U := U) ht)
      clear hk
      go_enter Try.func42, Try.ntmps42
      go_wp2_with fail
      refine (ps_spec _ _ _ F U _ hn HP.out).mono ?_
      rintro e w1 ⟨rfl, hb1⟩
      rw [HK.out]
      have HB1 := Lib.hid hb1
      clear hb1
      go_wp2_with (go_at_call 49; refine (in_spec _ _ _ _).mono ?_; rintro e w' ⟨rfl, rfl⟩)
      go_ret
      exact ⟨ret_int HI.out.symm, HB1.out⟩
    | true =>
      have HI := Lib.hid (nextO_in hk ht)
      have HTO := Lib.hid (ps_parts hk).2
      clear hk
      go_enter Try.func42, Try.ntmps42
      go_wp2_with fail
      refine (ps_spec _ _ _ F U _ hn HP.out).mono ?_
      rintro e w1 ⟨rfl, hb1⟩
      rw [HK.out]
      have HB1 := Lib.hid hb1
      have HP1 := Lib.hid (HP.out.below hb1)
      clear hb1
      go_wp2_with (go_at_call 49; refine (in_spec _ _ _ _).mono ?_; rintro e w' ⟨rfl, rfl⟩)
      go_loopw [1, 5] (fun s i wr => ∃ k : Nat, k ≤ n ∧ i = .int .i64 k ∧ s = .int .i64 (moved F U t k) ∧ Hid (Below w1.heap.size w1 wr)) (fun _ i _ => n - (intOf i).toNat)
      case atStart => exact ⟨0, by omega, rfl, rfl, Lib.hid (Below.refl _ _)⟩
      case round =>
        obtain ⟨k, hkn, rfl, rfl, HB⟩ := hrel
        by_cases hlt : k < n
        · obtain ⟨g, o, rfl, hsrc⟩ := HP1.out.below HB.out (by omega)
          obtain ⟨hx, hy⟩ := hsrc k hlt
          obtain ⟨u0, u1, u2⟩ := u_pos HTO.out hlt
          have u4 : 0 < U k := by omega
          have HM := Lib.hid (moved_succ F U t k)
          have HL := Lib.hid (lasts_in F U (moved F U t k) k)
          generalize moved F U t k = m at *
          clear hsrc u0 u1
          cases hb : inB m (F k) (U k - 1) with
          | false =>
            have HA1 := Lib.hid (HM.out.trans (by rw [HL.out, hb, if_neg (by decide)]))
            clear HM
            go_wp2
            go_quiet ((go_at_call 49; exact quiet_l (in_at hb _)))
            go_wp2
            go_roundw
            case rel => exact ⟨k + 1, by omega, by go_num, by rw [HA1.out], Lib.hid (HB.out.drewN' _)⟩
            case measure => simp [intOf]; omega
          | true =>
            have HA1 := Lib.hid (HM.out.trans (by rw [HL.out, hb, if_pos rfl]))
            clear HM
            go_wp2
            go_quiet ((go_at_call 49; exact quiet_l (in_at hb _)))
            go_wp2
            go_roundw
            case rel => exact ⟨k + 1, by omega, by go_num, by rw [HA1.out], Lib.hid (HB.out.drewN' _)⟩
            case measure => simp [intOf]; omega
        · obtain rfl : k = n := by omega
          go_wp2
          go_ret
          exact ⟨ret_int HI.out.symm, HB1.out.trans (HB.out.mono HB1.out.size)⟩
def lenOf : Value → Nat | .slice _ n _ => n | _ => 0
theorem pts_next {w : World} {g o k d : Nat} {X Y : Nat → Int} (h : ∀ i, i < d + 1 → w.cell? ⟨g, o + i * 2, none⟩ = some (.int .i64 (X (k + i))) ∧ w.cell? ⟨g, o + i * 2 + 1, none⟩ = some (.int .i64 (Y (k + i)))) (A : Option Addr) (hA : 0 < d → A = some ⟨g, o + 2, none⟩) :
    Pts w A d (fun i => X (k + 1 + i)) (fun i => Y (k + 1 + i)) := fun hd => ⟨g, o + 2, hA hd, fun i hi => by
      have := h (1 + i) (by omega)
      rw [show o + (1 + i) * 2 = o + 2 + i * 2 by omega, show k + (1 + i) = k + 1 + i by omega] at this
      exact this⟩
set_option maxRecDepth 100000 in
set_option maxHeartbeats 2000000 in
theorem nexto_impl (A : Option Addr) (n c : Nat) (F U : Nat → Int) (t : Int) (w : World) (hn : n ≤ 1048576) (hc : n ≤ c) (hp : Pts w A n F U) :
    Calls Try.prog 22 #[.slice A n c, .int .i64 t] w fun e w' => e = .returned (.int .i64 (nextO n F U t)) ∧ Below w.heap.size w w' := by
  have HP := Lib.hid hp
  clear hp
  cases hk : psOk n F U with
  | false =>
    have HI := Lib.hid (nextO_bad (t := t) hk)
    have HK := Lib.hid hk
    clear hk
    go_enter Try.func22, Try.ntmps22
    go_wp2
    go_step3
    go_wp2_with fail
    refine (ps_impl _ _ _ F U _ hn HP.out).mono ?_
    rintro e w1 ⟨rfl, hb1⟩
    rw [HK.out]
    have HB1 := Lib.hid hb1
    clear hb1
    go_wp2
    rw [Exit.noGoto_ret]
    go_ret
    exact ⟨ret_int HI.out.symm, HB1.out⟩
  | true =>
    have HK := Lib.hid hk
    cases ht : inB t 0 1000000 with
    | false =>
      have HI := Lib.hid (nextO_out (n := n) (F := F) (U := U) ht)
      clear hk
      go_enter Try.func22, Try.ntmps22
      go_wp2
      go_step3
      go_wp2_with fail
      refine (ps_impl _ _ _ F U _ hn HP.out).mono ?_
      rintro e w1 ⟨rfl, hb1⟩
      rw [HK.out]
      have HB1 := Lib.hid hb1
      clear hb1
      go_wp2_with (go_at_call 44; refine (time_i _ _).mono ?_; rintro e w' ⟨rfl, rfl⟩)
      rw [Exit.noGoto_ret]
      go_ret
      exact ⟨ret_int HI.out.symm, HB1.out⟩
    | true =>
      have HI := Lib.hid (nextO_in hk ht)
      have HTO := Lib.hid (ps_parts hk).2
      have hn8 := (ps_parts hk).1
      clear hk
      go_enter Try.func22, Try.ntmps22
      go_wp2
      refine wp_scope_jumps 0 (fun a' w' => Hid (Below w.heap.size w w') ∧ ∃ (k d : Nat) (A' : Option Addr) (c' : Nat) (m : Int) (u2 u3 u5 u6 u7 u8 u9 u10 u11 u12 u13 u14 u15 u16 u17 u18 u19 u20 u21 u22 u23 u24 u25 u26 u27 u28 u29 u30 u31 u32 : Value), a' = { tmps := #[.slice A' d c', .int .i64 m, u2, u3, .int .i64 0, u5, u6, u7, u8, u9, u10, u11, u12, u13, u14, u15, u16, u17, u18, u19, u20, u21, u22, u23, u24, u25, u26, u27, u28, u29, u30, u31, u32], defers := [] } ∧ k + d = n ∧ d ≤ c' ∧ Hid (Pts w' A' d (fun i => F (k + i)) (fun i => U (k + i))) ∧ Hid (moved F U t k = m)) (fun a' _ => lenOf (a'.tmps.getD 0 undef)) rfl ?_ ?_
      · go_wp2_with fail
        refine (ps_impl _ _ _ F U _ hn HP.out).mono ?_
        rintro e w1 ⟨rfl, hb1⟩
        rw [HK.out]
        have HB1 := Lib.hid hb1
        have hp1 := HP.out.below hb1
        have HP1 := Lib.hid (show Pts w1 A n (fun i => F (0 + i)) (fun i => U (0 + i)) by simpa using hp1)
        clear hb1 hp1
        go_wp2_with (go_at_call 44; refine (time_i _ _).mono ?_; rintro e w' ⟨rfl, rfl⟩)
        go_step3
        by_cases h0 : n = 0
        · subst h0
          go_wp2
          simp only [Exit.jump]
          go_ret
          exact ⟨ret_int HI.out.symm, HB1.out⟩
        obtain ⟨g, o, rfl, hsrc⟩ := HP1.out (by omega)
        have HS := Lib.hid hsrc
        obtain ⟨hx, hy⟩ := hsrc 0 (by omega)
        simp only [Nat.zero_mul, Nat.add_zero] at hx hy
        have hn0 : 0 < n := by omega
        have hn1 : ((n : Int) == 0) = false := by simp; omega
        clear hsrc h0
        obtain ⟨u0, u1, u2'⟩ := u_pos HTO.out (k := 0) (by omega)
        clear u0
        by_cases h1 : t < F 0
        · have HE := Lib.hid (HI.out.trans ((congrArg (moved F U t) (Nat.zero_add n).symm).trans (moved_stop HTO.out (k := 0) hn0 h1 n (by omega))))
          go_wp2
          simp only [Exit.jump]
          go_ret
          exact ⟨ret_int HE.out.symm, HB1.out⟩
        have h1' := Int.not_lt.1 h1
        have HY := Lib.hid (moved_yes (F := F) (U := U) (t := t) (k := 0) (by exact h1'))
        clear h1
        by_cases h2 : t < U 0
        · have HM1 := Lib.hid (HY.out.trans (show max t (U 0) = U 0 by omega))
          clear HY
          go_wp2
          all_goals
            go_step3
            exact ⟨rfl, HB1, 1, n - 1, _, _, _, _, _, _, _, _, _, _, _, _, _, _, _, _, _, _, _, _, _, _, _, _, _, _, _, _, _, _, _, _, _, rfl, by omega, by omega, Lib.hid (pts_next (k := 0) (d := n - 1) (by intro i hi; exact HS.out i (by omega)) _ (by first | (intro _; rfl) | (intro hh; omega))), HM1⟩
        · have HM1 := Lib.hid (HY.out.trans (show max t (U 0) = t by omega))
          have h2' := Int.not_lt.1 h2
          clear h2
          clear HY
          go_wp2
          all_goals
            go_step3
            exact ⟨rfl, HB1, 1, n - 1, _, _, _, _, _, _, _, _, _, _, _, _, _, _, _, _, _, _, _, _, _, _, _, _, _, _, _, _, _, _, _, _, _, rfl, by omega, by omega, Lib.hid (pts_next (k := 0) (d := n - 1) (by intro i hi; exact HS.out i (by omega)) _ (by first | (intro _; rfl) | (intro hh; omega))), HM1⟩
      · rintro a' w' ⟨HB, k, d, A', c', m, u2, u3, u5, u6, u7, u8, u9, u10, u11, u12, u13, u14, u15, u16, u17, u18, u19, u20, u21, u22, u23, u24, u25, u26, u27, u28, u29, u30, u31, u32, rfl, hkd, hdc, HP', HMV⟩
        by_cases h0 : d = 0
        · subst h0
          obtain rfl : k = n := by omega
          go_wp2
          simp only [Exit.jump]
          go_ret
          exact ⟨ret_int (HI.out.trans HMV.out).symm, HB.out⟩
        obtain ⟨g, o, rfl, hsrc⟩ := HP'.out (by omega)
        have HS := Lib.hid hsrc
        obtain ⟨hx, hy⟩ := hsrc 0 (by omega)
        simp only [Nat.zero_mul, Nat.add_zero] at hx hy
        have hn0 : 0 < d := by omega
        have hn1 : ((d : Int) == 0) = false := by simp; omega
        clear hsrc h0
        obtain ⟨u0, u1, u2'⟩ := u_pos HTO.out (k := k) (by omega)
        clear u0
        by_cases h1 : m < F k
        · have HE := Lib.hid (HI.out.trans ((congrArg (moved F U t) hkd.symm).trans ((moved_stop HTO.out (k := k) (by omega) (by rw [HMV.out]; exact h1) d (by omega)).trans HMV.out)))
          go_wp2
          simp only [Exit.jump]
          go_ret
          exact ⟨ret_int HE.out.symm, HB.out⟩
        have h1' := Int.not_lt.1 h1
        have HY := Lib.hid (moved_yes (F := F) (U := U) (t := t) (k := k) (by rw [HMV.out]; exact h1'))
        rw [HMV.out] at HY
        clear h1
        by_cases h2 : m < U k
        · have HM1 := Lib.hid (HY.out.trans (show max m (U k) = U k by omega))
          clear HY
          go_wp2
          all_goals
            go_step3
            refine ⟨rfl, ⟨HB, k + 1, d - 1, _, _, _, _, _, _, _, _, _, _, _, _, _, _, _, _, _, _, _, _, _, _, _, _, _, _, _, _, _, _, _, _, _, rfl, by omega, by omega, Lib.hid (pts_next (k := k) (d := d - 1) (by intro i hi; exact HS.out i (by omega)) _ (by first | (intro _; rfl) | (intro hh; omega))), HM1⟩, by simp [lenOf]; omega⟩
        · have HM1 := Lib.hid (HY.out.trans (show max m (U k) = m by omega))
          have h2' := Int.not_lt.1 h2
          clear h2
          clear HY
          go_wp2
          all_goals
            go_step3
            refine ⟨rfl, ⟨HB, k + 1, d - 1, _, _, _, _, _, _, _, _, _, _, _, _, _, _, _, _, _, _, _, _, _, _, _, _, _, _, _, _, _, _, _, _, _, rfl, by omega, by omega, Lib.hid (pts_next (k := k) (d := d - 1) (by intro i hi; exact HS.out i (by omega)) _ (by first | (intro _; rfl) | (intro hh; omega))), HM1⟩, by simp [lenOf]; omega⟩
end Go.Proofs.Ytaacgajpjkfplaa.C1
