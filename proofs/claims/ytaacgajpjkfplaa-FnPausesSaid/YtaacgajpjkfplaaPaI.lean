/- Pauses: whether they are valid, whether a lock is open, and when next; of the program and of its model. -/
import Derived.Test.YtaacgajpjkfplaaPau
import Derived.Test.YtaacgajpjkfplaaTs
namespace Go.Proofs.Ytaacgajpjkfplaa.C1
open Go.ChangeShapes Go.WideShapes Go.ChangeAt Go.RowKit
set_option linter.unusedVariables false

set_option maxHeartbeats 2000000 in
theorem ps_spec (A : Option Addr) (n c : Nat) (F U : Nat → Int) (w : World) (hn : n ≤ 1048576) (hp : Pts w A n F U) :
    Calls Try.prog 38 #[.slice A n c] w (GivesB w (psOk n F U)) := by
  have HP := Lib.hid hp
  clear hp
  go_enter Try.func38, Try.ntmps38
  go_wp2
  go_loopw [3, 4] (fun l i wr => ∃ k : Nat, k ≤ n ∧ i = .int .i64 k ∧ l = .int .i64 (lastU U k) ∧ Hid (Below w.heap.size w wr) ∧ Hid (psTo F U k = true)) (fun _ i _ => n - (intOf i).toNat)
  case atStart => exact ⟨0, by omega, rfl, rfl, Lib.hid (Below.refl _ _), Lib.hid (show psTo F U 0 = true from rfl)⟩
  case round =>
    obtain ⟨k, hk, rfl, rfl, HB, HT⟩ := hrel
    by_cases hlt : k < n
    · obtain ⟨g, o, rfl, hsrc⟩ := HP.out.below HB.out (by omega)
      obtain ⟨hx, hy⟩ := hsrc k hlt
      rcases psAt_cases F U k with ⟨h0, h1⟩ | ⟨h0, h1, h2⟩ | ⟨h0, h1, h2, h3⟩ | ⟨h0, h1, h2, h3⟩
      · have H0 := Lib.hid (ps_no hlt h0)
        clear h0 hsrc
        go_wp2
        go_quiet (fail)
        go_wp2
        go_ret
        exact ⟨ret_bool H0.out.symm, HB.out.drewN' _⟩
      · have H0 := Lib.hid (ps_no hlt h0)
        clear h0 hsrc
        go_wp2
        go_quiet (fail)
        go_wp2
        go_ret
        exact ⟨ret_bool H0.out.symm, HB.out.drewN' _⟩
      · have H0 := Lib.hid (ps_no hlt h0)
        clear h0 hsrc
        go_wp2
        go_quiet (fail)
        go_wp2
        go_ret
        exact ⟨ret_bool H0.out.symm, HB.out.drewN' _⟩
      · have HN := Lib.hid (show psTo F U (k + 1) = true by rw [psTo, HT.out, h0]; rfl)
        have HL := Lib.hid (show lastU U (k + 1) = U k by unfold lastU; rw [if_neg (by omega), show k + 1 - 1 = k by omega])
        clear h0 hsrc
        go_wp2
        go_quiet (fail)
        go_wp2
        go_roundw
        case rel => exact ⟨k + 1, by omega, by go_num, by rw [HL.out], Lib.hid (HB.out.drewN' _), HN⟩
        case measure => simp [intOf]; omega
    · obtain rfl : k = n := by omega
      have H1 := Lib.hid (ps_to HT.out)
      by_cases h8 : k ≤ 8
      · have H2 := Lib.hid (H1.out.trans (decide_eq_true h8))
        go_wp2
        go_ret
        exact ⟨ret_bool (by rw [H2.out]; simp; omega), HB.out⟩
      · have H2 := Lib.hid (H1.out.trans (decide_eq_false h8))
        go_wp2
        go_ret
        exact ⟨ret_bool (by rw [H2.out]; simp; omega), HB.out⟩
set_option maxHeartbeats 2000000 in
theorem ps_impl (A : Option Addr) (n c : Nat) (F U : Nat → Int) (w : World) (hn : n ≤ 1048576) (hp : Pts w A n F U) :
    Calls Try.prog 24 #[.slice A n c] w (GivesB w (psOk n F U)) := by
  have HP := Lib.hid hp
  clear hp
  by_cases h8 : 8 < n
  · have H1 := Lib.hid (ps_len (F := F) (U := U) h8)
    go_enter Try.func24, Try.ntmps24
    go_wp2
    go_ret
    exact ⟨ret_bool H1.out.symm, Below.refl _ _⟩
  have b8 : n ≤ 8 := by omega
  clear h8
  go_enter Try.func24, Try.ntmps24
  go_wp2
  go_loopw [3, 11] (fun l i wr => ∃ k : Nat, k ≤ n ∧ i = .int .i64 k ∧ l = .int .i64 (lastU U k) ∧ Hid (Below w.heap.size w wr) ∧ Hid (psTo F U k = true)) (fun _ i _ => n - (intOf i).toNat)
  case atStart => exact ⟨0, by omega, rfl, rfl, Lib.hid (Below.refl _ _), Lib.hid (show psTo F U 0 = true from rfl)⟩
  case round =>
    obtain ⟨k, hk, rfl, rfl, HB, HT⟩ := hrel
    by_cases hlt : k < n
    · obtain ⟨g, o, rfl, hsrc⟩ := HP.out.below HB.out (by omega)
      obtain ⟨hx, hy⟩ := hsrc k hlt
      have HBA := Lib.hid (HB.out.alloc HB.out.size (.cells #[.int .i64 (F k), .int .i64 (U k)] 64))
      rcases psAt_cases F U k with ⟨h0, h1⟩ | ⟨h0, h1, h2⟩ | ⟨h0, h1, h2, h3⟩ | ⟨h0, h1, h2, h3⟩
      · have H0 := Lib.hid (ps_no hlt h0)
        clear h0 hsrc
        go_wp2
        go_ret
        exact ⟨ret_bool H0.out.symm, HBA.out⟩
      · have H0 := Lib.hid (ps_no hlt h0)
        clear h0 hsrc
        go_wp2
        go_ret
        exact ⟨ret_bool H0.out.symm, HBA.out⟩
      · have H0 := Lib.hid (ps_no hlt h0)
        clear h0 hsrc
        go_wp2
        go_ret
        exact ⟨ret_bool H0.out.symm, HBA.out⟩
      · have HN := Lib.hid (show psTo F U (k + 1) = true by rw [psTo, HT.out, h0]; rfl)
        have HL := Lib.hid (show lastU U (k + 1) = U k by unfold lastU; rw [if_neg (by omega), show k + 1 - 1 = k by omega])
        clear h0 hsrc
        go_wp2
        go_roundw
        case rel => exact ⟨k + 1, by omega, by go_num, by rw [HL.out], HBA, HN⟩
        case measure => simp [intOf]; omega
    · obtain rfl : k = n := by omega
      have H1 := Lib.hid ((ps_to HT.out).trans (decide_eq_true b8))
      go_wp2
      go_ret
      exact ⟨ret_bool H1.out.symm, HB.out⟩
theorem lasts_impl (f u t : Int) (p : Nat) (w : World) (hp : w.cell? ⟨p, 0, none⟩ = some (.int .i64 t)) :
    Calls Try.prog 47 #[.agg #[.int .i64 f, .int .i64 u], .pointer (some ⟨p, 0, none⟩)] w (GivesB w (decide (f ≤ t) && decide (t < u))) := by
  have hl := cell_lt hp
  have HB := Lib.hid ((Below.refl w.heap.size w).alloc (Nat.le_refl _) (.cells #[.int .i64 f, .int .i64 u] 64))
  by_cases h1 : f ≤ t
  · by_cases h2 : t < u
    · have H := Lib.hid (show (decide (f ≤ t) && decide (t < u)) = true by rw [decide_eq_true h1, decide_eq_true h2]; rfl)
      go_enter Try.func47, Try.ntmps47
      go_wp2
      go_ret
      exact ⟨ret_bool (by first | rfl | exact H.out.symm | (rw [H.out]; done) | (simp; omega)), HB.out⟩
    · have H := Lib.hid (show (decide (f ≤ t) && decide (t < u)) = false by rw [decide_eq_false h2, Bool.and_false])
      have h2' := Int.not_lt.1 h2
      clear h2
      go_enter Try.func47, Try.ntmps47
      go_wp2
      go_ret
      exact ⟨ret_bool (by first | rfl | exact H.out.symm | (rw [H.out]; done) | (simp; omega)), HB.out⟩
  · have H := Lib.hid (show (decide (f ≤ t) && decide (t < u)) = false by rw [decide_eq_false h1, Bool.false_and])
    have h1' := Int.not_le.1 h1
    clear h1
    go_enter Try.func47, Try.ntmps47
    go_wp2
    go_ret
    exact ⟨ret_bool (by first | rfl | exact H.out.symm), HB.out⟩
def SomeI (n : Nat) (w : World) (e : Ending) (w' : World) : Prop := ∃ k : Nat, k < n ∧ e = .returned (.int .i64 (k : Int)) ∧ Below w.heap.size w w'
set_option maxHeartbeats 1000000 in
theorem pidx_no (A : Option Addr) (n c : Nat) (F U : Nat → Int) (t : Int) (p : Nat) (w : World) (hn : n ≤ 1048576) (hp : Pts w A n F U) (ht : w.cell? ⟨p, 0, none⟩ = some (.int .i64 t)) (ho : anyL F U t n = false) :
    Calls Try.prog 53 #[.slice A n c, .func (Fn.func 47) #[] #[.pointer (some ⟨p, 0, none⟩)]] w fun e w' => e = .returned (.int .i64 (-1)) ∧ Below w.heap.size w w' := by
  have HP := Lib.hid hp
  have HO := Lib.hid ho
  have HT := Lib.hid ht
  clear hp ho ht
  go_enter Try.func53, Try.ntmps53
  go_wp2
  go_loopw [8] (fun i wr => ∃ k : Nat, k ≤ n ∧ i = .int .i64 k ∧ Hid (Below w.heap.size w wr)) (fun i _ => n - (intOf i).toNat)
  case atStart => exact ⟨0, by omega, rfl, Lib.hid (Below.refl _ _)⟩
  case round =>
    obtain ⟨k, hk, rfl, HB⟩ := hrel
    by_cases hlt : k < n
    · obtain ⟨g, o, rfl, hc⟩ := (HP.out.below HB.out) (by omega)
      obtain ⟨c0, c1⟩ := hc k hlt
      have HK := Lib.hid (anyL_no.1 HO.out k hlt)
      have HT1 := Lib.hid ((HB.out.cell (cell_lt HT.out)).trans HT.out)
      clear hc
      go_wp2_with fail
      refine (lasts_impl (F k) (U k) t p _ HT1.out).mono ?_
      rintro e w1 ⟨rfl, hb1⟩
      rw [show (decide (F k ≤ t) && decide (t < U k)) = false from HK.out]
      have HB1 := Lib.hid (HB.out.trans (hb1.mono HB.out.size))
      clear hb1
      go_wp2
      go_roundw
      case rel => exact ⟨k + 1, by omega, by go_num, HB1⟩
      case measure => simp [intOf]; omega
    · go_wp2
      go_ret
      exact ⟨rfl, HB.out⟩
set_option maxHeartbeats 1000000 in
theorem pidx_yes (A : Option Addr) (n c : Nat) (F U : Nat → Int) (t : Int) (p : Nat) (w : World) (hn : n ≤ 1048576) (hp : Pts w A n F U) (ht : w.cell? ⟨p, 0, none⟩ = some (.int .i64 t)) (ho : anyL F U t n = true) :
    Calls Try.prog 53 #[.slice A n c, .func (Fn.func 47) #[] #[.pointer (some ⟨p, 0, none⟩)]] w (SomeI n w) := by
  have HP := Lib.hid hp
  have HO := Lib.hid ho
  have HT := Lib.hid ht
  clear hp ho ht
  go_enter Try.func53, Try.ntmps53
  go_wp2
  go_loopw [8] (fun i wr => ∃ k : Nat, k ≤ n ∧ i = .int .i64 k ∧ Hid (anyL F U t k = false) ∧ Hid (Below w.heap.size w wr)) (fun i _ => n - (intOf i).toNat)
  case atStart => exact ⟨0, by omega, rfl, Lib.hid (show anyL F U t 0 = false from rfl), Lib.hid (Below.refl _ _)⟩
  case round =>
    obtain ⟨k, hk, rfl, HA, HB⟩ := hrel
    by_cases hlt : k < n
    · obtain ⟨g, o, rfl, hc⟩ := (HP.out.below HB.out) (by omega)
      obtain ⟨c0, c1⟩ := hc k hlt
      have HT1 := Lib.hid ((HB.out.cell (cell_lt HT.out)).trans HT.out)
      clear hc
      cases hkk : lasts F U t k with
      | false =>
        have HK := Lib.hid hkk
        clear hkk
        go_wp2_with fail
        refine (lasts_impl (F k) (U k) t p _ HT1.out).mono ?_
        rintro e w1 ⟨rfl, hb1⟩
        rw [show (decide (F k ≤ t) && decide (t < U k)) = false from HK.out]
        have HB1 := Lib.hid (HB.out.trans (hb1.mono HB.out.size))
        clear hb1
        go_wp2
        go_roundw
        case rel => exact ⟨k + 1, by omega, by go_num, Lib.hid (show anyL F U t (k + 1) = false by rw [anyL, HA.out, HK.out]; rfl), HB1⟩
        case measure => simp [intOf]; omega
      | true =>
        have HK := Lib.hid hkk
        clear hkk
        go_wp2_with fail
        refine (lasts_impl (F k) (U k) t p _ HT1.out).mono ?_
        rintro e w1 ⟨rfl, hb1⟩
        rw [show (decide (F k ≤ t) && decide (t < U k)) = true from HK.out]
        have HB1 := Lib.hid (HB.out.trans (hb1.mono HB.out.size))
        clear hb1
        go_wp2
        go_ret
        exact ⟨k, hlt, rfl, HB1.out⟩
    · obtain rfl : k = n := by omega
      exact absurd (HA.out.symm.trans HO.out) (by decide)
theorem pany_impl (A : Option Addr) (n c : Nat) (F U : Nat → Int) (t : Int) (p : Nat) (w : World) (hn : n ≤ 1048576) (hp : Pts w A n F U) (ht : w.cell? ⟨p, 0, none⟩ = some (.int .i64 t)) (b : Bool) (ho : anyL F U t n = b) :
    Calls Try.prog 48 #[.slice A n c, .func (Fn.func 47) #[] #[.pointer (some ⟨p, 0, none⟩)]] w (GivesB w b) := by
  have HP := Lib.hid hp
  have HO := Lib.hid ho
  have HT := Lib.hid ht
  clear hp ho ht
  cases b with
  | false =>
    go_enter Try.func48, Try.ntmps48
    go_wp2_with fail
    refine (pidx_no _ _ _ F U t p _ hn HP.out HT.out HO.out).mono ?_
    rintro e w1 ⟨rfl, hb1⟩
    have HB1 := Lib.hid hb1
    clear hb1
    go_wp2
    go_ret
    exact ⟨rfl, HB1.out⟩
  | true =>
    go_enter Try.func48, Try.ntmps48
    go_wp2_with fail
    refine (pidx_yes _ _ _ F U t p _ hn HP.out HT.out HO.out).mono ?_
    rintro e w1 ⟨k, hk, rfl, hb1⟩
    have HB1 := Lib.hid hb1
    have k0 : (0 : Int) ≤ (k : Int) := by omega
    clear hb1
    go_wp2
    go_ret
    exact ⟨rfl, HB1.out⟩
set_option maxHeartbeats 1000000 in
theorem isop_impl (A : Option Addr) (n c : Nat) (F U : Nat → Int) (t : Int) (w : World) (hn : n ≤ 1048576) (hp : Pts w A n F U) :
    Calls Try.prog 23 #[.slice A n c, .int .i64 t] w (GivesB w (isOp n F U t)) := by
  have HB0 := Lib.hid ((Below.refl w.heap.size w).alloc (Nat.le_refl _) (.cells #[.int .i64 t] 3))
  have HP := Lib.hid (hp.below HB0.out)
  have ht : (w.alloc (.cells #[.int .i64 t] 3)).cell? ⟨w.heap.size, 0, none⟩ = some (.int .i64 t) := by simp
  have HT := Lib.hid ht
  clear hp ht
  cases hk : psOk n F U with
  | false =>
    have HI := Lib.hid (isOp_bad (t := t) hk)
    have HK := Lib.hid hk
    clear hk
    go_enter Try.func23, Try.ntmps23
    go_wp2_with fail
    refine (ps_impl _ _ _ F U _ hn HP.out).mono ?_
    rintro e w1 ⟨rfl, hb1⟩
    rw [HK.out]
    have HB1 := Lib.hid (HB0.out.trans (hb1.mono HB0.out.size))
    clear hb1
    go_wp2
    go_ret
    exact ⟨ret_bool HI.out.symm, HB1.out⟩
  | true =>
    have HK := Lib.hid hk
    cases ht : inB t 0 1000000 with
    | false =>
      have HI := Lib.hid (isOp_out (n := n) (F := F) (U := U) ht)
      clear hk
      go_enter Try.func23, Try.ntmps23
      go_wp2_with fail
      refine (ps_impl _ _ _ F U _ hn HP.out).mono ?_
      rintro e w1 ⟨rfl, hb1⟩
      rw [HK.out]
      have HB1 := Lib.hid (HB0.out.trans (hb1.mono HB0.out.size))
      have HT1 := (hb1.cell (cell_lt HT.out)).trans HT.out
      have hl1 := cell_lt HT1
      simp only at hl1
      clear hb1
      go_wp2_with (go_at_call 44; refine (time_i _ _).mono ?_; rintro e w' ⟨rfl, rfl⟩)
      go_ret
      exact ⟨ret_bool HI.out.symm, HB1.out⟩
    | true =>
      have HI := Lib.hid (isOp_in hk ht)
      clear hk
      go_enter Try.func23, Try.ntmps23
      go_wp2_with fail
      refine (ps_impl _ _ _ F U _ hn HP.out).mono ?_
      rintro e w1 ⟨rfl, hb1⟩
      rw [HK.out]
      have HB1 := Lib.hid (HB0.out.trans (hb1.mono HB0.out.size))
      have HT1 := (hb1.cell (cell_lt HT.out)).trans HT.out
      have hl1 := cell_lt HT1
      have HTT := Lib.hid HT1
      have HP1 := Lib.hid (HP.out.below hb1)
      simp only at hl1
      clear hb1
      go_wp2_with (go_at_call 44; refine (time_i _ _).mono ?_; rintro e w' ⟨rfl, rfl⟩)
      refine (pany_impl _ _ _ F U t _ _ hn HP1.out HTT.out _ rfl).mono ?_
      rintro e w2 ⟨rfl, hb2⟩
      have HB2 := Lib.hid (HB1.out.trans (hb2.mono HB1.out.size))
      clear hb2
      cases ha : anyL F U t n
      all_goals
        rw [ha] at HI
        clear ha
        go_wp2
        go_ret
        exact ⟨ret_bool HI.out.symm, HB2.out⟩
theorem in_at {x l h : Int} {b : Bool} (hb : inB x l h = b) (w : World) : Calls Try.prog 49 #[.int .i64 x, .int .i64 l, .int .i64 h] w fun e w' => e = .returned (.bool b) ∧ w = w' := by subst hb; exact in_spec _ _ _ _
set_option maxHeartbeats 2000000 in
theorem isop_spec (A : Option Addr) (n c : Nat) (F U : Nat → Int) (t : Int) (w : World) (hn : n ≤ 1048576) (hp : Pts w A n F U) (t0 : -9223372036854775808 ≤ t) (t1 : t ≤ 9223372036854775807) :
    Calls Try.prog 41 #[.slice A n c, .int .i64 t] w (GivesB w (isOp n F U t)) := by
  have HP := Lib.hid hp
  clear hp
  cases hk : psOk n F U with
  | false =>
    have HI := Lib.hid (isOp_bad (t := t) hk)
    have HK := Lib.hid hk
    clear hk
    go_enter Try.func41, Try.ntmps41
    go_wp2_with fail
    refine (ps_spec _ _ _ F U _ hn HP.out).mono ?_
    rintro e w1 ⟨rfl, hb1⟩
    rw [HK.out]
    have HB1 := Lib.hid hb1
    clear hb1
    go_wp2
    go_ret
    exact ⟨ret_bool HI.out.symm, HB1.out⟩
  | true =>
    have HK := Lib.hid hk
    cases ht : inB t 0 1000000 with
    | false =>
      have HI := Lib.hid (isOp_out (n := n) (F := F) (U := U) ht)
      clear hk
      go_enter Try.func41, Try.ntmps41
      go_wp2_with fail
      refine (ps_spec _ _ _ F U _ hn HP.out).mono ?_
      rintro e w1 ⟨rfl, hb1⟩
      rw [HK.out]
      have HB1 := Lib.hid hb1
      clear hb1
      go_wp2_with (go_at_call 49; refine (in_spec _ _ _ _).mono ?_; rintro e w' ⟨rfl, rfl⟩)
      go_ret
      exact ⟨ret_bool HI.out.symm, HB1.out⟩
    | true =>
      have HI := Lib.hid (isOp_in hk ht)
      have HTO := Lib.hid (ps_parts hk).2
      clear hk
      go_enter Try.func41, Try.ntmps41
      go_wp2_with fail
      refine (ps_spec _ _ _ F U _ hn HP.out).mono ?_
      rintro e w1 ⟨rfl, hb1⟩
      rw [HK.out]
      have HB1 := Lib.hid hb1
      have HP1 := Lib.hid (HP.out.below hb1)
      clear hb1
      go_wp2_with (go_at_call 49; refine (in_spec _ _ _ _).mono ?_; rintro e w' ⟨rfl, rfl⟩)
      go_loopw [5] (fun i wr => ∃ k : Nat, k ≤ n ∧ i = .int .i64 k ∧ Hid (Below w1.heap.size w1 wr) ∧ Hid (anyL F U t k = false)) (fun i _ => n - (intOf i).toNat)
      case atStart => exact ⟨0, by omega, rfl, Lib.hid (Below.refl _ _), Lib.hid (show anyL F U t 0 = false from rfl)⟩
      case round =>
        obtain ⟨k, hkn, rfl, HB, HA⟩ := hrel
        by_cases hlt : k < n
        · obtain ⟨g, o, rfl, hsrc⟩ := HP1.out.below HB.out (by omega)
          obtain ⟨hx, hy⟩ := hsrc k hlt
          obtain ⟨u0, u1, u2⟩ := psAt_iff.1 (psTo_iff.1 HTO.out k hlt)
          have u3 : 0 ≤ lastU U k := by
            unfold lastU
            split
            · exact Int.le_refl _
            · have := psAt_iff.1 (psTo_iff.1 HTO.out 0 (by omega))
              have e0 : lastU U 0 = 0 := rfl
              have := (ends_mono HTO.out (i := 0) (j := k - 1) (by omega) (by omega)).1
              omega
          have HL := Lib.hid (lasts_in F U t k)
          have u4 : 0 < U k := by omega
          clear hsrc u0 u1 u3
          cases hb : inB t (F k) (U k - 1) with
          | false =>
            have HA1 := Lib.hid (show anyL F U t (k + 1) = false by rw [anyL, HA.out, HL.out, hb]; rfl)
            go_wp2
            go_quiet ((go_at_call 49; exact quiet_l (in_at hb _)))
            go_wp2
            go_roundw
            case rel => exact ⟨k + 1, by omega, by go_num, Lib.hid (HB.out.drewN' _), HA1⟩
            case measure => simp [intOf]; omega
          | true =>
            have HA1 := Lib.hid (anyL_yes (n := n) hlt (by rw [HL.out, hb]))
            rw [HA1.out] at HI
            go_wp2
            go_quiet ((go_at_call 49; exact quiet_l (in_at hb _)))
            go_wp2
            go_ret
            exact ⟨ret_bool HI.out.symm, HB1.out.trans ((HB.out.drewN' _).mono HB1.out.size)⟩
        · obtain rfl : k = n := by omega
          rw [HA.out] at HI
          go_wp2
          go_ret
          exact ⟨ret_bool HI.out.symm, HB1.out.trans (HB.out.mono HB1.out.size)⟩
end Go.Proofs.Ytaacgajpjkfplaa.C1
