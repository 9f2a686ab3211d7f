/- Whether an entry, and a book, is valid: of the program and of its model. -/
import Derived.Test.YtclofbknbfmmlaaDoorEn
import Derived.Test.YtclofbknbfmmlaaDoorTs
namespace Go.Proofs.YtclofbknbfmmlaaDoor.C1
open Go.ChangeShapes Go.WideShapes Go.ChangeAt Go.RowKit
set_option linter.unusedVariables false

theorem enOk_cases (b : En) : (enOk b = false ∧ (b.f != b.t) = false) ∨ (enOk b = false ∧ (b.f != b.t) = true ∧ inB b.f 0 11 = false) ∨ (enOk b = false ∧ (b.f != b.t) = true ∧ inB b.f 0 11 = true ∧ inB b.t 0 11 = false) ∨
    (enOk b = false ∧ (b.f != b.t) = true ∧ inB b.f 0 11 = true ∧ inB b.t 0 11 = true ∧ inB b.a 1 1000000000 = false) ∨ (enOk b = false ∧ (b.f != b.t) = true ∧ inB b.f 0 11 = true ∧ inB b.t 0 11 = true ∧ inB b.a 1 1000000000 = true ∧ inB b.m 0 1000000 = false) ∨
    (enOk b = inB b.y 0 9999 ∧ (b.f != b.t) = true ∧ inB b.f 0 11 = true ∧ inB b.t 0 11 = true ∧ inB b.a 1 1000000000 = true ∧ inB b.m 0 1000000 = true) := by
  unfold enOk
  by_cases h : b.f = b.t
  · left; simp [h]
  · right
    cases inB b.f 0 11 <;> cases inB b.t 0 11 <;> cases inB b.a 1 1000000000 <;> cases inB b.m 0 1000000 <;> simp [h]
set_option maxHeartbeats 2000000 in
theorem enok_spec (b : En) (w : World) : Calls Tryd.prog 67 #[.agg #[.int .i64 b.f, .int .i64 b.t, .int .i64 b.a, .int .i64 b.m, .int .i64 b.y]] w (GivesB w (enOk b)) := by
  have HB0 := vl ((Below.refl w.heap.size w).alloc (Nat.le_refl _) (.cells #[.int .i64 b.f, .int .i64 b.t, .int .i64 b.a, .int .i64 b.m, .int .i64 b.y] 36))
  rcases enOk_cases b with ⟨h, h1⟩ | ⟨h, h1, h2⟩ | ⟨h, h1, h2, h3⟩ | ⟨h, h1, h2, h3, h4⟩ | ⟨h, h1, h2, h3, h4, h5⟩ | ⟨h, h1, h2, h3, h4, h5⟩
  all_goals
    have H := vl h
    clear h
    go_enter Tryd.func67, Tryd.ntmps67
    go_wp2_with (go_at_call 86; refine (in_spec _ _ _ _).mono ?_; rintro e w' ⟨rfl, rfl⟩)
    go_ret
    exact ⟨ret_bool H.out.symm, HB0.out⟩
theorem acc_i (x : Int) (w : World) :
    Calls Tryd.prog 45 #[.int .i64 x] w fun e w' => e = .returned (.bool (inB x 0 11)) ∧ w = w' := by
  go_enter Tryd.func45, Tryd.ntmps45
  go_wp2_with (go_at_call 46; refine (within_i _ _ _ _).mono ?_; rintro e w' ⟨rfl, rfl⟩)
  go_ret
  exact ⟨rfl, rfl⟩
set_option maxHeartbeats 2000000 in
theorem enok_impl (b : En) (w : World) : Calls Tryd.prog 15 #[.agg #[.int .i64 b.f, .int .i64 b.t, .int .i64 b.a, .int .i64 b.m, .int .i64 b.y]] w (GivesB w (enOk b)) := by
  have HB0 := vl ((Below.refl w.heap.size w).alloc (Nat.le_refl _) (.cells #[.int .i64 b.f, .int .i64 b.t, .int .i64 b.a, .int .i64 b.m, .int .i64 b.y] 36))
  rcases enOk_cases b with ⟨h, h1⟩ | ⟨h, h1, h2⟩ | ⟨h, h1, h2, h3⟩ | ⟨h, h1, h2, h3, h4⟩ | ⟨h, h1, h2, h3, h4, h5⟩ | ⟨h, h1, h2, h3, h4, h5⟩
  all_goals
    have H := vl h
    clear h
    go_enter Tryd.func15, Tryd.ntmps15
    go_wp2_with (first | (go_at_call 45; refine (acc_i _ _).mono ?_; rintro e w' ⟨rfl, rfl⟩) | (go_at_call 40; refine (time_i _ _).mono ?_; rintro e w' ⟨rfl, rfl⟩) | (go_at_call 46; refine (within_i _ _ _ _).mono ?_; rintro e w' ⟨rfl, rfl⟩))
    go_ret
    exact ⟨ret_bool H.out.symm, HB0.out⟩
/-- The first k entries are valid. -/
def enTo (L : List En) (k : Nat) : Bool := (L.take k).all enOk
theorem enTo_succ {L : List En} {k : Nat} {b : En} (h : L[k]? = some b) : enTo L (k + 1) = (enTo L k && enOk b) := by
  unfold enTo
  rw [List.take_add_one, h]
  simp
theorem enTo_all (L : List En) : enTo L L.length = L.all enOk := by unfold enTo; rw [List.take_length]
theorem all_no {L : List En} {k : Nat} {b : En} (h : L[k]? = some b) (hb : enOk b = false) : L.all enOk = false := by
  rw [Bool.eq_false_iff]
  intro h'
  have := List.all_eq_true.1 h' b (List.mem_of_getElem? h)
  rw [hb] at this; cases this
theorem bk_no {L : List En} {k : Nat} {b : En} (h : L[k]? = some b) (hb : enOk b = false) : bkOk L = false := by unfold bkOk; rw [all_no h hb, Bool.and_false]
theorem bk_len {L : List En} (h : 2000 < L.length) : bkOk L = false := by unfold bkOk; rw [decide_eq_false (by omega), Bool.false_and]
theorem bk_all {L : List En} (h : L.all enOk = true) : bkOk L = decide (L.length ≤ 2000) := by unfold bkOk; rw [h, Bool.and_true]
theorem bk_in {L : List En} (h : L.length ≤ 2000) : bkOk L = L.all enOk := by unfold bkOk; rw [decide_eq_true h, Bool.true_and]
theorem bk_parts {L : List En} (h : bkOk L = true) : L.length ≤ 2000 ∧ L.all enOk = true := by unfold bkOk at h; simpa using h
set_option maxHeartbeats 2000000 in
theorem bkok_spec (A : Option Addr) (c : Nat) (L : List En) (w : World) (hn : L.length ≤ 2097152) (hp : Ens w A L) :
    Calls Tryd.prog 66 #[.slice A L.length c] w (GivesB w (bkOk L)) := by
  have HP := vl hp
  clear hp
  go_enter Tryd.func66, Tryd.ntmps66
  go_wp2
  go_loopw [3] (fun i wr => ∃ k : Nat, k ≤ L.length ∧ i = .int .i64 k ∧ Veil (Below w.heap.size w wr) ∧ Veil (enTo L k = true)) (fun i _ => L.length - (intOf i).toNat)
  case atStart => exact ⟨0, by omega, rfl, vl (Below.refl _ _), vl rfl⟩
  case round =>
    obtain ⟨k, hk, rfl, HB, HT⟩ := hrel
    by_cases hlt : k < L.length
    · obtain ⟨b, hb⟩ := get_of hlt
      obtain ⟨g, o, rfl, hsrc⟩ := HP.out.below HB.out (by omega)
      obtain ⟨x0, x1, x2, x3, x4⟩ := hsrc k b hb
      cases hv : enOk b with
      | false =>
        have H0 := vl (bk_no hb hv)
        have HV := vl hv
        clear hsrc hb hv
        go_wp2_with fail
        refine (enok_spec b _).mono ?_
        rintro e w1 ⟨rfl, hb1⟩
        rw [HV.out]
        have HB1 := vl (HB.out.trans (hb1.mono HB.out.size))
        clear hb1
        go_wp2
        go_ret
        exact ⟨ret_bool H0.out.symm, HB1.out⟩
      | true =>
        have HN := vl (show enTo L (k + 1) = true by rw [enTo_succ hb, HT.out, hv]; rfl)
        have HV := vl hv
        clear hsrc hb hv
        go_wp2_with fail
        refine (enok_spec b _).mono ?_
        rintro e w1 ⟨rfl, hb1⟩
        rw [HV.out]
        have HB1 := vl (HB.out.trans (hb1.mono HB.out.size))
        clear hb1
        go_wp2
        go_roundw
        case rel => exact ⟨k + 1, by omega, by go_num, HB1, HN⟩
        case measure => simp [intOf]; omega
    · obtain rfl : k = L.length := by omega
      have H1 := vl (bk_all ((enTo_all L).symm.trans HT.out))
      by_cases h8 : L.length ≤ 2000
      · have H2 := vl (H1.out.trans (decide_eq_true h8))
        go_wp2
        go_ret
        exact ⟨ret_bool (by rw [H2.out]; simp; omega), HB.out⟩
      · have H2 := vl (H1.out.trans (decide_eq_false h8))
        go_wp2
        go_ret
        exact ⟨ret_bool (by rw [H2.out]; simp; omega), HB.out⟩
theorem bad_impl (b : En) (w : World) : Calls Tryd.prog 56 #[.agg #[.int .i64 b.f, .int .i64 b.t, .int .i64 b.a, .int .i64 b.m, .int .i64 b.y]] w (GivesB w (!enOk b)) := by
  have HB := vl ((Below.refl w.heap.size w).alloc (Nat.le_refl _) (.cells #[.int .i64 b.f, .int .i64 b.t, .int .i64 b.a, .int .i64 b.m, .int .i64 b.y] 36))
  cases hv : enOk b
  all_goals
    have HV := vl hv
    clear hv
    go_enter Tryd.func56, Tryd.ntmps56
    go_wp2_with fail
    refine (enok_impl b _).mono ?_
    rintro e w1 ⟨rfl, hb1⟩
    rw [HV.out]
    have HB1 := vl (HB.out.trans (hb1.mono HB.out.size))
    clear hb1
    go_wp2
    go_ret
    exact ⟨rfl, HB1.out⟩
def SomeE (n : Nat) (w : World) (e : Ending) (w' : World) : Prop := ∃ k : Nat, k < n ∧ e = .returned (.int .i64 (k : Int)) ∧ Below w.heap.size w w'
set_option maxHeartbeats 1000000 in
theorem eidx_no (A : Option Addr) (c : Nat) (L : List En) (w : World) (hn : L.length ≤ 1048576) (hp : Ens w A L) (ho : L.all enOk = true) :
    Calls Tryd.prog 93 #[.slice A L.length c, .func (Fn.func 56) #[] #[]] w fun e w' => e = .returned (.int .i64 (-1)) ∧ Below w.heap.size w w' := by
  have HP := vl hp
  have HO := vl ho
  clear hp ho
  go_enter Tryd.func93, Tryd.ntmps93
  go_wp2
  go_loopw [8] (fun i wr => ∃ k : Nat, k ≤ L.length ∧ i = .int .i64 k ∧ Veil (Below w.heap.size w wr)) (fun i _ => L.length - (intOf i).toNat)
  case atStart => exact ⟨0, by omega, rfl, vl (Below.refl _ _)⟩
  case round =>
    obtain ⟨k, hk, rfl, HB⟩ := hrel
    by_cases hlt : k < L.length
    · obtain ⟨b, hb⟩ := get_of hlt
      obtain ⟨g, o, rfl, hc⟩ := (HP.out.below HB.out) (by omega)
      obtain ⟨c0, c1, c2, c3, c4⟩ := hc k b hb
      have HK := vl (List.all_eq_true.1 HO.out b (List.mem_of_getElem? hb))
      clear hc hb
      go_wp2_with fail
      refine (bad_impl b _).mono ?_
      rintro e w1 ⟨rfl, hb1⟩
      rw [HK.out]
      have HB1 := vl (HB.out.trans (hb1.mono HB.out.size))
      clear hb1
      go_wp2
      go_roundw
      case rel => exact ⟨k + 1, by omega, by go_num, HB1⟩
      case measure => simp [intOf]; omega
    · go_wp2
      go_ret
      exact ⟨rfl, HB.out⟩
set_option maxHeartbeats 1000000 in
theorem eidx_yes (A : Option Addr) (c : Nat) (L : List En) (w : World) (hn : L.length ≤ 1048576) (hp : Ens w A L) (ho : L.all enOk = false) :
    Calls Tryd.prog 93 #[.slice A L.length c, .func (Fn.func 56) #[] #[]] w (SomeE L.length w) := by
  have HP := vl hp
  have HO := vl ho
  clear hp ho
  go_enter Tryd.func93, Tryd.ntmps93
  go_wp2
  go_loopw [8] (fun i wr => ∃ k : Nat, k ≤ L.length ∧ i = .int .i64 k ∧ Veil (enTo L k = true) ∧ Veil (Below w.heap.size w wr)) (fun i _ => L.length - (intOf i).toNat)
  case atStart => exact ⟨0, by omega, rfl, vl rfl, vl (Below.refl _ _)⟩
  case round =>
    obtain ⟨k, hk, rfl, HA, HB⟩ := hrel
    by_cases hlt : k < L.length
    · obtain ⟨b, hb⟩ := get_of hlt
      obtain ⟨g, o, rfl, hc⟩ := (HP.out.below HB.out) (by omega)
      obtain ⟨c0, c1, c2, c3, c4⟩ := hc k b hb
      cases hkk : enOk b with
      | true =>
        have HK := vl hkk
        have HN := vl (show enTo L (k + 1) = true by rw [enTo_succ hb, HA.out, hkk]; rfl)
        clear hkk hc hb
        go_wp2_with fail
        refine (bad_impl b _).mono ?_
        rintro e w1 ⟨rfl, hb1⟩
        rw [HK.out]
        have HB1 := vl (HB.out.trans (hb1.mono HB.out.size))
        clear hb1
        go_wp2
        go_roundw
        case rel => exact ⟨k + 1, by omega, by go_num, HN, HB1⟩
        case measure => simp [intOf]; omega
      | false =>
        have HK := vl hkk
        clear hkk hc hb
        go_wp2_with fail
        refine (bad_impl b _).mono ?_
        rintro e w1 ⟨rfl, hb1⟩
        rw [HK.out]
        have HB1 := vl (HB.out.trans (hb1.mono HB.out.size))
        clear hb1
        go_wp2
        go_ret
        exact ⟨k, hlt, rfl, HB1.out⟩
    · obtain rfl : k = L.length := by omega
      exact absurd (((enTo_all L).symm.trans HA.out).symm.trans HO.out) (by decide)
theorem eany_impl (A : Option Addr) (c : Nat) (L : List En) (w : World) (hn : L.length ≤ 1048576) (hp : Ens w A L) (b : Bool) (ho : L.all enOk = b) :
    Calls Tryd.prog 57 #[.slice A L.length c, .func (Fn.func 56) #[] #[]] w (GivesB w (!b)) := by
  have HP := vl hp
  have HO := vl ho
  clear hp ho
  cases b with
  | true =>
    go_enter Tryd.func57, Tryd.ntmps57
    go_wp2_with fail
    refine (eidx_no _ _ L _ hn HP.out HO.out).mono ?_
    rintro e w1 ⟨rfl, hb1⟩
    have HB1 := vl hb1
    clear hb1
    go_wp2
    go_ret
    exact ⟨rfl, HB1.out⟩
  | false =>
    go_enter Tryd.func57, Tryd.ntmps57
    go_wp2_with fail
    refine (eidx_yes _ _ L _ hn HP.out HO.out).mono ?_
    rintro e w1 ⟨k, hk, rfl, hb1⟩
    have HB1 := vl hb1
    have k0 : (0 : Int) ≤ (k : Int) := by omega
    clear hb1
    go_wp2
    go_ret
    exact ⟨rfl, HB1.out⟩
set_option maxHeartbeats 1000000 in
theorem bkok_impl (A : Option Addr) (c : Nat) (L : List En) (w : World) (hn : L.length ≤ 1048576) (hp : Ens w A L) :
    Calls Tryd.prog 21 #[.slice A L.length c] w (GivesB w (bkOk L)) := by
  have HP := vl hp
  clear hp
  by_cases h8 : 2000 < L.length
  · have H1 := vl (bk_len h8)
    go_enter Tryd.func21, Tryd.ntmps21
    go_wp2
    go_ret
    exact ⟨ret_bool H1.out.symm, Below.refl _ _⟩
  have b8 : L.length ≤ 2000 := by omega
  have H1 := vl (bk_in b8)
  clear h8
  cases ha : L.all enOk
  all_goals
    have H2 := vl (H1.out.trans ha)
    have HA := vl ha
    clear ha
    go_enter Tryd.func21, Tryd.ntmps21
    go_wp2_with fail
    refine (eany_impl _ _ L _ hn HP.out _ HA.out).mono ?_
    rintro e w1 ⟨rfl, hb1⟩
    have HB1 := vl hb1
    clear hb1
    go_wp2
    go_ret
    exact ⟨ret_bool H2.out.symm, HB1.out⟩
end Go.Proofs.YtclofbknbfmmlaaDoor.C1
