/- Whether a reach is valid, its total and its space, of the program and of its model. -/
import Derived.Test.YtngmpimoebggdaaRch
namespace Go.Proofs.Ytngmpimoebggdaa.C1
open Go.ChangeShapes Go.WideShapes Go.ChangeAt Go.RowKit
set_option linter.unusedVariables false

def partsB (r : Rc) : Bool := decide (r.m ≤ 12) && allB r.Z r.m
theorem ok_cases (r : Rc) :
    (rOk r = false ∧ tabOk r.n r.X r.Y = false) ∨ (rOk r = false ∧ tabOk r.n r.X r.Y = true ∧ inB r.v 0 1000000000 = false) ∨
    (rOk r = false ∧ tabOk r.n r.X r.Y = true ∧ inB r.v 0 1000000000 = true ∧ partsB r = false) ∨
    (rOk r = decide (totZ r ≤ 1000000000) ∧ tabOk r.n r.X r.Y = true ∧ inB r.v 0 1000000000 = true ∧ partsB r = true) := by
  unfold rOk partsB
  cases tabOk r.n r.X r.Y <;> cases inB r.v 0 1000000000 <;> cases decide (r.m ≤ 12) <;> cases allB r.Z r.m <;> simp
theorem partsB_yes {r : Rc} (h : partsB r = true) : r.m ≤ 12 ∧ ∀ i, i < r.m → 0 ≤ r.Z i ∧ r.Z i ≤ 1000000000 := by
  unfold partsB at h
  rw [Bool.and_eq_true, decide_eq_true_eq, allB_iff] at h
  exact h
theorem partsB_len {r : Rc} (h : 12 < r.m) : partsB r = false := by unfold partsB; rw [show decide (r.m ≤ 12) = false from decide_eq_false (by omega)]; rfl
theorem partsB_bad {r : Rc} {k : Nat} (hk : k < r.m) (h : inB (r.Z k) 0 1000000000 = false) : partsB r = false := by unfold partsB; rw [allB_no hk h, Bool.and_false]
theorem partsB_all {r : Rc} (h : r.m ≤ 12) (h' : allB r.Z r.m = true) : partsB r = true := by unfold partsB; rw [h', show decide (r.m ≤ 12) = true from decide_eq_true h]; rfl
theorem tot_in {r : Rc} (h0 : 0 ≤ r.v) (h1 : r.v ≤ 1000000000) (hm : r.m ≤ 12) (hz : ∀ i, i < r.m → 0 ≤ r.Z i ∧ r.Z i ≤ 1000000000) : 0 ≤ totZ r ∧ totZ r ≤ 13000000000 := by
  have := sumZ_in h0 h1 hm hz (k := r.m) (by omega)
  unfold totZ
  omega

theorem basin_impl (a b c : Value) (w : World) (ha : a.cells.size = 1) (hb : b.cells.size = 1) (hc : c.cells.size = 1) (n c1 m c2 : Nat) (A D : Option Addr) (v : Int) (e1 : a = .slice A n c1) (e2 : b = .int .i64 v) (e3 : c = .slice D m c2) :
    Calls Try.prog 195 #[.agg #[a, b, c]] w fun e w' => e = .returned (.agg #[c, a, b]) ∧ Below w.heap.size w w' := by
  subst e1; subst e2; subst e3
  clear ha hb hc
  go_enter Try.func195, Try.ntmps195
  go_wp2
  exact bodyPost_ret (v := .agg #[.slice D m c2, .slice A n c1, .int .i64 v]) (by simp [results, Try.results195, go_sem]) rfl ⟨rfl, ((Below.refl _ _).alloc (Nat.le_refl _) _).alloc (by simp) _⟩
theorem way_impl (D : Option Addr) (m d : Nat) (Z : Nat → Int) (w : World) (hm : m ≤ 12) (hz : ∀ i, i < m → 0 ≤ Z i ∧ Z i ≤ 1000000000) (hd : Ints w D m Z) :
    Calls Try.prog 216 #[.slice D m d] w fun e w' => e = .returned (.int .i64 (sumZ Z m)) ∧ w = w' := by
  have HD := Lib.hid hd
  have HZ := Lib.hid hz
  clear hd hz
  go_enter Try.func216, Try.ntmps216
  go_wp2
  go_loop [3, 8] (fun n i => ∃ k : Nat, k ≤ m ∧ i = .int .i64 k ∧ n = .int .i64 (sumZ Z k)) (fun _ i => m - (intOf i).toNat)
  case atStart => exact ⟨0, by omega, rfl, rfl⟩
  case round =>
    obtain ⟨k, hk, rfl, rfl⟩ := hrel
    by_cases hlt : k < m
    · obtain ⟨g, o, rfl, hc⟩ := HD.out (by omega)
      have hck := hc k hlt
      have hb := sumZ_bd HZ.out k (by omega)
      obtain ⟨z0, z1⟩ := HZ.out k hlt
      have b0 := hb.1
      have b1 : sumZ Z k ≤ 12000000000 := by omega
      clear hc hb
      go_wp2
      go_round
      case rel => exact ⟨k + 1, by omega, by go_num, rfl⟩
      case measure => simp [intOf]; omega
    · obtain rfl : k = m := by omega
      go_wp2
      go_ret
      exact ⟨ret_int rfl, rfl⟩
theorem parts_impl (r : Rc) (D : Option Addr) (d : Nat) (w : World) (hm : r.m ≤ 1048576) (hd : Ints w D r.m r.Z) :
    Calls Try.prog 197 #[.slice D r.m d] w fun e w' => e = .returned (.bool (partsB r)) ∧ w = w' := by
  have HD := Lib.hid hd
  clear hd
  by_cases hlen : 12 < r.m
  · have H := Lib.hid (partsB_len hlen)
    go_enter Try.func197, Try.ntmps197
    go_wp2
    go_ret
    exact ⟨ret_bool H.out.symm, rfl⟩
  have hm' : r.m ≤ 12 := by omega
  clear hlen
  go_enter Try.func197, Try.ntmps197
  go_wp2
  go_loop [10] (fun i => ∃ k : Nat, k ≤ r.m ∧ i = .int .i64 k ∧ Hid (allB r.Z k = true)) (fun i => r.m - (intOf i).toNat)
  case atStart => exact ⟨0, by omega, rfl, Lib.hid (show allB r.Z 0 = true from rfl)⟩
  case round =>
    obtain ⟨k, hk, rfl, HA⟩ := hrel
    by_cases hlt : k < r.m
    · obtain ⟨g, o, rfl, hc⟩ := HD.out (by omega)
      have hck := hc k hlt
      clear hc
      cases hin : inB (r.Z k) 0 1000000000 with
      | true =>
        have HI := Lib.hid hin
        clear hin
        go_wp2_with (go_at_call 70; refine (amount_impl _ _).mono ?_; rintro e w' ⟨rfl, rfl⟩; rw [HI.out])
        go_round
        case rel => exact ⟨k + 1, by omega, by go_num, Lib.hid (show allB r.Z (k + 1) = true by rw [allB, HA.out, HI.out]; rfl)⟩
        case measure => simp [intOf]; omega
      | false =>
        have HI := Lib.hid hin
        clear hin
        go_wp2_with (go_at_call 70; refine (amount_impl _ _).mono ?_; rintro e w' ⟨rfl, rfl⟩; rw [HI.out])
        go_ret
        exact ⟨ret_bool (partsB_bad hlt HI.out).symm, rfl⟩
    · obtain rfl : k = r.m := by omega
      go_wp2
      go_ret
      exact ⟨ret_bool (partsB_all hm' HA.out).symm, rfl⟩
theorem total_impl (r : Rc) (A D : Option Addr) (c d : Nat) (w : World) (h0 : 0 ≤ r.v) (h1 : r.v ≤ 1000000000) (hm : r.m ≤ 12) (hz : ∀ i, i < r.m → 0 ≤ r.Z i ∧ r.Z i ≤ 1000000000) (hd : Ints w D r.m r.Z) :
    Calls Try.prog 198 #[.agg #[.slice D r.m d, .slice A r.n c, .int .i64 r.v]] w fun e w' => e = .returned (.int .i64 (totZ r)) ∧ Below w.heap.size w w' := by
  have HD := Lib.hid (hd.alloc (.cells #[.slice D r.m d, .slice A r.n c, .int .i64 r.v] 223))
  have HZ := Lib.hid hz
  obtain ⟨b0, b1⟩ := sumZ_in h0 h1 hm hz (k := r.m) (by omega)
  have hw : IntKind.i64.wrap (r.v + sumZ r.Z r.m) = r.v + sumZ r.Z r.m := IntWalk.i64_in _ (by omega)
  clear hd hz
  go_enter Try.func198, Try.ntmps198
  go_wp2
  go_quiet ((go_at_call 216; exact quiet_l (way_impl _ _ _ _ _ hm HZ.out HD.out)))
  go_wp2
  go_ret
  exact ⟨ret_int rfl, ((Below.refl _ _).alloc (Nat.le_refl _) _).drewN' _⟩
set_option maxHeartbeats 1000000 in
theorem ok_impl (r : Rc) (A D : Option Addr) (c d : Nat) (w : World) (hn : r.n ≤ 1048576) (hm : r.m ≤ 1048576) (hp : Pts w A r.n r.X r.Y) (hd : Ints w D r.m r.Z) :
    Calls Try.prog 156 #[.agg #[.slice A r.n c, .int .i64 r.v, .slice D r.m d]] w fun e w' => e = .returned (.bool (rOk r)) ∧ Below w.heap.size w w' := by
  have HP := Lib.hid hp
  have HD := Lib.hid hd
  have HC := Lib.hid (ok_cases r)
  clear hp hd
  go_enter Try.func156, Try.ntmps156
  go_wp2_with fail
  refine (basin_impl _ _ _ _ rfl rfl rfl _ _ _ _ _ _ _ rfl rfl rfl).mono ?_
  rintro e w1 ⟨rfl, hb1⟩
  have HB1 := Lib.hid (((Below.refl w.heap.size w).alloc (Nat.le_refl _) _).trans (hb1.mono (by simp)))
  clear hb1
  go_wp2_with fail
  refine (tab_impl _ _ _ _ hn _ _ ((HP.out.below HB1.out).alloc _)).mono ?_
  rintro e w2 ⟨rfl, hb2⟩
  have HB2 := Lib.hid ((HB1.out.alloc HB1.out.size _).trans (hb2.mono (by have := HB1.out.size; simp; omega)))
  obtain ⟨k2, f2⟩ := bcell hb2
  clear hb2 f2
  rcases HC.out with ⟨h, ht⟩ | ⟨h, ht, hv⟩ | ⟨h, ht, hv, hq⟩ | ⟨h, ht, hv, hq⟩
  · have H := Lib.hid h
    rw [ht]
    clear h ht
    go_wp2
    go_ret
    exact ⟨ret_bool H.out.symm, HB2.out⟩
  · have H := Lib.hid h
    have HV := Lib.hid hv
    rw [ht]
    clear h ht hv
    go_wp2_with (go_at_call 70; refine (amount_impl _ _).mono ?_; rintro e w' ⟨rfl, rfl⟩; rw [HV.out])
    go_ret
    exact ⟨ret_bool H.out.symm, HB2.out⟩
  · have H := Lib.hid h
    have HV := Lib.hid hv
    have HQ := Lib.hid hq
    rw [ht]
    clear h ht hv hq
    go_wp2_with (first
      | (go_at_call 70; refine (amount_impl _ _).mono ?_; rintro e w' ⟨rfl, rfl⟩; rw [HV.out])
      | (go_at_call 197; refine (parts_impl r _ _ _ hm (HD.out.below HB2.out)).mono ?_; rintro e w' ⟨rfl, rfl⟩; rw [HQ.out]))
    go_ret
    exact ⟨ret_bool H.out.symm, HB2.out⟩
  · have H := Lib.hid h
    have HV := Lib.hid hv
    have HQ := Lib.hid hq
    obtain ⟨v0, v1⟩ := inB_iff.1 hv
    obtain ⟨q0, q1⟩ := partsB_yes hq
    have HZ := Lib.hid q1
    rw [ht]
    clear h ht hv hq q1
    go_wp2_with (first
      | (go_at_call 70; refine (amount_impl _ _).mono ?_; rintro e w' ⟨rfl, rfl⟩; rw [HV.out])
      | (go_at_call 197; refine (parts_impl r _ _ _ hm (HD.out.below HB2.out)).mono ?_; rintro e w' ⟨rfl, rfl⟩; rw [HQ.out])
      | (go_at_call 198; refine (total_impl r _ _ _ _ _ v0 v1 q0 HZ.out (HD.out.below HB2.out)).mono ?_; rintro e w3 ⟨rfl, hb3⟩; have HB3 := Lib.hid (HB2.out.trans (hb3.mono HB2.out.size)); clear hb3))
    go_ret
    exact ⟨ret_bool H.out.symm, HB3.out⟩
end Go.Proofs.Ytngmpimoebggdaa.C1
