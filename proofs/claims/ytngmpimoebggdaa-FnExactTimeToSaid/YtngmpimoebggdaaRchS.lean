/- Whether a reach is valid, its total, its space and its level: of the model and of the program. -/
import Derived.Test.YtngmpimoebggdaaRchOk
namespace Go.Proofs.Ytngmpimoebggdaa.C1
open Go.ChangeShapes Go.WideShapes Go.ChangeAt Go.RowKit
set_option linter.unusedVariables false

set_option maxHeartbeats 1000000 in
theorem ok_spec (r : Rc) (A D : Option Addr) (c d : Nat) (w : World) (hn : r.n ≤ 1048576) (hm : r.m ≤ 1048576) (hp : Pts w A r.n r.X r.Y) (hd : Ints w D r.m r.Z) :
    Calls Try.prog 79 #[.agg #[.slice A r.n c, .int .i64 r.v, .slice D r.m d]] w fun e w' => e = .returned (.bool (rOk r)) ∧ Below w.heap.size w w' := by
  have HP := Lib.hid hp
  have HD := Lib.hid hd
  have HC := Lib.hid (ok_cases r)
  clear hp hd
  go_enter Try.func79, Try.ntmps79
  go_wp2_with fail
  refine (tab_spec _ _ _ _ hn _ _ (HP.out.alloc _)).mono ?_
  rintro e w1 ⟨rfl, hb1⟩
  have HB1 := Lib.hid (((Below.refl w.heap.size w).alloc (Nat.le_refl _) _).trans (hb1.mono (by simp)))
  obtain ⟨k1, f1⟩ := bcell hb1
  clear hb1 f1
  rcases HC.out with ⟨h, ht⟩ | ⟨h, ht, hv⟩ | ⟨h, ht, hv, hq⟩ | ⟨h, ht, hv, hq⟩
  · have H := Lib.hid h
    rw [ht]
    clear h ht
    go_wp2
    go_ret
    exact ⟨ret_bool H.out.symm, HB1.out⟩
  · have H := Lib.hid h
    have HV := Lib.hid hv
    rw [ht]
    clear h ht hv
    go_wp2_with (go_at_call 65; refine (in_spec _ _ _ _).mono ?_; rintro e w' ⟨rfl, rfl⟩; rw [HV.out])
    go_ret
    exact ⟨ret_bool H.out.symm, HB1.out⟩
  all_goals
    have H := Lib.hid h
    have HV := Lib.hid hv
    have HQ := Lib.hid hq
    rw [ht]
    clear h ht hq
    by_cases hlen : 12 < r.m
    · clear hv
      go_wp2_with (go_at_call 65; refine (in_spec _ _ _ _).mono ?_; rintro e w' ⟨rfl, rfl⟩; rw [HV.out])
      go_ret
      exact ⟨ret_bool (H.out.trans (by first | rfl | (have := partsB_len hlen; rw [HQ.out] at this; cases this))).symm, HB1.out⟩
    have hm' : r.m ≤ 12 := by omega
    clear hlen hv
    go_wp2_with (go_at_call 65; refine (in_spec _ _ _ _).mono ?_; rintro e w' ⟨rfl, rfl⟩; rw [HV.out])
    go_loop [3] (fun i => ∃ k : Nat, k ≤ r.m ∧ i = .int .i64 k ∧ Hid (allB r.Z k = true)) (fun i => r.m - (intOf i).toNat)
    case atStart => exact ⟨0, by omega, rfl, Lib.hid (show allB r.Z 0 = true from rfl)⟩
    case round =>
      obtain ⟨k, hk, rfl, HA⟩ := hrel
      by_cases hlt : k < r.m
      · obtain ⟨g, o, rfl, hc⟩ := HD.out.below HB1.out (by omega)
        have hck := hc k hlt
        clear hc
        cases hin : inB (r.Z k) 0 1000000000 with
        | true =>
          have HI := Lib.hid hin
          clear hin
          go_wp2_with (go_at_call 65; refine (in_spec _ _ _ _).mono ?_; rintro e w' ⟨rfl, rfl⟩; rw [HI.out])
          go_round
          case rel => exact ⟨k + 1, by omega, by go_num, Lib.hid (show allB r.Z (k + 1) = true by rw [allB, HA.out, HI.out]; rfl)⟩
          case measure => simp [intOf]; omega
        | false =>
          have HI := Lib.hid hin
          clear hin
          go_wp2_with (go_at_call 65; refine (in_spec _ _ _ _).mono ?_; rintro e w' ⟨rfl, rfl⟩; rw [HI.out])
          go_ret
          exact ⟨ret_bool (H.out.trans (by first | rfl | (have := partsB_bad hlt HI.out; rw [HQ.out] at this; cases this))).symm, HB1.out⟩
      · obtain rfl : k = r.m := by omega
        first
          | exact absurd ((partsB_all hm' HA.out).symm.trans HQ.out) (by decide)
          | (obtain ⟨v0, v1⟩ := inB_iff.1 HV.out
             have HZ := Lib.hid (allB_iff.1 HA.out)
             go_wp2_with (go_at_call 153; refine (sum_spec r _ _ _ _ _ v0 v1 hm' HZ.out (HD.out.below HB1.out)).mono ?_; rintro e w3 ⟨rfl, hb3⟩; have HB3 := Lib.hid (HB1.out.trans (hb3.mono HB1.out.size)); clear hb3)
             go_ret
             exact ⟨ret_bool H.out.symm, HB3.out⟩)
theorem inRange {r : Rc} (h : rOk r = true) : 0 ≤ r.v ∧ r.v ≤ 1000000000 ∧ r.m ≤ 12 ∧ Hid (∀ i, i < r.m → 0 ≤ r.Z i ∧ r.Z i ≤ 1000000000) ∧ 0 ≤ totZ r ∧ totZ r ≤ 1000000000 := by
  have H := rOk_iff.1 h
  exact ⟨H.v0, H.v1, H.m, Lib.hid H.z, H.t0.2, H.t1⟩
theorem level_no {r : Rc} (h : rOk r = false) : levelR r = 0 := by unfold levelR; rw [h]; rfl
theorem level_at {r : Rc} (h : rOk r = true) (hb : placeB r.n r.X r.Y r.v = true) : levelR r = placeZ r.n r.X r.Y r.v := by unfold levelR; rw [if_pos h, if_pos hb]
theorem level_last {r : Rc} (h : rOk r = true) (hb : placeB r.n r.X r.Y r.v = false) : levelR r = r.X (r.n - 1) := by unfold levelR; rw [if_pos h, hb]; rfl
set_option maxHeartbeats 1000000 in
theorem level_spec (r : Rc) (A D : Option Addr) (c d : Nat) (w : World) (hn : r.n ≤ 1048576) (hm : r.m ≤ 1048576) (hp : Pts w A r.n r.X r.Y) (hd : Ints w D r.m r.Z) :
    Calls Try.prog 154 #[.agg #[.slice A r.n c, .int .i64 r.v, .slice D r.m d]] w fun e w' => e = .returned (.int .i64 (levelR r)) ∧ Below w.heap.size w w' := by
  have HP := Lib.hid hp
  have HD := Lib.hid hd
  clear hp hd
  go_enter Try.func154, Try.ntmps154
  go_wp2_with fail
  refine (ok_spec r _ _ _ _ _ hn hm (HP.out.alloc _) (HD.out.alloc _)).mono ?_
  rintro e w1 ⟨rfl, hb1⟩
  have HB1 := Lib.hid (((Below.refl w.heap.size w).alloc (Nat.le_refl _) _).trans (hb1.mono (by simp)))
  have hz1 : w.heap.size < w1.heap.size := by have := hb1.size; simp at this; omega
  obtain ⟨k1, f1⟩ := bcell hb1
  clear hb1 f1
  cases h : rOk r with
  | false =>
    have H := Lib.hid (level_no h)
    clear h
    go_wp2
    go_ret
    exact ⟨ret_int H.out.symm, HB1.out⟩
  | true =>
    have h2 := (tabP_of (rOk_iff.1 h).tab).two
    go_wp2_with fail
    refine (place_spec _ _ _ _ _ hn _ _ (HP.out.below HB1.out)).mono ?_
    rintro e w2 ⟨rfl, hb2⟩
    have HB2 := Lib.hid (HB1.out.trans (hb2.mono HB1.out.size))
    obtain ⟨k2, f2⟩ := bcell hb2
    clear hb2 f2
    cases hb : placeB r.n r.X r.Y r.v with
    | true =>
      have H := Lib.hid (level_at h hb)
      clear h hb
      go_wp2
      go_ret
      exact ⟨ret_int H.out.symm, HB2.out⟩
    | false =>
      have H := Lib.hid (level_last h hb)
      obtain ⟨g, o, rfl, hc⟩ := HP.out (by omega)
      have hx := (hc (r.n - 1) (by omega)).1
      have hx2 := (HB2.out.cell (p := ⟨g, o + (r.n - 1) * 2, none⟩) (World.block_lt_of_cell? _ _ hx)).trans hx
      have a1 : IntKind.i64.wrap ((r.n : Int) - 1) = (r.n : Int) - 1 := IntWalk.i64_in _ (by omega)
      have a3 : ((r.n : Int) - 1).toNat = r.n - 1 := by omega
      clear h hb hc hx
      go_wp2
      go_ret
      exact ⟨ret_int H.out.symm, HB2.out⟩
set_option maxHeartbeats 1000000 in
theorem level_impl (r : Rc) (A D : Option Addr) (c d : Nat) (w : World) (hn : r.n ≤ 1048576) (hm : r.m ≤ 1048576) (hp : Pts w A r.n r.X r.Y) (hd : Ints w D r.m r.Z) :
    Calls Try.prog 199 #[.agg #[.slice A r.n c, .int .i64 r.v, .slice D r.m d]] w fun e w' => e = .returned (.int .i64 (levelR r)) ∧ Below w.heap.size w w' := by
  have HP := Lib.hid hp
  have HD := Lib.hid hd
  clear hp hd
  go_enter Try.func199, Try.ntmps199
  go_wp2_with fail
  refine (ok_impl r _ _ _ _ _ hn hm (HP.out.alloc _) (HD.out.alloc _)).mono ?_
  rintro e w1 ⟨rfl, hb1⟩
  have HB1 := Lib.hid (((Below.refl w.heap.size w).alloc (Nat.le_refl _) _).trans (hb1.mono (by simp)))
  have hz1 : w.heap.size < w1.heap.size := by have := hb1.size; simp at this; omega
  obtain ⟨k1, f1⟩ := bcell hb1
  clear hb1 f1
  cases h : rOk r with
  | false =>
    have H := Lib.hid (level_no h)
    clear h
    go_wp2
    go_ret
    exact ⟨ret_int H.out.symm, HB1.out⟩
  | true =>
    have h2 := (tabP_of (rOk_iff.1 h).tab).two
    go_wp2_with fail
    refine (place_impl _ _ _ _ _ hn _ _ (HP.out.below HB1.out)).mono ?_
    rintro e w2 ⟨rfl, hb2⟩
    have HB2 := Lib.hid (HB1.out.trans (hb2.mono HB1.out.size))
    obtain ⟨k2, f2⟩ := bcell hb2
    clear hb2 f2
    cases hb : placeB r.n r.X r.Y r.v with
    | true =>
      have H := Lib.hid (level_at h hb)
      clear h hb
      go_wp2
      go_ret
      exact ⟨ret_int H.out.symm, HB2.out⟩
    | false =>
      have H := Lib.hid (level_last h hb)
      obtain ⟨g, o, rfl, hc⟩ := HP.out (by omega)
      have hx := (hc (r.n - 1) (by omega)).1
      have hx2 := (HB2.out.cell (p := ⟨g, o + (r.n - 1) * 2, none⟩) (World.block_lt_of_cell? _ _ hx)).trans hx
      have a1 : IntKind.i64.wrap ((r.n : Int) - 1) = (r.n : Int) - 1 := IntWalk.i64_in _ (by omega)
      have a3 : ((r.n : Int) - 1).toNat = r.n - 1 := by omega
      clear h hb hc hx
      go_wp2
      go_ret
      exact ⟨ret_int H.out.symm, HB2.out⟩
end Go.Proofs.Ytngmpimoebggdaa.C1
