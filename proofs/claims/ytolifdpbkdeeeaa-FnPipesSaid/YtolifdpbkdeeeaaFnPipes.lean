/-
  For every input the Go function 'laws.FnPipes' returns true, and each argument reads afterwards as it read before. No further condition.
-/
import Derived.Test.YtolifdpbkdeeeaaDRiv
import Derived.Test.YtolifdpbkdeeeaaLift
import Derived.Test.YtolifdpbkdeeeaaOpen
import Derived.ChangeMaps5
namespace Go.Proofs.Ytolifdpbkdeeeaa.fnPipes
open Go.Proofs.Ytolifdpbkdeeeaa.C1 Go.Proofs.Ytolifdpbkdeeeaa.Lift Go.Proofs.Ytolifdpbkdeeeaa.Opened
open Go.ChangeShapes Go.WideShapes Go.ChangeAt Go.RowKit Go.ChangeMaps
set_option linter.unusedVariables false

theorem flow_zeros {r : Rc} {k : Nat} (hok : rOk r = true) (h : ∀ i, i < r.m → r.m ≤ i + k → r.Z i = 0) : ∀ i, i < (flowR r).m → (flowR r).m ≤ i + (k + 1) → (flowR r).Z i = 0 := by
  have e : flowR r = flowC r := by unfold flowR; rw [if_pos hok]
  intro i hi h1
  rw [(flowR_n r).2] at hi h1
  rw [e]
  have e2 : flowC r = { r with v := r.v + r.Z 0, Z := fun i => if i = r.m - 1 then 0 else r.Z (i + 1) } := by unfold flowC; rw [if_neg (by omega)]
  rw [e2]
  show (if i = r.m - 1 then (0 : Int) else r.Z (i + 1)) = 0
  by_cases hh : i = r.m - 1
  · rw [if_pos hh]
  · rw [if_neg hh]; exact h (i + 1) (by omega) (by omega)
theorem flow_tot {r : Rc} (hok : rOk r = true) : totZ (flowR r) = totZ r := by unfold flowR; rw [if_pos hok]; exact flowC_tot r
theorem sum_zeros {Z : Nat → Int} {m : Nat} (h : ∀ i, i < m → Z i = 0) : sumZ Z m = 0 := by
  rw [sumZ_same (V := fun _ => 0) h]
  clear h
  induction m with
  | zero => rfl
  | succ m ih => show sumZ (fun _ => (0 : Int)) m + 0 = 0; omega
theorem river_ok {n : Nat} {R : Nat → Rc} (h2 : 2 ≤ n) (h4 : n ≤ 4) (h : ∀ i, i < n → RD (R i) 101000) : riverB n R = true ∧ totZ (R 0) ≤ rivT n R := by
  have ho : okAll R n = true := okAll_iff.2 fun i hi => (h i hi).ok
  have hs : ∀ k, k ≤ n → sumT R k ≤ k * 101000 := by
    intro k
    induction k with
    | zero => intro _; simp [sumT]
    | succ k ih => intro hk; have := ih (by omega); have := (h k (by omega)).t; unfold sumT; omega
  have h1 := hs n (Nat.le_refl _)
  have hb : riverB n R = true := by rw [riv_ok (inB_yes (by omega) (by omega)) ho]; exact decide_eq_true (by omega)
  refine ⟨hb, ?_⟩
  unfold rivT
  rw [if_pos hb]
  have := sumT_mono ho (k := 1) (by omega)
  have e : sumT R 1 = totZ (R 0) := by show 0 + totZ (R 0) = _; omega
  omega
theorem flow_d' {r : Rc} {M : Int} (h : RD r M) : RD (flowR r) M := flow_d h
theorem Kept1.below {w wr w' : World} {b : Nat} {r : Rc} (h : Kept1 w wr b r) (hb : Below wr.heap.size wr w') : Kept1 w w' b r := by
  obtain ⟨A, c, D, d, g1, g2, B, L, h1, h2, h3, h4, h5, h6⟩ := h
  exact ⟨A, c, D, d, g1, g2, B, L, h1.below hb, h2, h3.below hb, h4, Nat.le_trans h5 hb.size, h6⟩
set_option maxRecDepth 100000 in
set_option maxHeartbeats 4000000 in
theorem walk (A : Option Addr) (n cap : Nat) (f : Nat → Int) (w : World) (hn : n ≤ 9223372036854775807) (hs : SrcB w A n f) :
    Calls Try.prog 4 #[.slice A n cap] w fun e w' => e = .returned (.bool true) ∧ Below w.heap.size w w' := by
  by_cases hbig : 1048576 < n
  · go_enter Try.func4, Try.ntmps4
    go_wp2_with (go_at_call 18; refine (big_yes _ _ _ _ hbig).mono ?_; rintro e w' ⟨rfl, rfl⟩)
    go_ret
    exact ⟨rfl, Below.refl _ _⟩
  have hl : n ≤ 1048576 := by omega
  have HS := vl hs
  clear hs hbig
  go_enter Try.func4, Try.ntmps4
  go_wp2_with fail
  refine (big_no _ _ _ _ hl).mono ?_; rintro e w' ⟨rfl, rfl⟩
  go_wp2_with fail
  refine (drawreaches _ _ _ f _ hl HS.out).mono ?_
  rintro e w2 ⟨g, N, cp, R, rfl, n2, n4, hr, hrd, hb2⟩
  have HB2 := vl hb2
  have HR := vl hr
  have HRD := vl hrd
  obtain ⟨g', o, e0, hc⟩ := hr (by omega)
  injection e0 with e0
  injection e0 with e1 e2 e3
  subst e1; subst e2
  obtain ⟨A0, D0, c0, d0, x0, x1, x2, hmd, hp0, hi0⟩ := hc 0 (by omega)
  rw [Nat.zero_mul, Nat.add_zero] at x0 x1 x2
  have hd0 := hrd 0 (by omega)
  have HD0 := vl hd0
  have hgl : g < w2.heap.size := cell_lt x0
  have hn0 : (R 0).n ≤ 20 := hd0.n
  have hm0 : (R 0).m ≤ 3 := hd0.m
  have HP0 := vl hp0.out
  have HI0 := vl hi0.out
  obtain ⟨T, hT⟩ : ∃ T, totZ (R 0) = T := ⟨_, rfl⟩
  have hT0 : 0 ≤ T := by rw [← hT]; exact (rOk_iff.1 hd0.ok).t0.2
  have hT1 : T ≤ 101000 := by rw [← hT]; exact hd0.t
  have HTT := vl ((totR_of hd0.ok).trans hT)
  have HT := vl hT
  have hws : w.heap.size ≤ w2.heap.size := hb2.size
  clear hr hrd hc hd0 hp0 hi0 hT hb2 e3
  have HXa := vl (Box.new w2 (.slice A0 (R 0).n c0) (.int .i64 (R 0).v) (.slice D0 (R 0).m d0) 29)
  have HBa := vl ((Below.refl w2.heap.size w2).alloc (Nat.le_refl _) (.cells #[.slice A0 (R 0).n c0, .int .i64 (R 0).v, .slice D0 (R 0).m d0] 29))
  go_wp2_with fail
  refine (tot_impl (R 0) A0 D0 c0 d0 _ (by omega) (by omega) (HP0.out.alloc _) (HI0.out.alloc _)).mono ?_
  rintro e w3 ⟨rfl, hb3⟩
  rw [HTT.out]
  have HX3 := vl (HXa.out.below hb3)
  have HB3 := vl (HBa.out.trans (hb3.mono (by simp)))
  clear hb3 x0 x1 x2
  have hbl := HX3.out.lt
  obtain ⟨x0, x1, x2⟩ := HX3.out.at
  go_wp2_with fail
  refine (send_impl (R 0) A0 D0 c0 d0 700 _ (by omega) (by omega) (HP0.out.below HB3.out) (HI0.out.below HB3.out)).mono ?_
  rintro e w4 ⟨⟨A4, c4, D4, d4, g3, g4, rfl, hcd4, ho4⟩, hb4⟩
  have hsd : RD (sendR (R 0) 700) 101700 ∧ totZ (sendR (R 0) 700) = T + 700 := by
    have h := HD0.out
    have hsp : (700 : Int) ≤ spaceR (R 0) := by rw [spaceR_of h.ok]; have := h.t; omega
    have e : sendR (R 0) 700 = addL (R 0) 700 := sendR_yes (by unfold sendB; rw [h.ok, inB_yes (by decide) hsp]; rfl)
    rw [e]
    exact ⟨⟨addL_ok h.ok (by decide) hsp, by rw [(addL_n (R 0) 700).1]; exact h.n, by rw [(addL_n (R 0) 700).2]; exact h.m, by rw [addL_tot]; have := h.t; omega⟩, by rw [addL_tot, HT.out]⟩
  have hsm : (sendR (R 0) 700).m = (R 0).m := (sendR_n (R 0) 700).2
  have HSD := vl hsd
  have HX4 := vl (HX3.out.below hb4)
  have HO4 := vl ho4
  have HB4 := vl (HB3.out.trans (hb4.mono HB3.out.size))
  have HSM := vl hsm
  have hs4 := hb4.size
  clear hb4 ho4 x0 x1 x2 hsd hsm HXa HBa
  obtain ⟨x0, x1, x2⟩ := HX4.out.at
  obtain ⟨z0, z1, z2⟩ := HX4.out.free
  have HK4 := vl (kept_fill (w := w) (n := (sendR (R 0) 700).n) (m := (sendR (R 0) 700).m) (c := c4) HX4.out HO4.out (by omega) (Nat.le_refl _) (Or.inl (by omega)) hcd4 rfl rfl rfl)
  have hb2' : ∀ j : Nat, w2.heap.size ≤ (⟨w2.heap.size, j, none⟩ : Addr).block := fun j => Nat.le_refl _
  have HB5 := vl (((HB4.out.setCell (hb2' 0) (.slice A4 (sendR (R 0) 700).n c4)).setCell (hb2' 1) (.int .i64 (sendR (R 0) 700).v)).setCell (hb2' 2) (.slice D4 (sendR (R 0) 700).m d4))
  clear hb2'
  go_wp2
  clear x0 x1 x2 z0 z1 z2
  go_loopw [7] (fun s wr => ∃ (k : Nat) (r : Rc), s = .int .i64 k ∧ k ≤ (R 0).m ∧ r.m = (R 0).m ∧ Veil (RD r 101700 ∧ totZ r = T + 700) ∧ Veil (∀ i, i < r.m → r.m ≤ i + k → r.Z i = 0) ∧ Veil (Kept1 w wr w2.heap.size r) ∧ Veil (Below w2.heap.size w2 wr)) (fun s _ => (R 0).m - (intOf s).toNat)
  case atStart => exact ⟨0, sendR (R 0) 700, rfl, by omega, HSM.out, HSD, vl (fun i h1 h2 => absurd h2 (by omega)), HK4, HB5⟩
  case round =>
    obtain ⟨k, r, rfl, hk, hrm, HQ, HZ, HK, HB⟩ := hrel
    obtain ⟨A5, c5, D5, d5, h1, h2, B, L, hbx, hcd, ho, hB, hL, hbB⟩ := HK.out
    have HBX := vl hbx
    have HO := vl ho
    have hrn : r.n ≤ 20 := HQ.out.1.n
    have hrm3 : r.m ≤ 3 := HQ.out.1.m
    have hblr := hbx.lt
    have HRM := vl hrm
    obtain ⟨x0, x1, x2⟩ := hbx.at
    clear hbx ho hrm
    by_cases hlt : k < (R 0).m
    · go_wp2_with fail
      refine (flow_impl r _ _ _ _ _ (by omega) (by omega) HO.out.pts HO.out.ints).mono ?_
      rintro e w6 ⟨⟨A6, c6, D6, d6, h3, h4, rfl, hcd6, ho6⟩, hb6⟩
      have HX6 := vl (HBX.out.below hb6)
      have HK6 := vl (kept_fill (w := w) (n := (flowR r).n) (m := (flowR r).m) (c := c6) HX6.out ho6 (by omega) (Nat.le_refl _) (Or.inl (by omega)) hcd6 rfl rfl rfl)
      have hb2' : ∀ j : Nat, w2.heap.size ≤ (⟨w2.heap.size, j, none⟩ : Addr).block := fun j => Nat.le_refl _
      have HB6 := vl ((((HB.out.trans (hb6.mono HB.out.size)).setCell (hb2' 0) (.slice A6 (flowR r).n c6)).setCell (hb2' 1) (.int .i64 (flowR r).v)).setCell (hb2' 2) (.slice D6 (flowR r).m d6))
      obtain ⟨u0, u1, u2⟩ := HX6.out.at
      obtain ⟨z0, z1, z2⟩ := HX6.out.free
      have hf1 := flow_d HQ.out.1
      have hfn := flowR_n r
      have HQ6 : Veil (RD (flowR r) 101700 ∧ totZ (flowR r) = T + 700) := vl ⟨hf1, (flow_tot HQ.out.1.ok).trans HQ.out.2⟩
      have HZ6 := vl (flow_zeros HQ.out.1.ok HZ.out)
      have hfn1 : (flowR r).n ≤ 1048576 := by rw [hfn.1]; omega
      have hfm1 : (flowR r).m ≤ 1048576 := by rw [hfn.2]; omega
      have HFM := vl (hfn.2.trans HRM.out)
      have HTF := vl ((totR_of hf1.ok).trans HQ6.out.2)
      have HOF := vl hf1.ok
      have HO7 := vl (ho6.fill (g := w2.heap.size) (u0 := .slice A6 (flowR r).n c6) (u1 := .int .i64 (flowR r).v) (u2 := .slice D6 (flowR r).m d6) (Or.inl hblr))
      have HBX7 := vl (Box.fill HX6.out (u0 := .slice A6 (flowR r).n c6) (u1 := .int .i64 (flowR r).v) (u2 := .slice D6 (flowR r).m d6))
      clear hb2' hb6 ho6 x0 x1 x2 hf1 hfn HBX HO HK HQ HZ HB
      go_wp2_with fail
      refine (tot_impl (flowR r) _ _ _ _ _ hfn1 hfm1 HO7.out.pts HO7.out.ints).mono ?_
      rintro e w7 ⟨rfl, hb7⟩
      rw [HTF.out]
      have HX7 := vl (HBX7.out.below hb7)
      have HB7 := vl (HB6.out.trans (hb7.mono HB6.out.size))
      have HK7 := vl (Kept1.below (w := w) (b := w2.heap.size) (r := flowR r) HK6.out hb7)
      have HP7 := vl (HO7.out.pts.below hb7)
      have HI7 := vl (HO7.out.ints.below hb7)
      clear hb7 u0 u1 u2 z0 z1 z2
      obtain ⟨u0, u1, u2⟩ := HX7.out.at
      go_wp2_with fail
      refine (ok_impl (flowR r) _ _ _ _ _ hfn1 hfm1 HP7.out HI7.out).mono ?_
      rintro e w8 ⟨rfl, hb8⟩
      rw [HOF.out]
      have HB8 := vl (HB7.out.trans (hb8.mono HB7.out.size))
      have HK8 := vl (Kept1.below (w := w) (b := w2.heap.size) (r := flowR r) HK7.out hb8)
      clear hb8 u0 u1 u2
      go_wp2
      go_roundw
      case rel => exact ⟨k + 1, flowR r, by go_num, by omega, HFM.out, HQ6, HZ6, HK8, HB8⟩
      case measure => simp [intOf]; omega
    · obtain rfl : k = (R 0).m := by omega
      have hz0 : ∀ i, i < r.m → r.Z i = 0 := fun i hi => HZ.out i hi (by have := HRM.out; omega)
      have hs0 := sum_zeros hz0
      have hv : r.v = T + 700 := by have := HQ.out.2; unfold totZ at this; omega
      have HZ0 := vl hz0
      have HV := vl hv
      clear hz0 hs0 hv
      go_wp2_with fail
      go_loop [8, 9] (fun s i => ∃ j : Nat, j ≤ r.m ∧ i = .int .i64 j ∧ s = .int .i64 0) (fun _ i => r.m - (intOf i).toNat)
      case atStart => exact ⟨0, by omega, rfl, rfl⟩
      case round =>
        obtain ⟨j, hj, rfl, rfl⟩ := hrel
        by_cases hlt2 : j < r.m
        · obtain ⟨g8, o8, rfl, hc8⟩ := HO.out.ints (by omega)
          have hv8 := hc8 j hlt2
          rw [HZ0.out j hlt2] at hv8
          clear hc8
          go_wp2
          go_round
          case rel => exact ⟨j + 1, by omega, by go_num, rfl⟩
          case measure => simp [intOf]; omega
        · obtain rfl : j = r.m := by omega
          have hv := HV.out
          obtain ⟨hrb, hrt⟩ := river_ok n2 n4 HRD.out
          rw [HT.out] at hrt
          have HRB := vl hrb
          have hSm : Small N R := fun i hi => ⟨by have := (HRD.out i hi).n; omega, by have := (HRD.out i hi).m; omega⟩
          have HSm := vl hSm
          clear hSm hrb
          go_wp2_with fail
          refine (rivt_impl _ N cp R _ (by omega) HSm.out (HR.out.below HB.out)).mono ?_
          rintro e w9 ⟨rfl, hb9⟩
          have HB9 := vl (HB.out.trans (hb9.mono HB.out.size))
          clear hb9 x0 x1 x2
          go_wp2_with fail
          refine (riv_impl _ N cp R _ (by omega) HSm.out (HR.out.below HB9.out)).mono ?_
          rintro e w10 ⟨rfl, hb10⟩
          rw [HRB.out]
          have HB10 := vl (HB9.out.trans (hb10.mono HB9.out.size))
          clear hb10
          go_wp2
          go_ret
          exact ⟨rfl, HB2.out.trans (HB10.out.mono HB2.out.size)⟩

theorem parOk : Try.f4.params.toList.all (fun t => Try.prog.readableRec t && decide (t < Try.prog.types.size)) = true := by kernel_rfl
set_option maxRecDepth 100000 in
theorem lifted (os : Os) (started : os.Started) (H : Type) (enc : TypeId × Value → H) :
    ReturnsInHanded {} Try.checked os 4 .any (Rows.fnPipesSpec.pre6 enc Try.prog Try.f4 Rows.fnPipesRow.domain false) (Rows.fnPipesSpec.post enc Try.prog Try.f4 false true false false) := by
  refine law_lifted (C := Try.checked) own started (by kernel_rfl) Try.func4 laid (fun t ht => by
      have h := List.all_eq_true.1 parOk t ht
      rw [Bool.and_eq_true] at h
      exact ⟨h.1, of_decide_eq_true h.2⟩) rfl Try.underlying4 rfl
    (fun xs hx => by
      rw [show Try.f4.params.toList.length = 1 from by rw [Try.params4]; rfl] at hx
      match xs, hx with
      | [d0], _ => rfl)
    (ChangeSpec.witness6 (enc := enc) (C := Try.checked) false ⟨#[], #[.slice none 0 0], []⟩ 8 (by kernel_rfl) (by kernel_rfl) (by kernel_rfl) (by kernel_rfl)) ?_
  intro W base args ds p hval0 hA0 _
  have hval : ∀ (j : Nat) t v, Try.f4.params[j]? = some t → args[j]? = some v → Value.okWide Try.prog W .any base t v := hval0
  have hA : DataW.TrodAll enc Try.prog W 0 (fun _ => true) true Try.f4.params.toList args.toList ds p := hA0
  clear hA0 hval0
  rw [Try.params4] at hA hval
  obtain ⟨v0, vs0, d0, ds0, p0, q0, hargs, rfl, rfl, h0, r0⟩ := trodAll_cons hA
  obtain ⟨rfl, rfl, rfl⟩ := trodAll_nil r0
  obtain rfl : args = #[v0] := by cases args; simp_all
  obtain ⟨A0, n0, c0, f0, rfl, x0, y0⟩ := slice_bytes Try.underlying22 (by kernel_rfl) Try.underlying5 (hval 0 22 _ rfl rfl) h0
  exact walk A0 n0 c0 f0 W x0 y0

/-- The statement. -/
theorem proved : Rows.FnPipesSaid :=
  OpenClaim.holds_of_wide 4 Try.f4 rfl rfl rfl rfl rfl rfl rfl ⟨rfl, rfl, rfl, rfl, rfl⟩ rfl rfl rfl rfl rfl (by kernel_rfl) Try.func4 (by kernel_rfl)
    (of_decide_eq_true (by kernel_rfl)) (by unfold Func.isWrapper; first | (rw [if_pos (by decide +kernel)]; kernel_rfl) | (rw [if_neg (by decide +kernel)]; exact ⟨rfl, rfl⟩))
    (fun os started H enc _ => lifted os started H enc)
#print axioms proved
end Go.Proofs.Ytolifdpbkdeeeaa.fnPipes
