/-
  For every input the Go function 'laws.FnGates' returns true, and each argument reads afterwards as it read before. No further condition.
-/
import Derived.Test.YtolifdpbkdeeeaaDWr
import Derived.Test.YtolifdpbkdeeeaaLift
import Derived.Test.YtolifdpbkdeeeaaOpen
import Derived.ChangeMaps5
namespace Go.Proofs.Ytolifdpbkdeeeaa.fnGates
open Go.Proofs.Ytolifdpbkdeeeaa.C1 Go.Proofs.Ytolifdpbkdeeeaa.Lift Go.Proofs.Ytolifdpbkdeeeaa.Opened
open Go.ChangeShapes Go.WideShapes Go.ChangeAt Go.RowKit Go.ChangeMaps
set_option linter.unusedVariables false

theorem mul_bd (a b : Int) (h0 : 0 ≤ a) (h1 : a ≤ 255) (h2 : 0 ≤ b) (h3 : b ≤ 255) : 0 ≤ a * b ∧ a * b ≤ 65025 := by
  have := Int.mul_le_mul h1 h3 h2 (by omega)
  exact ⟨Int.mul_nonneg h0 h2, by omega⟩
def WBox (wx : World) (b : Nat) (R : Wr) : Prop := Box5 wx b (.int .i64 R.g) (.int .i64 R.o) (.int .i64 R.s) (.int .i64 R.k) (.int .i64 R.w) 48
theorem open_facts {W : Wr} {up down flow : Int} (h : flowB W up down = true) : ∃ nn N : Nat, openZ W up down flow = (nn : Int) ∧ (N : Int) = 10 * W.g ∧ nn ≤ N ∧ (∀ i : Nat, i < nn → openFlow W up down (i : Int) < flow) ∧ (nn < N → flow ≤ openFlow W up down (nn : Int)) := by
  have P := (flowB_iff.1 h).1
  obtain ⟨_, b, c, e⟩ := leastF_spec (openFlow W up down) flow (10 * W.g).toNat 0
  have g0 := P.g0
  exact ⟨openN W up down flow, (10 * W.g).toNat, by unfold openZ; rw [if_pos h], by omega, by unfold openN; omega, fun i hi => c i (Nat.zero_le _) hi, fun hi => e (by unfold openN at hi; omega)⟩
set_option maxRecDepth 100000 in
set_option maxHeartbeats 4000000 in
theorem walk (A : Option Addr) (n cap : Nat) (f : Nat → Int) (w : World) (hn : n ≤ 9223372036854775807) (hs : SrcB w A n f) :
    Calls Try.prog 6 #[.slice A n cap] w fun e w' => e = .returned (.bool true) ∧ Below w.heap.size w w' := by
  by_cases hbig : 1048576 < n
  · go_enter Try.func6, Try.ntmps6
    go_wp2_with (go_at_call 18; refine (big_yes _ _ _ _ hbig).mono ?_; rintro e w' ⟨rfl, rfl⟩)
    go_ret
    exact ⟨rfl, Below.refl _ _⟩
  have hl : n ≤ 1048576 := by omega
  have HS := Lib.hid hs
  clear hs hbig
  go_enter Try.func6, Try.ntmps6
  go_wp2_with fail
  refine (big_no _ _ _ _ hl).mono ?_; rintro e w' ⟨rfl, rfl⟩
  go_wp2_with fail
  refine (drawweir _ _ _ f _ hl HS.out).mono ?_
  rintro e w1 ⟨W, rfl, hW, hb1⟩
  have HS1 := Lib.hid ((HS.out.below hb1).below ((Below.refl _ _).alloc (Nat.le_refl _) (.cells #[.int .i64 W.g, .int .i64 W.o, .int .i64 W.s, .int .i64 W.k, .int .i64 W.w] 48)))
  have HX := Lib.hid (Box5.new w1 (.int .i64 W.g) (.int .i64 W.o) (.int .i64 W.s) (.int .i64 W.k) (.int .i64 W.w) 48)
  have HB := Lib.hid (hb1.alloc hb1.size (.cells #[.int .i64 W.g, .int .i64 W.o, .int .i64 W.s, .int .i64 W.k, .int .i64 W.w] 48))
  have g0 := hW.ok.g0; have g1 := hW.g
  have HW := Lib.hid hW
  have u0 := atZ_bd HS.out 0; have u1 := atZ_bd HS.out 1; have u2 := atZ_bd HS.out 2; have u3 := atZ_bd HS.out 3
  obtain ⟨m0, m1⟩ := mul_bd _ _ u2.1 u2.2 u3.1 u3.2
  obtain ⟨u00, u01⟩ := u0
  obtain ⟨u10, u11⟩ := u1
  have hok : wOk W = true := wOk_iff.2 hW.ok
  clear hb1 hW
  go_wp2_with (go_at_call 20; refine (at_law _ _ _ _ _ f hl (by omega) (by omega) HS1.out).mono ?_; rintro e w' ⟨rfl, rfl⟩)
  generalize atZ n f 0 = up at u00 u01 ⊢
  generalize atZ n f 1 = down at u10 u11 ⊢
  generalize atZ n f 2 * atZ n f 3 = flow at m0 m1 ⊢
  clear u2 u3
  generalize hW1 : w1.alloc (.cells #[.int .i64 W.g, .int .i64 W.o, .int .i64 W.s, .int .i64 W.k, .int .i64 W.w] 48) = W1 at *
  clear hW1
  have HXb : Hid (WBox W1 w1.heap.size W) := HX
  have HB1 : Hid (Below w.heap.size w W1) := HB
  clear HX HB
  obtain ⟨nn, N, hz, hN, hnN, hlow, hhigh⟩ := open_facts (W := W) (up := up) (down := down) (flow := flow) (flowB_iff.2 ⟨HW.out.ok, ⟨u00, by omega⟩, ⟨u10, by omega⟩⟩)
  have HZ := Lib.hid hz
  have HNg := Lib.hid hN
  have HL := Lib.hid hlow
  have HH := Lib.hid hhigh
  have HOK := Lib.hid hok
  have I1 := Lib.hid (inB_yes (x := up) (l := 0) (h := 100000) u00 (by omega))
  have I2 := Lib.hid (inB_yes (x := up + 1) (l := 0) (h := 100000) (by omega) (by omega))
  have I3 := Lib.hid (inB_yes (x := down) (l := 0) (h := 100000) u10 (by omega))
  have HF : Hid (∀ k : Nat, k ≤ N → flowW ⟨W.g, k, W.s, W.k, W.w⟩ up down = openFlow W up down k ∧ flowW ⟨W.g, k, W.s, W.k, W.w⟩ (up + 1) down = openFlow W (up + 1) down k ∧ openFlow W up down k ≤ openFlow W (up + 1) down k ∧ 0 ≤ openFlow W up down k ∧ openFlow W up down k ≤ 2528000 ∧ openFlow W (up + 1) down k ≤ 2528000 ∧ openFlow W up down k ≤ openFlow W up down (k + 1)) :=
    Lib.hid (fun k hk => ⟨flow_with HOK.out I1.out I3.out (by omega) (by omega), flow_with HOK.out I2.out I3.out (by omega) (by omega), openFlow_up HW.out.ok (by omega) (by omega) (by omega), (openFlow_bd HW.out.ok (by omega) (by omega) (by omega)).1, (openFlow_bd HW.out.ok (by omega) (by omega) (by omega)).2, (openFlow_bd HW.out.ok (by omega) (by omega) (by omega)).2, openFlow_mono HW.out.ok (by omega) (by omega)⟩)
  clear hz hN hlow hhigh hok
  refine (open_impl W up down flow _).mono ?_
  rintro e w2 ⟨rfl, hb2⟩
  rw [HZ.out]
  have HX2 := Lib.hid (Box5.below HXb.out hb2)
  have HB2 := Lib.hid (HB1.out.trans (hb2.mono HB1.out.size))
  have n40 : N ≤ 40 := by have := HNg.out; omega
  obtain ⟨b, hbn⟩ : ∃ b, b = w1.heap.size := ⟨_, rfl⟩
  rw [← hbn] at HX2 HXb ⊢
  clear hb2 HXb HB1 HS1 HS hbn
  go_wp2
  go_loopw [8, 9] (fun l i wr => ∃ (k : Nat) (L : Int), i = .int .i64 k ∧ l = .int .i64 L ∧ k ≤ N + 1 ∧ -1 ≤ L ∧ L ≤ 2528000 ∧ Hid (k ≤ N → L ≤ openFlow W up down k) ∧ Hid (WBox wr b W) ∧ Hid (Below w.heap.size w wr)) (fun _ i _ => N + 1 - (intOf i).toNat)
  case atStart => exact ⟨0, -1, rfl, rfl, by omega, by omega, by omega, Lib.hid (fun _ => by have := (HF.out 0 (by omega)).2.2.2.1; omega), HX2, HB2⟩
  case round =>
    obtain ⟨k, L, rfl, rfl, hk, L0, L1, HLk, HXr, HBr⟩ := hrel
    obtain ⟨x0, x1, x2, x3, x4⟩ := Box5.at HXr.out
    have hNg := HNg.out
    by_cases hlt : k ≤ N
    · obtain ⟨f1, f2, f3, f4, f5, f6, f7⟩ := HF.out k hlt
      have F1 := Lib.hid f1
      have F2 := Lib.hid f2
      have F7 := Lib.hid f7
      have hLk := HLk.out hlt
      have hk10 : (k : Int) ≤ 10 * W.g := by omega
      have hA : k < nn → openFlow W up down k < flow := HL.out k
      have hB : k = nn → nn < N → flow ≤ openFlow W up down k := fun e h => by subst e; exact HH.out h
      have HA := Lib.hid hA
      have HBq := Lib.hid hB
      clear f1 f2 f7 hA hB HLk
      have HBx := Lib.hid ((HBr.out.alloc HBr.out.size (.cells #[.int .i64 W.g, .int .i64 k, .int .i64 W.s, .int .i64 W.k, .int .i64 W.w] 48)))
      have HXX := Lib.hid (Box5.alloc HXr.out (.cells #[.int .i64 W.g, .int .i64 k, .int .i64 W.s, .int .i64 W.k, .int .i64 W.w] 48))
      have HXY := Lib.hid (Box5.new wr (.int .i64 W.g) (.int .i64 k) (.int .i64 W.s) (.int .i64 W.k) (.int .i64 W.w) 48)
      go_wp2_with fail
      refine (gflow_impl ⟨W.g, k, W.s, W.k, W.w⟩ up down _).mono ?_
      rintro e w3 ⟨rfl, hb3⟩
      rw [F1.out]
      have HB3 := Lib.hid (HBx.out.trans (hb3.mono HBx.out.size))
      have HX3 := Lib.hid (HXX.out.below hb3)
      have HY3 := Lib.hid (HXY.out.below hb3)
      clear hb3 x0 x1 x2 x3 x4 HBx HXX HXY
      obtain ⟨y0, y1, y2, y3, y4⟩ := HY3.out.at
      generalize openFlow W up down k = f0 at *
      go_wp2_with fail
      refine (gflow_impl ⟨W.g, k, W.s, W.k, W.w⟩ (up + 1) down _).mono ?_
      rintro e w4 ⟨rfl, hb4⟩
      rw [F2.out]
      have HB4 := Lib.hid (HB3.out.trans (hb4.mono HB3.out.size))
      have HX4 := Lib.hid (HX3.out.below hb4)
      clear hb4 y0 y1 y2 y3 y4 HX3 HY3
      obtain ⟨x0, x1, x2, x3, x4⟩ := HX4.out.at
      generalize openFlow W (up + 1) down k = f9 at *
      rcases Nat.lt_trichotomy k nn with h | h | h
      · have hA := HA.out h
        have c1 : decide ((k : Int) < (nn : Int)) = true := decide_eq_true (by omega)
        have c2 : ((k : Int) == (nn : Int)) = false := by simp; omega
        go_wp2
        go_roundw
        case rel => exact ⟨k + 1, f0, by go_num, rfl, by omega, by omega, by omega, Lib.hid (fun _ => by have := F7.out; push_cast; exact this), HX4, HB4⟩
        case measure => simp [intOf]; omega
      · by_cases hnn : nn < N
        · have hB := HBq.out h hnn
          have c1 : ¬ ((k : Int) < (nn : Int)) := by omega
          have c2 : ((k : Int) == (nn : Int)) = true := by simp; omega
          go_wp2
          go_roundw
          case rel => exact ⟨k + 1, f0, by go_num, rfl, by omega, by omega, by omega, Lib.hid (fun _ => by have := F7.out; push_cast; exact this), HX4, HB4⟩
          case measure => simp [intOf]; omega
        · have c1 : ¬ ((k : Int) < (nn : Int)) := by omega
          have c2 : ((k : Int) == (nn : Int)) = true := by simp; omega
          have c3 : ¬ ((nn : Int) < 10 * W.g) := by omega
          go_wp2
          all_goals
            go_roundw
            case rel => exact ⟨k + 1, f0, by go_num, rfl, by omega, by omega, by omega, Lib.hid (fun _ => by have := F7.out; push_cast; exact this), HX4, HB4⟩
            case measure => simp [intOf]; omega
      · have c1 : ¬ ((k : Int) < (nn : Int)) := by omega
        have c2 : ((k : Int) == (nn : Int)) = false := by simp; omega
        go_wp2
        go_roundw
        case rel => exact ⟨k + 1, f0, by go_num, rfl, by omega, by omega, by omega, Lib.hid (fun _ => by have := F7.out; push_cast; exact this), HX4, HB4⟩
        case measure => simp [intOf]; omega
    · have hge : 10 * W.g < (k : Int) := by omega
      have d1 : (nn : Int) ≤ 10 * W.g := by omega
      have d0 : 0 ≤ (nn : Int) := by omega
      go_wp2_with fail
      refine (wok_impl W _).mono ?_
      rintro e w3 ⟨rfl, hb3⟩
      rw [HOK.out]
      have HB3 := Lib.hid (HBr.out.trans (hb3.mono HBr.out.size))
      have HX3 := Lib.hid (Box5.below HXr.out hb3)
      clear hb3 x0 x1 x2 x3 x4
      obtain ⟨x0, x1, x2, x3, x4⟩ := HX3.out.at
      go_wp2
      go_ret
      exact ⟨rfl, HB3.out⟩

theorem parOk : Try.f6.params.toList.all (fun t => Try.prog.readableRec t && decide (t < Try.prog.types.size)) = true := by kernel_rfl
set_option maxRecDepth 100000 in
theorem lifted (os : Os) (started : os.Started) (H : Type) (enc : TypeId × Value → H) :
    ReturnsInHanded {} Try.checked os 6 .any (Rows.fnGatesSpec.pre6 enc Try.prog Try.f6 Rows.fnGatesRow.domain false) (Rows.fnGatesSpec.post enc Try.prog Try.f6 false true false false) := by
  refine law_lifted (C := Try.checked) own started (by kernel_rfl) Try.func6 laid (fun t ht => by
      have h := List.all_eq_true.1 parOk t ht
      rw [Bool.and_eq_true] at h
      exact ⟨h.1, of_decide_eq_true h.2⟩) rfl Try.underlying4 rfl
    (fun xs hx => by
      rw [show Try.f6.params.toList.length = 1 from by rw [Try.params6]; rfl] at hx
      match xs, hx with
      | [d0], _ => rfl)
    (ChangeSpec.witness6 (enc := enc) (C := Try.checked) false ⟨#[], #[.slice none 0 0], []⟩ 8 (by kernel_rfl) (by kernel_rfl) (by kernel_rfl) (by kernel_rfl)) ?_
  intro W base args ds p hval0 hA0 _
  have hval : ∀ (j : Nat) t v, Try.f6.params[j]? = some t → args[j]? = some v → Value.okWide Try.prog W .any base t v := hval0
  have hA : DataW.TrodAll enc Try.prog W 0 (fun _ => true) true Try.f6.params.toList args.toList ds p := hA0
  clear hA0 hval0
  rw [Try.params6] at hA hval
  obtain ⟨v0, vs0, d0, ds0, p0, q0, hargs, rfl, rfl, h0, r0⟩ := trodAll_cons hA
  obtain ⟨rfl, rfl, rfl⟩ := trodAll_nil r0
  obtain rfl : args = #[v0] := by cases args; simp_all
  obtain ⟨A0, n0, c0, f0, rfl, x0, y0⟩ := slice_bytes Try.underlying22 (by kernel_rfl) Try.underlying5 (hval 0 22 _ rfl rfl) h0
  exact walk A0 n0 c0 f0 W x0 y0

/-- The statement. -/
theorem proved : Rows.FnGatesSaid :=
  OpenClaim.holds_of_wide 6 Try.f6 rfl rfl rfl rfl rfl rfl rfl ⟨rfl, rfl, rfl, rfl, rfl⟩ rfl rfl rfl rfl rfl (by kernel_rfl) Try.func6 (by kernel_rfl)
    (of_decide_eq_true (by kernel_rfl)) (by unfold Func.isWrapper; first | (rw [if_pos (by decide +kernel)]; kernel_rfl) | (rw [if_neg (by decide +kernel)]; exact ⟨rfl, rfl⟩))
    (fun os started H enc _ => lifted os started H enc)
#print axioms proved
end Go.Proofs.Ytolifdpbkdeeeaa.fnGates
