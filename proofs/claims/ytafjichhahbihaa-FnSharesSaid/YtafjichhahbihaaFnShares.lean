/-
  For every input the Go function 'laws.FnShares' returns true, and each argument reads afterwards as it read before. No further condition.
-/
import Derived.Test.YtafjichhahbihaaShareS
import Derived.Test.YtafjichhahbihaaDraw
import Derived.Test.YtafjichhahbihaaLift
import Derived.Test.YtafjichhahbihaaOpen
import Derived.ChangeMaps5
namespace Go.Proofs.Ytafjichhahbihaa.fnShares
open Go.Proofs.Ytafjichhahbihaa.C1 Go.Proofs.Ytafjichhahbihaa.Lift Go.Proofs.Ytafjichhahbihaa.Opened
open Go.ChangeShapes Go.WideShapes Go.ChangeAt Go.RowKit Go.ChangeMaps
set_option linter.unusedVariables false

open Go.Proofs.Ytafjichhahbihaa.ShareM
theorem infoJ : (Try.prog.info? 3).map (fun i => (i.zero, i.size, i.bytes)) = some (some (.int .i64 0), 1, 8) := by kernel_rfl
theorem mul_bd {a b c d : Int} (h0 : 0 ≤ a) (h1 : a ≤ c) (h2 : 0 ≤ b) (h3 : b ≤ d) : 0 ≤ a * b ∧ a * b ≤ c * d := ⟨Int.mul_nonneg h0 h2, Int.mul_le_mul h1 h3 h2 (by omega)⟩
theorem share_bd {total : Int} {n : Nat} {W : Nat → Int} (F : Fine total n W) (E : Nat → Nat) {i : Nat} (hi : i < n) : 0 ≤ share total n W E i ∧ share total n W E i ≤ 1000000001 := by
  have h := quo_bd F hi
  unfold share
  rcases inc_01 E (left total (sumTo W n) W n).toNat i with h1 | h1 <;> rw [h1] <;> omega
set_option maxRecDepth 100000 in
set_option maxHeartbeats 4000000 in
theorem walk (A : Option Addr) (n cap : Nat) (f : Nat → Int) (w : World) (hn : n ≤ 9223372036854775807) (hs : SrcB w A n f) :
    Calls Try.prog 6 #[.slice A n cap] w fun e w' => e = .returned (.bool true) ∧ Below w.heap.size w w' := by
  by_cases hbig : 1048576 < n
  · go_enter Try.func6, Try.ntmps6
    go_wp2_with (go_at_call 9; refine (big_yes _ _ _ _ hbig).mono ?_; rintro e w' ⟨rfl, rfl⟩)
    go_ret
    exact ⟨rfl, Below.refl _ _⟩
  have hl : n ≤ 1048576 := by omega
  have HS := Lib.hid hs
  clear hs hbig
  obtain ⟨i0, hi, hz0, hz1, hz2⟩ := info_parts infoJ
  obtain ⟨M, hM⟩ : ∃ M : Nat, atZ n f 0 % 8 = (M : Int) := ⟨(atZ n f 0 % 8).toNat, by have := Int.emod_nonneg (atZ n f 0) (by decide : (8 : Int) ≠ 0); omega⟩
  have hM7 : M ≤ 7 := by omega
  obtain ⟨W, hW⟩ : ∃ W : Nat → Int, ∀ k : Nat, atZ n f ((k : Int) + 1) % 9 = W k := ⟨fun k => atZ n f ((k : Int) + 1) % 9, fun _ => rfl⟩
  have HW := Lib.hid hW
  have HWb : Hid (∀ k, 0 ≤ W k ∧ W k ≤ 8) := fun k => by rw [← hW k]; omega
  obtain ⟨T, hT⟩ : ∃ T, atZ n f 9 * atZ n f 10 = T := ⟨_, rfl⟩
  have hTb : 0 ≤ T ∧ T ≤ 65025 := by
    rw [← hT]
    exact mul_bd (atZ_bd HS.out 9).1 (atZ_bd HS.out 9).2 (atZ_bd HS.out 10).1 (atZ_bd HS.out 10).2
  have HT := Lib.hid hT
  have HMM := Lib.hid hM
  have HO := Lib.hid (World.ownsRow_made (base := w.heap.size) (size := 1) (e := 3) w #[] 0 (Nat.le_refl _) (by decide) rfl)
  have HB := Lib.hid ((Below.refl w.heap.size w).alloc (Nat.le_refl _) (.cells #[] 3))
  clear hW hT hM
  go_enter Try.func6, Try.ntmps6
  go_wp2_with fail
  refine (big_no _ _ _ _ hl).mono ?_; rintro e w' ⟨rfl, rfl⟩
  go_wp2
  go_loopw [3, 4, 5] (fun v s i wr => ∃ k : Nat, k ≤ M + 1 ∧ i = .int .i64 (k : Int) ∧ s = .int .i64 (sumTo W k) ∧ wr.ownsRow w.heap.size 3 1 v k (ints k W) ∧ Below w.heap.size w wr) (fun _ _ i _ => M + 1 - (intOf i).toNat)
  case atStart => exact ⟨0, by omega, rfl, rfl, HO.out, HB.out⟩
  case round =>
    obtain ⟨k, hk, rfl, rfl, ho, hb⟩ := hrel
    obtain ⟨A1, cp1, rfl⟩ := own_formI ho
    have HO1 := Lib.hid ho
    have HB1 := Lib.hid hb
    have hsp := sum_part (n := M + 1) (W := W) (by omega : k ≤ 12) (fun i _ => by have := HWb.out i; omega)
    have hb1s := hb.size
    have u0 := atZ_bd HS.out 0
    clear ho
    by_cases hlt : k < M + 1
    · have hW := HW.out k
      have hM := HMM.out
      have u1 := atZ_bd HS.out ((k : Int) + 1)
      have hwb := HWb.out k
      have hlt' : (k : Int) ≤ (M : Int) := by omega
      have HSb := Lib.hid (HS.out.below hb)
      have HX := Lib.hid (fun q hq => (HO1.out.lt q hq))
      clear hb
      go_wp2_with (first | (go_at_call 12; refine (at_law _ _ _ _ _ f hl (by omega) (by omega) HSb.out).mono ?_; rintro e w' ⟨rfl, rfl⟩) | (at_builtin; refine wpList_append_own_at _ rfl (.tmp 21) (.tmp 27) 40 rfl w.heap.size 3 i0 _ 1 8 Try.underlying40 hi hz0 hz1 hz2 rfl (by decide) _ _ _ rfl (HO1.out.alloc _) ⟨wr.heap.size, 0, none⟩ 1 1 [.int .i64 (W k)] rfl rfl ?c1 ?c2 ?c3 ?c4 ?c5 ?_))
      case c1 => exact news1i (heap_alloc_new _ _)
      case c2 => exact one1i _
      case c3 => unfold maxLen; omega
      case c4 => omega
      case c5 => simp; omega
      intro v' w4 hown4 hgrow _ _
      have hb4 := (HB1.out.alloc hb1s (.cells #[.int .i64 (W k)] 3)).grown hgrow (by simp; omega) (fun q hq => (HX.out q hq).1)
      have HB4 := Lib.hid hb4
      have HS4 := Lib.hid (HS.out.below hb4)
      rw [← ints_snoc] at hown4
      have HO4 := Lib.hid hown4
      clear hgrow hb4 hown4
      go_wp2_with (go_at_call 12; refine (at_law _ _ _ _ _ f hl (by omega) (by omega) HS4.out).mono ?_; rintro e w' ⟨rfl, rfl⟩)
      go_roundw
      case rel => exact ⟨k + 1, by omega, by go_num, rfl, HO4.out, HB4.out⟩
      case measure => simp [intOf]; omega
    · obtain rfl : k = M + 1 := by omega
      have hM := HMM.out
      have hgt : (M : Int) < ((M + 1 : Nat) : Int) := by omega
      have HSb := Lib.hid (HS.out.below hb)
      have u9 := atZ_bd HS.out 9
      have u10 := atZ_bd HS.out 10
      have hT := HT.out
      have hdd : decide ((M : Int) + 1 ≤ (M : Int)) = false := by simp; omega
      have HSG := Lib.hid (SrcG.of_own HO1.out)
      clear hb hgt
      by_cases hz : sumTo W (M + 1) = 0
      · have HNF := Lib.hid (show ¬ Fine T (M + 1) W from fun F => absurd F.s (by omega))
        have hz' : (sumTo W (M + 1) == 0) = true := by rw [hz]; rfl
        clear hz
        go_wp2_with (go_at_call 12; refine (at_law _ _ _ _ _ f hl (by omega) (by omega) HSb.out).mono ?_; rintro e w' ⟨rfl, rfl⟩)
        refine (share_impl_no T _ (M + 1) _ W _ (by omega) HSG.out HNF.out).mono ?_
        rintro e w' ⟨rfl, rfl⟩
        go_wp2
        go_ret
        exact ⟨rfl, HB1.out⟩
      · have F : Fine T (M + 1) W := ⟨by omega, by omega, by omega, fun i _ => by have := HWb.out i; omega, by omega⟩
        have HF := Lib.hid F
        have hz' : (sumTo W (M + 1) == 0) = false := by simp [hz]
        have s0 := F.s
        clear hz F
        go_wp2_with (go_at_call 12; refine (at_law _ _ _ _ _ f hl (by omega) (by omega) HSb.out).mono ?_; rintro e w' ⟨rfl, rfl⟩)
        refine (share_impl T _ (M + 1) _ W _ HSG.out HF.out).mono ?_
        rintro e w5 ⟨⟨g, E, hE, rfl, hg, hrow⟩, hb5⟩
        have HE := Lib.hid hE
        have HR := Lib.hid hrow
        have HO5 := Lib.hid (own_below HO1.out hb5)
        have HB5 := Lib.hid (HB1.out.trans (hb5.mono hb1s))
        clear hE hrow hb5 hM hT
        go_wp2
        go_loopw [8, 9] (fun got i wr => ∃ j : Nat, j ≤ M + 1 ∧ i = .int .i64 (j : Int) ∧ got = .int .i64 (sumTo (share T (M + 1) W E) j) ∧ ∃ q, wr = w5.drewN q) (fun _ i _ => M + 1 - (intOf i).toNat)
        case atStart => exact ⟨0, by omega, rfl, rfl, 0, rfl⟩
        case round =>
          obtain ⟨j, hj, rfl, rfl, q, rfl⟩ := hrel
          have hgb0 := sum_nonneg (f := share T (M + 1) W E) (n := j) (fun i hi => (share_bd HF.out E (by omega)).1)
          have hgb1 := sum_bd (f := share T (M + 1) W E) (n := j) (c := 1000000001) (fun i hi => (share_bd HF.out E (by omega)).2)
          by_cases hlt2 : j < M + 1
          · have c0 := HR.out.cell hlt2
            obtain ⟨g1, rfl, _, _, c1, _⟩ := own_at HO5.out hlt2
            rw [Go.Proofs.Ytafjichhahbihaa.C1.ints_at _ j _ hlt2] at c1
            have hn2 := share_near HF.out HE.out hlt2
            have hsb := share_bd HF.out E hlt2
            have hwb := HWb.out j
            have p1 := mul_bd hsb.1 hsb.2 (show 0 ≤ sumTo W (M + 1) by omega) hsp.2
            have p2 := mul_bd hTb.1 hTb.2 hwb.1 hwb.2
            have e1 : IntKind.i64.wrap (share T (M + 1) W E j * sumTo W (M + 1)) = share T (M + 1) W E j * sumTo W (M + 1) := IntWalk.i64_in _ (by omega)
            have e2 : IntKind.i64.wrap (T * W j) = T * W j := IntWalk.i64_in _ (by omega)
            have e3 : IntKind.i64.wrap (share T (M + 1) W E j * sumTo W (M + 1) - T * W j) = share T (M + 1) W E j * sumTo W (M + 1) - T * W j := IntWalk.i64_in _ (by omega)
            have hgb2 : sumTo (share T (M + 1) W E) j ≤ 12000000012 := by omega
            clear hgb1
            go_wp2
            go_quiet (fail)
            clear e1 e2 e3
            go_wp2
            go_roundw
            case rel => exact ⟨j + 1, by omega, by go_num, rfl, _, rfl⟩
            case measure => simp [intOf]; omega
          · obtain rfl : j = M + 1 := by omega
            have HSU := Lib.hid (share_sum HF.out HE.out)
            rw [HSU.out]
            go_wp2
            go_ret
            exact ⟨rfl, HB5.out.drewN' _⟩

theorem own : ownKnob Try.prog.godebug = none := by kernel_rfl
theorem laid : laidOutB Try.prog = true := by kernel_rfl
theorem parOk : Try.f6.params.toList.all (fun t => Try.prog.readableRec t && decide (t < Try.prog.types.size)) = true := by kernel_rfl
set_option maxRecDepth 100000 in
theorem lifted (os : Os) (started : os.Started) (H : Type) (enc : TypeId × Value → H) :
    ReturnsInHanded {} Try.checked os 6 .any (Rows.fnSharesSpec.pre6 enc Try.prog Try.f6 Rows.fnSharesRow.domain false) (Rows.fnSharesSpec.post enc Try.prog Try.f6 false true false false) := by
  refine law_lifted (C := Try.checked) own started (by kernel_rfl) Try.func6 laid (fun t ht => by
      have h := List.all_eq_true.1 parOk t ht
      rw [Bool.and_eq_true] at h
      exact ⟨h.1, of_decide_eq_true h.2⟩) rfl Try.underlying4 rfl
    (fun xs hx => by
      rw [show Try.f6.params.toList.length = 1 from by rw [Try.params6]; rfl] at hx
      match xs, hx with
      | [d0], _ => rfl)
    (ChangeSpec.witness6 (enc := enc) (C := Try.checked) false ⟨#[], #[.slice none 0 0], []⟩ 8 (by kernel_rfl) (by kernel_rfl) (by kernel_rfl) (by kernel_rfl)) ?_
  intro W base args ds p hval0 hA0 _
  have hval : ∀ (j : Nat) t v, Try.f6.params[j]? = some t → args[j]? = some v → Value.okWide Try.prog W .any base t v := hval0
  have hA : DataW.TrodAll enc Try.prog W 0 (fun _ => true) true Try.f6.params.toList args.toList ds p := hA0
  clear hA0 hval0
  rw [Try.params6] at hA hval
  obtain ⟨v0, vs0, d0, ds0, p0, q0, hargs, rfl, rfl, h0, r0⟩ := trodAll_cons hA
  obtain ⟨rfl, rfl, rfl⟩ := trodAll_nil r0
  obtain rfl : args = #[v0] := by cases args; simp_all
  obtain ⟨A0, n0, c0, f0, rfl, x0, y0⟩ := slice_bytes Try.underlying22 (by kernel_rfl) Try.underlying5 (hval 0 22 _ rfl rfl) h0
  exact walk A0 n0 c0 f0 W x0 y0

/-- The statement. -/
theorem proved : Rows.FnSharesSaid :=
  OpenClaim.holds_of_wide 6 Try.f6 rfl rfl rfl rfl rfl rfl rfl ⟨rfl, rfl, rfl, rfl, rfl⟩ rfl rfl rfl rfl rfl (by kernel_rfl) Try.func6 (by kernel_rfl)
    (of_decide_eq_true (by kernel_rfl)) (by unfold Func.isWrapper; first | (rw [if_pos (by decide +kernel)]; kernel_rfl) | (rw [if_neg (by decide +kernel)]; exact ⟨rfl, rfl⟩))
    (fun os started H enc _ => lifted os started H enc)
#print axioms proved
end Go.Proofs.Ytafjichhahbihaa.fnShares
