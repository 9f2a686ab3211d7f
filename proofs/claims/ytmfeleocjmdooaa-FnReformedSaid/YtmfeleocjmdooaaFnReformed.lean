/-
  For every input the Go function 'laws.FnReformed' returns true, and each argument reads afterwards as it read before. No further condition.
-/
import Derived.Test.YtmfeleocjmdooaaReL
import Derived.Test.YtmfeleocjmdooaaReM
import Derived.Test.YtmfeleocjmdooaaTrI5
import Derived.Test.YtmfeleocjmdooaaTrId
import Derived.Deep.RegionHeld3
import Derived.Test.YtmfeleocjmdooaaLift
import Derived.Test.YtmfeleocjmdooaaIo
import Derived.Test.YtmfeleocjmdooaaOpen
import Derived.ChangeMaps5
namespace Go.Proofs.Ytmfeleocjmdooaa.fnReformed
open Go.Proofs.Ytmfeleocjmdooaa.C1 Go.Proofs.Ytmfeleocjmdooaa.Lift Go.Proofs.Ytmfeleocjmdooaa.Opened
open Go.ChangeShapes Go.WideShapes Go.ChangeAt Go.RowKit Go.ChangeMaps
set_option linter.unusedVariables false

set_option maxRecDepth 100000 in
set_option maxHeartbeats 4000000 in
theorem walk (A : Option Addr) (n cap : Nat) (f : Nat → Int) (w : World) (hn : n ≤ 9223372036854775807) (hs : SrcB w A n f) :
    Calls Try.prog 4 #[.slice A n cap] w fun e w' => e = .returned (.bool true) ∧ Below w.heap.size w w' := by
  by_cases hbig : 1048576 < n
  · go_enter Try.func4, Try.ntmps4
    go_wp2_with (go_at_call 26; refine (big_yes _ _ _ _ hbig).mono ?_; rintro e w' ⟨rfl, rfl⟩)
    go_ret
    exact ⟨rfl, Below.refl _ _⟩
  have hl : n ≤ 1048576 := by omega
  have HS := vl hs
  clear hs hbig
  go_enter Try.func4, Try.ntmps4
  go_wp2_with fail
  refine (big_no _ _ _ _ hl).mono ?_
  rintro e w' ⟨rfl, rfl⟩
  go_wp2_with fail
  refine (drawtrain _ _ _ f _ hl HS.out).mono ?_
  rintro e w1 ⟨up, A1, c1, k, M, rfl, hk1, hk4, ht, hp1, hb1⟩
  have hba := (Below.refl w1.heap.size w1).alloc (Nat.le_refl _) (.cells #[.bool up, .slice A1 M.length c1] 26)
  have HT := vl ht
  have HIN := vl (ht.ok (by omega) (by omega) hk1 (by omega))
  have HM := vl (ht.mod (by omega))
  have HP2 := vl (hp1.below hba)
  have HX2 := vl (TBox.new w1 up A1 M.length c1 26)
  have HB2 := vl (hb1.trans (hba.mono hb1.size))
  have HS2 := vl ((HS.out.below hb1).below hba)
  have hz := atZ_bd HS.out 0
  clear hb1 hba ht hp1
  go_wp2_with (go_at_call 38; refine (at_law _ _ _ _ _ f hl (by omega) (by omega) HS2.out).mono ?_; rintro e w' ⟨rfl, rfl⟩)
  generalize hWe : 9 + atZ n f 0 % 30 = W
  have hW0 : 9 ≤ W := by omega
  have hW1 : W ≤ 38 := by omega
  have hbw := vl (fun (b : Bt) (hb : b ∈ bts M) => by
    obtain ⟨j, hj⟩ := List.getElem?_of_mem hb
    have := (HT.out.at' j b hj).w
    exact (show 1 ≤ b.w ∧ b.w ≤ 9 by omega))
  have hok : tOk M = true := tOk_iff.2 HIN.out
  have HB1 := vl (ref_all (T := M) (W := W) hok (fun b hb => by have := hbw.out b hb; omega))
  have HR : Veil (∀ A c w, Trn w A M → Calls Try.prog 39 #[.agg #[.bool up, .slice A M.length c], .int .i64 W] w (GivesTB w up (reR W (bts M)) true)) := vl fun A c w hp => by
    have h := reform_impl up A c M W w HM.out hp (by simp [Lit.wf]; exact ⟨Int.le_trans (show IntKind.i64.min ≤ 0 by decide) (by omega), Int.le_trans hW1 (by decide)⟩)
    have e1 : refU up M W = up := by unfold refU; rw [if_pos HB1.out]
    have e2 : refT M W = reR W (bts M) := by unfold refT; rw [if_pos HB1.out]
    rw [e1, e2, HB1.out] at h
    exact h
  have HRn : Veil (∀ A c w, Trn w A M → Calls Try.prog 39 #[.agg #[.bool up, .slice A M.length c], .int .i64 0] w (GivesTB w false [] false)) := vl fun A c w hp => by
    have h := reform_impl up A c M 0 w HM.out hp (by decide)
    have hb : refB M 0 = false := by
      have := HT.out.len
      obtain ⟨b, hb⟩ := get_of (L := bts M) (k := 0) (by omega)
      exact ref_wide (mem_of hb) (by have := (hbw.out b (mem_of hb)).1; omega)
    have e1 : refU up M 0 = false := by unfold refU; rw [hb]; rfl
    have e2 : refT M 0 = [] := by unfold refT; rw [hb]; rfl
    rw [e1, e2, hb] at h
    exact h
  have HTi := vl (tight_re (W := W) (L := bts M) (fun b hb => by have := hbw.out b hb; omega))
  have HRI := vl (tin_re (W := W) HIN.out)
  have HRF := vl (show bts (reR W (bts M)) = bts M from reR_flat W (bts M))
  have hR6 : (reR W (bts M)).length ≤ 6 := by
    have h1 := flat_len (reR_full W (bts M)); rw [reR_flat] at h1; have := HIN.out.n1; omega
  have HRB := vl (fun (r : List Bt) (hr : r ∈ reR W (bts M)) => by
    have h1 : r.length ≤ (reR W (bts M)).flatten.length := flatG_mem hr
    rw [reR_flat] at h1
    exact (show r.length ≤ 6 ∧ ∀ b ∈ r, 1 ≤ b.w ∧ b.w ≤ 9 from ⟨by have := HIN.out.n1; omega, fun b hb => hbw.out b (by rw [← reR_flat W (bts M)]; exact List.mem_flatten.2 ⟨r, hr, hb⟩)⟩))
  generalize reR W (bts M) = R at HR HTi HRI HRF hR6 HRB
  clear hWe hz hok HB1 HS2 HS hbw
  generalize hW2 : w1.alloc (.cells #[.bool up, .slice A1 M.length c1] 26) = w2 at *
  clear hW2
  obtain ⟨x0, x1⟩ := HX2.out
  go_wp2_with fail
  refine (HR.out _ _ _ HP2.out).mono ?_
  rintro e w3 ⟨⟨A3, c3, g3, G3, rfl, _, ho3⟩, hb3⟩
  clear x0 x1
  have hba := (Below.refl w3.heap.size w3).alloc (Nat.le_refl _) (.cells #[.bool up, .slice A3 R.length c3] 26)
  have hb4 := hb3.trans (hba.mono hb3.size)
  have HB4 := vl (HB2.out.trans (hb4.mono HB2.out.size))
  have HX4 := vl (HX2.out.below hb4)
  have HP4 := vl (HP2.out.below hb4)
  have HY4 := vl (TBox.new w3 up A3 R.length c3 26)
  have HQ4 := vl (ho3.trn.below hba)
  clear hba hb3 hb4 ho3 HX2 HP2 HB2 HR
  generalize hb5 : w1.heap.size = b5 at *
  go_wp2
  generalize hb6 : w3.heap.size = b6 at *
  generalize hW4 : w3.alloc (.cells #[.bool up, .slice A3 R.length c3] 26) = w4 at *
  clear hW4
  obtain ⟨y0, y1⟩ := HY4.out
  go_loop [7] (fun i => ∃ k : Nat, k ≤ R.length ∧ i = .int .i64 k) (fun i => R.length - (intOf i).toNat)
  case atStart => exact ⟨0, by omega, rfl⟩
  case round =>
    obtain ⟨j, hj, rfl⟩ := hrel
    by_cases hlt : j < R.length
    · obtain ⟨r, hr⟩ := get_of hlt
      obtain ⟨g0, o0, rfl, hc⟩ := HQ4.out (by omega)
      obtain ⟨Ai, ci, z0, hbs⟩ := hc j r hr
      have HC := vl hc
      have HBs := hbs
      have HRr := vl hr
      obtain ⟨hr6, hrb⟩ := HRB.out r (mem_of hr)
      have HRbd := vl hrb
      clear hc hbs hr hrb
      go_wp2
      go_loop [8, 9] (fun s i => ∃ m : Nat, m ≤ r.length ∧ i = .int .i64 m ∧ s = .int .i64 (fk (fun n b => n + b.w) 0 r m)) (fun s i => r.length - (intOf i).toNat)
      case atStart => exact ⟨0, by omega, rfl, by rw [fk_zero]⟩
      case round =>
        obtain ⟨m, hm, rfl, rfl⟩ := hrel
        by_cases hlt2 : m < r.length
        · obtain ⟨b, hb⟩ := get_of hlt2
          obtain ⟨g1, o1, rfl, hcb⟩ := HBs.out (by omega)
          obtain ⟨v0, v1, v2, v3, v4, v5⟩ := hcb m b hb
          have HSu := vl (fk_succ (f := fun (n : Int) (b : Bt) => n + b.w) (a := (0 : Int)) hb)
          obtain ⟨s0, s1⟩ := fk_sum (g := Bt.w) (L := r) (s := 9) (by omega) (fun x hx => by have := HRbd.out x hx; omega) (fun x hx => by have := HRbd.out x hx; omega) m
          obtain ⟨w0, w1'⟩ := HRbd.out b (mem_of hb)
          clear hcb hb v0 v1 v3 v4 v5
          generalize fk (fun n (b : Bt) => n + b.w) 0 r m = sm at HSu s0 s1 ⊢
          have s2 : sm ≤ 100 := by omega
          clear s1
          go_wp2
          go_round
          case rel => exact ⟨m + 1, by omega, by go_num, congrArg (Value.int .i64) (by rw [HSu.out])⟩
          case measure => simp [intOf]; omega
        · obtain rfl : m = r.length := by omega
          have hs1 : widR r ≤ W := HTi.out.nar r (mem_of HRr.out)
          obtain ⟨s0, _⟩ := fk_sum (g := Bt.w) (L := r) (s := 9) (by omega) (fun x hx => by have := HRbd.out x hx; omega) (fun x hx => by have := HRbd.out x hx; omega) r.length
          have e : fk (fun n b => n + b.w) 0 r r.length = widR r := by rw [fk_end]; rfl
          have e' : fk (fun n b => n + b.w) 0 r r.length = widR r := e
          rw [e] at s0
          rw [e]
          have HN := vl (fun (s : List Bt) (b : Bt) (h1 : R[j + 1]? = some s) (h2 : s[0]? = some b) => HTi.out.need j r s b HRr.out h1 h2)
          clear e e'
          generalize widR r = sm at hs1 s0 HN ⊢
          have hs1' : ¬ W < sm := by omega
          by_cases hlt3 : j + 1 < R.length
          · obtain ⟨t, ht⟩ := get_of hlt3
            obtain ⟨Aj, cj, z1, hbs2⟩ := HC.out (j + 1) t ht
            have htn : 0 < t.length := List.length_pos_iff.2 (HRI.out.full t (mem_of ht))
            obtain ⟨b, hb⟩ := get_of htn
            have hneed := HN.out t b ht hb
            obtain ⟨w0, w1'⟩ := (HRB.out t (mem_of ht)).2 b (mem_of hb)
            obtain ⟨g2, o2, rfl, hcb⟩ := hbs2.out htn
            obtain ⟨v0, v1, v2, v3, v4, v5⟩ := hcb 0 b hb
            have hlt3' : (j : Int) + 1 < (R.length : Int) := by omega
            have hneed' : ¬ sm + b.w ≤ W := by omega
            have hj0 : (0 : Int) ≤ (j : Int) + 1 := by omega
            clear hcb hb ht hbs2 v0 v1 v3 v4 v5 hs1
            go_wp2
            go_round
            case rel => exact ⟨j + 1, by omega, by go_num⟩
            case measure => simp [intOf]; omega
          · have hlt3' : ¬ (j : Int) + 1 < (R.length : Int) := by omega
            clear hs1
            go_wp2
            go_round
            case rel => exact ⟨j + 1, by omega, by go_num⟩
            case measure => simp [intOf]; omega
    · obtain rfl : j = R.length := by omega
      clear hj hlt
      obtain ⟨x0, x1⟩ := HX4.out
      go_wp2_with fail
      refine (HRn.out _ _ _ HP4.out).mono ?_
      rintro e w5 ⟨⟨A5, c5, g5, G5, rfl, _, _⟩, hb5⟩
      clear x0 x1 y0 y1
      have hb6 := hb5.trans (((Below.refl w5.heap.size w5).alloc (Nat.le_refl _) (.cells #[.bool false, .slice A5 0 c5] 26)).mono hb5.size)
      have HB6 := vl (HB4.out.trans (hb6.mono HB4.out.size))
      have HX6 := vl (HX4.out.below hb6)
      have HY6 := vl (HY4.out.below hb6)
      have HP6 := vl (HP4.out.below hb6)
      have HQ6 := vl (HQ4.out.below hb6)
      clear hb5 hb6 HX4 HY4 HP4 HQ4
      have hidN : idN R = idN M := by
        unfold idN
        rw [if_pos (tOk_iff.2 HRI.out), if_pos (tOk_iff.2 HIN.out), HRF.out]
      have HMR := vl (show Mod R from ⟨by omega, by rw [HRF.out]; exact HM.out.all⟩)
      have HIx : Veil (∀ w, Trn w A3 R → Calls Try.prog 36 #[.agg #[.bool up, .slice A3 R.length c3]] w (GivesIds w M)) := vl fun w hp => by
        have h := idsof_impl up A3 c3 R w HMR.out hp
        unfold GivesIds at h ⊢
        rw [hidN, HRF.out] at h
        exact h
      have hwid : widT R ≤ W := by
        unfold widT
        rw [if_pos (tOk_iff.2 HRI.out)]
        exact widZ_le (by omega) HTi.out.nar
      have HWx : Veil (∀ w, Trn w A3 R → Calls Try.prog 32 #[.agg #[.bool up, .slice A3 R.length c3]] w fun e w' => (∃ z : Int, z ≤ W ∧ e = .returned (.int .i64 z)) ∧ Below w.heap.size w w') := vl fun w hp => (wid_impl up A3 c3 R w HMR.out hp).mono fun e w' h => ⟨⟨_, hwid, h.1⟩, h.2⟩
      have hid6 := idN_le M
      clear hidN hwid HMR
      go_wp2
      generalize hW6 : w5.alloc (.cells #[.bool false, .slice A5 0 c5] 26) = w6 at *
      clear hW6
      obtain ⟨x0, x1⟩ := HX6.out
      obtain ⟨y0, y1⟩ := HY6.out
      go_region_held3 (fun w' => w'.cell? ⟨b5, 0, none⟩ = some (.bool up) ∧ w'.cell? ⟨b5, 1, none⟩ = some (.slice A1 M.length c1) ∧ w'.cell? ⟨b6, 0, none⟩ = some (.bool up) ∧ w'.cell? ⟨b6, 1, none⟩ = some (.slice A3 R.length c3) ∧ Below w6.heap.size w6 w')
        (first | exact ⟨x0, x1, y0, y1, Below.refl _ _⟩ | exact ⟨x0, x1, y0, y1, (Below.refl _ _).drew⟩ | assumption)
        (first
          | (go_at_call 32; obtain ⟨a0, a1, a2, a3, hb7⟩ : _ ∧ _ ∧ _ ∧ _ ∧ Below w6.heap.size w6 _ := by assumption
             refine (HWx.out _ (HQ6.out.below hb7)).mono ?_
             rintro e w' ⟨⟨z, hz, rfl⟩, hb'⟩
             have S1 := And.intro ((hb'.cell (cell_lt' a0)).trans a0) (And.intro ((hb'.cell (cell_lt' a1)).trans a1) (And.intro ((hb'.cell (cell_lt' a2)).trans a2) (And.intro ((hb'.cell (cell_lt' a3)).trans a3) (hb7.trans (hb'.mono hb7.size)))))
             clear hb')
          | (go_at_call 40; obtain ⟨a0, a1, a2, a3, hb7⟩ : _ ∧ _ ∧ _ ∧ _ ∧ Below w6.heap.size w6 _ := by assumption
             refine (same_ints _ _ _ _ _ _ _ _ _ (by omega) HR8.out HR9.out).mono ?_
             rintro e w' ⟨rfl, hb'⟩
             have S1 := And.intro ((hb'.cell (cell_lt' a0)).trans a0) (And.intro ((hb'.cell (cell_lt' a1)).trans a1) (And.intro ((hb'.cell (cell_lt' a2)).trans a2) (And.intro ((hb'.cell (cell_lt' a3)).trans a3) (hb7.trans (hb'.mono hb7.size)))))
             clear hb')
          | (go_at_call 36; obtain ⟨a0, a1, a2, a3, hb7⟩ : _ ∧ _ ∧ _ ∧ _ ∧ Below w6.heap.size w6 _ := by assumption
             have HR7' := HR7
             with_reducible refine (idsof_impl up A1 c1 M _ HM.out (HP6.out.below hb7)).mono ?_
             rintro e w' ⟨⟨A9, c9, g9, rfl, hr9, _⟩, hb'⟩
             have HR9 := vl hr9
             have HR8 := vl (HR7.out.below hb')
             have S1 := And.intro ((hb'.cell (cell_lt' a0)).trans a0) (And.intro ((hb'.cell (cell_lt' a1)).trans a1) (And.intro ((hb'.cell (cell_lt' a2)).trans a2) (And.intro ((hb'.cell (cell_lt' a3)).trans a3) (hb7.trans (hb'.mono hb7.size)))))
             clear hb' hr9 HR7 HR7')
          | (go_at_call 36; obtain ⟨a0, a1, a2, a3, hb7⟩ : _ ∧ _ ∧ _ ∧ _ ∧ Below w6.heap.size w6 _ := by assumption
             refine (HIx.out _ (HQ6.out.below hb7)).mono ?_
             rintro e w' ⟨⟨A7, c7, g7, rfl, hr7, _⟩, hb'⟩
             have HR7 := vl hr7
             have S1 := And.intro ((hb'.cell (cell_lt' a0)).trans a0) (And.intro ((hb'.cell (cell_lt' a1)).trans a1) (And.intro ((hb'.cell (cell_lt' a2)).trans a2) (And.intro ((hb'.cell (cell_lt' a3)).trans a3) (hb7.trans (hb'.mono hb7.size)))))
             clear hb' hr7))
      obtain ⟨_, _, _, _, hbz⟩ : _ ∧ _ ∧ _ ∧ _ ∧ Below w6.heap.size w6 _ := by assumption
      have HBZ := vl (HB6.out.trans (hbz.mono HB6.out.size))
      clear hbz
      go_wp2
      go_ret
      exact ⟨rfl, HBZ.out⟩

theorem parOk : Try.f4.params.toList.all (fun t => Try.prog.readableRec t && decide (t < Try.prog.types.size)) = true := by kernel_rfl
set_option maxRecDepth 100000 in
theorem lifted (os : Os) (started : os.Started) (H : Type) (enc : TypeId × Value → H) :
    ReturnsInHanded {} Try.checked os 4 .any (Rows.fnReformedSpec.pre6 enc Try.prog Try.f4 Rows.fnReformedRow.domain false) (Rows.fnReformedSpec.post enc Try.prog Try.f4 false true false false) := by
  refine law_lifted (C := Try.checked) own started (by kernel_rfl) Try.func4 laid (fun t ht => by
      have h := List.all_eq_true.1 parOk t ht
      rw [Bool.and_eq_true] at h
      exact ⟨h.1, of_decide_eq_true h.2⟩) rfl Try.underlying4 rfl
    (fun xs hx => by
      rw [show Try.f4.params.toList.length = 1 from by rw [Try.params4]; rfl] at hx
      match xs, hx with
      | [d0], _ => rfl)
    (ChangeSpec.witness6 (enc := enc) (C := Try.checked) false ⟨#[], #[.slice none 0 0], []⟩ 8 (by kernel_rfl) (by kernel_rfl) (by kernel_rfl) (by kernel_rfl)) ?_
  intro W base args ds p hval0 hA0 _
  have hval : ∀ (j : Nat) t v, Try.f4.params[j]? = some t → args[j]? = some v → Value.okWide Try.prog W .any base t v := hval0
  have hA : DataW.TrodAll enc Try.prog W 0 (fun _ => true) true Try.f4.params.toList args.toList ds p := hA0
  clear hA0 hval0
  rw [Try.params4] at hA hval
  obtain ⟨v0, vs0, d0, ds0, p0, q0, hargs, rfl, rfl, h0, r0⟩ := trodAll_cons hA
  obtain ⟨rfl, rfl, rfl⟩ := trodAll_nil r0
  obtain rfl : args = #[v0] := by cases args; simp_all
  obtain ⟨A0, n0, c0, f0, rfl, x0, y0⟩ := slice_bytes Try.underlying22 (by kernel_rfl) Try.underlying5 (hval 0 22 _ rfl rfl) h0
  exact walk A0 n0 c0 f0 W x0 y0

/-- The statement. -/
theorem proved : Rows.FnReformedSaid :=
  OpenClaim.holds_of_wide 4 Try.f4 rfl rfl rfl rfl rfl rfl rfl ⟨rfl, rfl, rfl, rfl, rfl⟩ rfl rfl rfl rfl rfl (by kernel_rfl) Try.func4 (by show joinedFacts Try.prog _ _ _ _ = true; unfold joinedFacts; rw [Io.mayEnter, Io.liftsFinal, Io.make]; kernel_rfl)
    (of_decide_eq_true (by kernel_rfl)) (by unfold Func.isWrapper; first | (rw [if_pos (by decide +kernel)]; kernel_rfl) | (rw [if_neg (by decide +kernel)]; exact ⟨rfl, rfl⟩))
    (fun os started H enc _ => lifted os started H enc)
#print axioms proved
end Go.Proofs.Ytmfeleocjmdooaa.fnReformed
