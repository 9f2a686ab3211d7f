/-
  For every input the Go function 'laws.FnExactChamberLevel' returns true, and each argument reads afterwards as it read before. No further condition.
-/
import Derived.Test.YtmfeleocjmdooaaLkI
import Derived.Test.YtmfeleocjmdooaaLkW
import Derived.Test.YtmfeleocjmdooaaLift
import Derived.Test.YtmfeleocjmdooaaIo
import Derived.Test.YtmfeleocjmdooaaOpen
import Derived.ChangeMaps5
namespace Go.Proofs.Ytmfeleocjmdooaa.fnExactChamberLevel
open Go.Proofs.Ytmfeleocjmdooaa.C1 Go.Proofs.Ytmfeleocjmdooaa.Lift Go.Proofs.Ytmfeleocjmdooaa.Opened
open Go.ChangeShapes Go.WideShapes Go.ChangeAt Go.RowKit Go.ChangeMaps
set_option linter.unusedVariables false

set_option maxRecDepth 100000 in
set_option maxHeartbeats 2000000 in
theorem walk (k : Lk) (A : Option Addr) (c : Nat) (S : List Tr) (w : World) (ht : ArgTs w A S) :
    Calls Try.prog 19 #[.agg #[.int .i64 k.le, .int .i64 k.wi, .int .i64 k.sa, .int .i64 k.sb, .int .i64 k.ba, .int .i64 k.ar, .int .i64 k.ra, .int .i64 k.wa, .int .i64 k.ga, .slice A S.length c]] w fun e w' => e = .returned (.bool true) ∧ Below w.heap.size w w' := by
  have HT := vl ht
  have HB0 := vl ((Below.refl w.heap.size w).alloc (Nat.le_refl _) (.cells #[.int .i64 k.le, .int .i64 k.wi, .int .i64 k.sa, .int .i64 k.sb, .int .i64 k.ba, .int .i64 k.ar, .int .i64 k.ra, .int .i64 k.wa, .int .i64 k.ga, .slice A S.length c] 68))
  have HX0 := vl (KBox.new w k (.slice A S.length c) 68)
  have HT0 := vl (ht.below HB0.out)
  obtain ⟨x0, x1, x2, x3, x4, x5, x6, x7, x8, x9⟩ := HX0.out
  clear ht
  by_cases hbig : (1048576 : Int) < (szS S : Int)
  · go_enter Try.func19, Try.ntmps19
    go_wp2_with fail
    refine (szLock_no k A c S _ _ (by omega) (by omega) HT0.out hbig).mono ?_
    rintro e w1 ⟨rfl, hb1⟩
    have HB1 := vl (HB0.out.trans (hb1.mono HB0.out.size))
    clear hb1
    go_wp2
    go_ret
    exact ⟨rfl, HB1.out⟩
  have hsz : (szS S : Int) ≤ 1048576 := by omega
  have HM := vl (mods_of hsz)
  clear hbig
  go_enter Try.func19, Try.ntmps19
  go_wp2_with fail
  refine (szLock_yes k A c S _ _ (by omega) HT0.out hsz).mono ?_
  rintro e w1 ⟨rfl, hb1⟩
  have HB1 := vl (HB0.out.trans (hb1.mono HB0.out.size))
  have HX1 := vl (HX0.out.below hb1)
  clear hb1 x0 x1 x2 x3 x4 x5 x6 x7 x8 x9
  obtain ⟨x0, x1, x2, x3, x4, x5, x6, x7, x8, x9⟩ := HX1.out
  go_wp2_with fail
  refine (toLock k A c S _ HM.out (HT.out.below HB1.out)).mono ?_
  rintro e w2 ⟨⟨A2, c2, g2, lo2, hi2, gg2, GG2, rfl, _, ho2⟩, hb2⟩
  have HB2 := vl (HB1.out.trans (hb2.mono HB1.out.size))
  have HX2 := vl (HX1.out.below hb2)
  have HP2 := vl ho2.trs
  clear hb2 ho2 x0 x1 x2 x3 x4 x5 x6 x7 x8 x9
  go_wp2_with fail
  refine (lvk_spec k A2 c2 S _ HM.out HP2.out).mono ?_
  rintro e w3 ⟨rfl, hb3⟩
  have HB3 := vl (HB2.out.trans (hb3.mono HB2.out.size))
  have HX3 := vl (HX2.out.below hb3)
  clear hb3
  obtain ⟨x0, x1, x2, x3, x4, x5, x6, x7, x8, x9⟩ := HX3.out
  go_wp2_with fail
  refine (toLock k A c S _ HM.out (HT.out.below HB3.out)).mono ?_
  rintro e w4 ⟨⟨A4, c4, g4, lo4, hi4, gg4, GG4, rfl, _, ho4⟩, hb4⟩
  have HB4 := vl (HB3.out.trans (hb4.mono HB3.out.size))
  have HX4 := vl (HX3.out.below hb4)
  have HP4 := vl ho4.trs
  clear hb4 ho4 x0 x1 x2 x3 x4 x5 x6 x7 x8 x9
  have hba := (Below.refl w4.heap.size w4).alloc (Nat.le_refl _) (.cells #[.int .i64 k.le, .int .i64 k.wi, .int .i64 k.sa, .int .i64 k.sb, .int .i64 k.ba, .int .i64 k.ar, .int .i64 k.ra, .int .i64 k.wa, .int .i64 k.ga, .slice A4 S.length c4] 73)
  have HB4a := vl (HB4.out.alloc HB4.out.size (.cells #[.int .i64 k.le, .int .i64 k.wi, .int .i64 k.sa, .int .i64 k.sb, .int .i64 k.ba, .int .i64 k.ar, .int .i64 k.ra, .int .i64 k.wa, .int .i64 k.ga, .slice A4 S.length c4] 73))
  have HX4a := vl (HX4.out.below hba)
  have HP4a := vl (HP4.out.below hba)
  have HY4 := vl (KBox.new w4 k (.slice A4 S.length c4) 73)
  clear hba
  obtain ⟨y0, y1, y2, y3, y4, y5, y6, y7, y8, y9⟩ := HY4.out
  go_wp2_with fail
  refine (lvk_impl k A4 c4 S _ HM.out HP4a.out).mono ?_
  rintro e w5 ⟨rfl, hb5⟩
  have HB5 := vl (HB4a.out.trans (hb5.mono HB4a.out.size))
  have HX5 := vl (HX4a.out.below hb5)
  have HY5 := vl (HY4.out.below hb5)
  have HP5 := vl (HP4a.out.below hb5)
  clear hb5 y0 y1 y2 y3 y4 y5 y6 y7 y8 y9
  obtain ⟨x0, x1, x2, x3, x4, x5, x6, x7, x8, x9⟩ := HX5.out
  obtain ⟨y0, y1, y2, y3, y4, y5, y6, y7, y8, y9⟩ := HY5.out
  go_wp2
  go_region_held3 (fun w' => w'.cell? ⟨w.heap.size, 0, none⟩ = some (.int .i64 k.le) ∧ w'.cell? ⟨w.heap.size, 1, none⟩ = some (.int .i64 k.wi) ∧ w'.cell? ⟨w.heap.size, 2, none⟩ = some (.int .i64 k.sa) ∧ w'.cell? ⟨w.heap.size, 3, none⟩ = some (.int .i64 k.sb) ∧ w'.cell? ⟨w.heap.size, 4, none⟩ = some (.int .i64 k.ba) ∧ w'.cell? ⟨w.heap.size, 5, none⟩ = some (.int .i64 k.ar) ∧ w'.cell? ⟨w.heap.size, 6, none⟩ = some (.int .i64 k.ra) ∧ w'.cell? ⟨w.heap.size, 7, none⟩ = some (.int .i64 k.wa) ∧ w'.cell? ⟨w.heap.size, 8, none⟩ = some (.int .i64 k.ga) ∧ w'.cell? ⟨w.heap.size, 9, none⟩ = some (.slice A S.length c) ∧ w'.cell? ⟨w4.heap.size, 0, none⟩ = some (.int .i64 k.le) ∧ w'.cell? ⟨w4.heap.size, 1, none⟩ = some (.int .i64 k.wi) ∧ w'.cell? ⟨w4.heap.size, 2, none⟩ = some (.int .i64 k.sa) ∧ w'.cell? ⟨w4.heap.size, 3, none⟩ = some (.int .i64 k.sb) ∧ w'.cell? ⟨w4.heap.size, 4, none⟩ = some (.int .i64 k.ba) ∧ w'.cell? ⟨w4.heap.size, 5, none⟩ = some (.int .i64 k.ar) ∧ w'.cell? ⟨w4.heap.size, 6, none⟩ = some (.int .i64 k.ra) ∧ w'.cell? ⟨w4.heap.size, 7, none⟩ = some (.int .i64 k.wa) ∧ w'.cell? ⟨w4.heap.size, 8, none⟩ = some (.int .i64 k.ga) ∧ w'.cell? ⟨w4.heap.size, 9, none⟩ = some (.slice A4 S.length c4) ∧ Below w5.heap.size w5 w')
    (first | exact ⟨x0, x1, x2, x3, x4, x5, x6, x7, x8, x9, y0, y1, y2, y3, y4, y5, y6, y7, y8, y9, Below.refl _ _⟩ | exact ⟨x0, x1, x2, x3, x4, x5, x6, x7, x8, x9, y0, y1, y2, y3, y4, y5, y6, y7, y8, y9, (Below.refl _ _).drew⟩ | assumption)
    (first
      | (go_at_call 71; obtain ⟨a0, a1, a2, a3, a4, a5, a6, a7, a8, a9, b0, b1, b2, b3, b4, b5, b6, b7, b8, b9, hb7⟩ : _ ∧ _ ∧ _ ∧ _ ∧ _ ∧ _ ∧ _ ∧ _ ∧ _ ∧ _ ∧ _ ∧ _ ∧ _ ∧ _ ∧ _ ∧ _ ∧ _ ∧ _ ∧ _ ∧ _ ∧ Below w5.heap.size w5 _ := by assumption
         refine (toLock k A c S _ HM.out (HT.out.below (HB5.out.trans (hb7.mono HB5.out.size)))).mono ?_
         rintro e w' ⟨⟨A6, c6, g6, lo6, hi6, gg6, GG6, rfl, _, ho6⟩, hb'⟩
         have HO6 := vl ho6.trs
         have S1 := S20 ⟨a0, a1, a2, a3, a4, a5, a6, a7, a8, a9⟩ ⟨b0, b1, b2, b3, b4, b5, b6, b7, b8, b9⟩ hb7 hb'
         clear ho6 hb')
      | (go_at_call 73; obtain ⟨a0, a1, a2, a3, a4, a5, a6, a7, a8, a9, b0, b1, b2, b3, b4, b5, b6, b7, b8, b9, hb7⟩ : _ ∧ _ ∧ _ ∧ _ ∧ _ ∧ _ ∧ _ ∧ _ ∧ _ ∧ _ ∧ _ ∧ _ ∧ _ ∧ _ ∧ _ ∧ _ ∧ _ ∧ _ ∧ _ ∧ _ ∧ Below w5.heap.size w5 _ := by assumption
         refine (eqLock k _ _ _ _ S _ HM.out (HP5.out.below hb7) HO6.out).mono ?_
         rintro e w' ⟨rfl, hb'⟩
         have S1 := S20 ⟨a0, a1, a2, a3, a4, a5, a6, a7, a8, a9⟩ ⟨b0, b1, b2, b3, b4, b5, b6, b7, b8, b9⟩ hb7 hb'
         clear hb'))
  all_goals
    obtain ⟨_, _, _, _, _, _, _, _, _, _, _, _, _, _, _, _, _, _, _, _, hb9⟩ : _ ∧ _ ∧ _ ∧ _ ∧ _ ∧ _ ∧ _ ∧ _ ∧ _ ∧ _ ∧ _ ∧ _ ∧ _ ∧ _ ∧ _ ∧ _ ∧ _ ∧ _ ∧ _ ∧ _ ∧ Below w5.heap.size w5 _ := by assumption
    go_wp2
    go_ret
    exact ⟨rfl, HB5.out.trans (hb9.mono HB5.out.size)⟩

theorem parOk : Try.f19.params.toList.all (fun t => Try.prog.readableRec t && decide (t < Try.prog.types.size)) = true := by kernel_rfl
set_option maxRecDepth 100000 in
theorem lifted (os : Os) (started : os.Started) (H : Type) (enc : TypeId × Value → H) :
    ReturnsInHanded {} Try.checked os 19 .any (Rows.fnExactChamberLevelSpec.pre6 enc Try.prog Try.f19 Rows.fnExactChamberLevelRow.domain false) (Rows.fnExactChamberLevelSpec.post enc Try.prog Try.f19 false true false false) := by
  refine law_lifted (C := Try.checked) own started (by kernel_rfl) Try.func19 laid (fun t ht => by
      have h := List.all_eq_true.1 parOk t ht
      rw [Bool.and_eq_true] at h
      exact ⟨h.1, of_decide_eq_true h.2⟩) rfl Try.underlying4 rfl
    (fun xs hx => by
      rw [show Try.f19.params.toList.length = 1 from by rw [Try.params19]; rfl] at hx
      match xs, hx with
      | [d0], _ => rfl)
    (ChangeSpec.witness6 (enc := enc) (C := Try.checked) false ⟨#[], #[.agg #[.int .i64 0, .int .i64 0, .int .i64 0, .int .i64 0, .int .i64 0, .int .i64 0, .int .i64 0, .int .i64 0, .int .i64 0, .slice none 0 0]], []⟩ 8 (by kernel_rfl) (by kernel_rfl) (by kernel_rfl) (by kernel_rfl)) ?_
  intro W base args ds p hval0 hA0 _
  have hval : ∀ (j : Nat) t v, Try.f19.params[j]? = some t → args[j]? = some v → Value.okWide Try.prog W .any base t v := hval0
  have hA : DataW.TrodAll enc Try.prog W 0 (fun _ => true) true Try.f19.params.toList args.toList ds p := hA0
  clear hA0 hval0
  rw [Try.params19] at hA hval
  obtain ⟨v0, vs0, d0, ds0, p0, q0, hargs, rfl, rfl, h0, r0⟩ := trodAll_cons hA
  obtain ⟨rfl, rfl, rfl⟩ := trodAll_nil r0
  obtain rfl : args = #[v0] := by cases args; simp_all
  obtain ⟨k0, A0, c0, S0, rfl, x0⟩ := open_lock (hval 0 68 _ rfl rfl) h0
  exact walk k0 A0 c0 S0 W x0

/-- The statement. -/
theorem proved : Rows.FnExactChamberLevelSaid :=
  OpenClaim.holds_of_wide 19 Try.f19 rfl rfl rfl rfl rfl rfl rfl ⟨rfl, rfl, rfl, rfl, rfl⟩ rfl rfl rfl rfl rfl (by kernel_rfl) Try.func19 (by show joinedFacts Try.prog _ _ _ _ = true; unfold joinedFacts; rw [Io.mayEnter, Io.liftsFinal, Io.make]; kernel_rfl)
    (of_decide_eq_true (by kernel_rfl)) (by unfold Func.isWrapper; first | (rw [if_pos (by decide +kernel)]; kernel_rfl) | (rw [if_neg (by decide +kernel)]; exact ⟨rfl, rfl⟩))
    (fun os started H enc _ => lifted os started H enc)
#print axioms proved
end Go.Proofs.Ytmfeleocjmdooaa.fnExactChamberLevel
