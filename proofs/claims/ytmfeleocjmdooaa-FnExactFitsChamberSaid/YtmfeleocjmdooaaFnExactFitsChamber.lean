/-
  For every input the Go function 'laws.FnExactFitsChamber' returns true, and each argument reads afterwards as it read before. No further condition.
-/
import Derived.Test.YtmfeleocjmdooaaLkF
import Derived.Test.YtmfeleocjmdooaaLkW
import Derived.Test.YtmfeleocjmdooaaLift
import Derived.Test.YtmfeleocjmdooaaIo
import Derived.Test.YtmfeleocjmdooaaOpen
import Derived.ChangeMaps5
namespace Go.Proofs.Ytmfeleocjmdooaa.fnExactFitsChamber
open Go.Proofs.Ytmfeleocjmdooaa.C1 Go.Proofs.Ytmfeleocjmdooaa.Lift Go.Proofs.Ytmfeleocjmdooaa.Opened
open Go.ChangeShapes Go.WideShapes Go.ChangeAt Go.RowKit Go.ChangeMaps
set_option linter.unusedVariables false

set_option maxRecDepth 100000 in
set_option maxHeartbeats 4000000 in
theorem walk (k : Lk) (A : Option Addr) (c : Nat) (S : List Tr) (B : Option Addr) (d : Nat) (U : List Tr) (w : World) (ht : ArgTs w A S) (hu : ArgTs w B U) :
    Calls Try.prog 20 #[.agg #[.int .i64 k.le, .int .i64 k.wi, .int .i64 k.sa, .int .i64 k.sb, .int .i64 k.ba, .int .i64 k.ar, .int .i64 k.ra, .int .i64 k.wa, .int .i64 k.ga, .slice A S.length c], .slice B U.length d] w fun e w' => e = .returned (.bool true) ∧ Below w.heap.size w w' := by
  have HT := vl ht
  have HU := vl hu
  have HB0 := vl ((Below.refl w.heap.size w).alloc (Nat.le_refl _) (.cells #[.int .i64 k.le, .int .i64 k.wi, .int .i64 k.sa, .int .i64 k.sb, .int .i64 k.ba, .int .i64 k.ar, .int .i64 k.ra, .int .i64 k.wa, .int .i64 k.ga, .slice A S.length c] 68))
  have HX0 := vl (KBox.new w k (.slice A S.length c) 68)
  have HT0 := vl (ht.below HB0.out)
  obtain ⟨x0, x1, x2, x3, x4, x5, x6, x7, x8, x9⟩ := HX0.out
  clear ht hu
  by_cases hbig : (1048576 : Int) < (szS S : Int)
  · go_enter Try.func20, Try.ntmps20
    go_wp2_with fail
    refine (szLock_no k A c S _ _ (by omega) (by omega) HT0.out hbig).mono ?_
    rintro e w1 ⟨rfl, hb1⟩
    have HB1 := vl (HB0.out.trans (hb1.mono HB0.out.size))
    clear hb1
    go_wp2
    go_ret
    exact ⟨rfl, HB1.out⟩
  have hsz : (szS S : Int) ≤ 1048576 := by omega
  have HM := vl (mods_of hsz)
  have hl0 : (0 : Int) ≤ 1048576 - (szS S : Int) := by omega
  clear hbig
  go_enter Try.func20, Try.ntmps20
  go_wp2_with fail
  refine (szLock_yes k A c S _ _ (by omega) HT0.out hsz).mono ?_
  rintro e w1 ⟨rfl, hb1⟩
  have HB1 := vl (HB0.out.trans (hb1.mono HB0.out.size))
  have HX1 := vl (HX0.out.below hb1)
  clear hb1 x0 x1 x2 x3 x4 x5 x6 x7 x8 x9
  by_cases hbig : 1048576 - (szS S : Int) < (szS U : Int)
  · go_wp2_with fail
    refine (szTS_no B d U _ _ (by omega) (by omega) (HU.out.below HB1.out) hbig).mono ?_
    rintro e w2 ⟨rfl, hb2⟩
    have HB2 := vl (HB1.out.trans (hb2.mono HB1.out.size))
    clear hb2
    go_wp2
    go_ret
    exact ⟨rfl, HB2.out⟩
  have hsz2 : (szS U : Int) ≤ 1048576 - (szS S : Int) := by omega
  have HN := vl (mods_of (S := U) (by omega))
  have hl1 : (0 : Int) ≤ 1048576 - (szS S : Int) - (szS U : Int) := by omega
  clear hbig
  go_wp2_with fail
  refine (szTS_yes B d U _ _ (by omega) (HU.out.below HB1.out) hsz2).mono ?_
  rintro e w2 ⟨rfl, hb2⟩
  have HB2 := vl (HB1.out.trans (hb2.mono HB1.out.size))
  have HX2 := vl (HX1.out.below hb2)
  clear hb2 HX1 HX0 HT0 HB0
  obtain ⟨x0, x1, x2, x3, x4, x5, x6, x7, x8, x9⟩ := HX2.out
  go_wp2_with fail
  refine (toLock k A c S _ HM.out (HT.out.below HB2.out)).mono ?_
  rintro e w3 ⟨⟨A3, c3, g3, lo3, hi3, gg3, GG3, rfl, _, ho3⟩, hb3⟩
  have HB3 := vl (HB2.out.trans (hb3.mono HB2.out.size))
  have HX3 := vl (HX2.out.below hb3)
  clear hb3 ho3 x0 x1 x2 x3 x4 x5 x6 x7 x8 x9
  go_wp2_with fail
  refine (toTrainS B d U _ HN.out (HU.out.below HB3.out)).mono ?_
  rintro e w4 ⟨rfl, hb4, lo4, hi4, gg4, GG4, ho4⟩
  have HB4 := vl (HB3.out.trans (hb4.mono HB3.out.size))
  have HX4 := vl (HX3.out.below hb4)
  have HP4 := vl ho4.trs
  clear hb4 ho4
  go_wp2_with fail
  refine (fits_spec k A3 _ S.length c3 _ U _ HN.out HP4.out).mono ?_
  rintro e w5 ⟨rfl, hb5⟩
  have HB5 := vl (HB4.out.trans (hb5.mono HB4.out.size))
  have HX5 := vl (HX4.out.below hb5)
  clear hb5
  obtain ⟨x0, x1, x2, x3, x4, x5, x6, x7, x8, x9⟩ := HX5.out
  go_wp2_with fail
  refine (toLock k A c S _ HM.out (HT.out.below HB5.out)).mono ?_
  rintro e w6 ⟨⟨A6, c6, g6, lo6, hi6, gg6, GG6, rfl, _, ho6⟩, hb6⟩
  have HB6 := vl (HB5.out.trans (hb6.mono HB5.out.size))
  have HX6 := vl (HX5.out.below hb6)
  have HP6 := vl ho6.trs
  clear hb6 ho6 x0 x1 x2 x3 x4 x5 x6 x7 x8 x9
  have hba := (Below.refl w6.heap.size w6).alloc (Nat.le_refl _) (.cells #[.int .i64 k.le, .int .i64 k.wi, .int .i64 k.sa, .int .i64 k.sb, .int .i64 k.ba, .int .i64 k.ar, .int .i64 k.ra, .int .i64 k.wa, .int .i64 k.ga, .slice A6 S.length c6] 73)
  have HB6a := vl (HB6.out.alloc HB6.out.size (.cells #[.int .i64 k.le, .int .i64 k.wi, .int .i64 k.sa, .int .i64 k.sb, .int .i64 k.ba, .int .i64 k.ar, .int .i64 k.ra, .int .i64 k.wa, .int .i64 k.ga, .slice A6 S.length c6] 73))
  have HX6a := vl (HX6.out.below hba)
  have HP6a := vl (HP6.out.below hba)
  have HY6 := vl (KBox.new w6 k (.slice A6 S.length c6) 73)
  clear hba HP6 HX6
  generalize hW6 : w6.alloc (.cells #[.int .i64 k.le, .int .i64 k.wi, .int .i64 k.sa, .int .i64 k.sb, .int .i64 k.ba, .int .i64 k.ar, .int .i64 k.ra, .int .i64 k.wa, .int .i64 k.ga, .slice A6 S.length c6] 73) = W6 at HB6a HX6a HP6a HY6
  go_wp2_with fail
  clear hW6
  refine (toTrainS B d U _ HN.out (HU.out.below HB6a.out)).mono ?_
  rintro e w7 ⟨rfl, hb7, lo7, hi7, gg7, GG7, ho7⟩
  have HB7 := vl (HB6a.out.trans (hb7.mono HB6a.out.size))
  have HX7 := vl (HX6a.out.below hb7)
  have HP7 := vl (HP6a.out.below hb7)
  have HY7 := vl (HY6.out.below hb7)
  have HQ7 := vl ho7.trs
  clear hb7 ho7
  obtain ⟨y0, y1, y2, y3, y4, y5, y6, y7, y8, y9⟩ := HY7.out
  go_wp2_with fail
  refine (fits_impl k A6 _ S.length c6 _ U _ HN.out HQ7.out).mono ?_
  rintro e w8 ⟨rfl, hb8⟩
  have HB8 := vl (HB7.out.trans (hb8.mono HB7.out.size))
  have HX8 := vl (HX7.out.below hb8)
  have HP8 := vl (HP7.out.below hb8)
  have HY8 := vl (HY7.out.below hb8)
  have HQ8 := vl (HQ7.out.below hb8)
  clear hb8 y0 y1 y2 y3 y4 y5 y6 y7 y8 y9
  obtain ⟨x0, x1, x2, x3, x4, x5, x6, x7, x8, x9⟩ := HX8.out
  obtain ⟨y0, y1, y2, y3, y4, y5, y6, y7, y8, y9⟩ := HY8.out
  go_wp2
  go_region_held3 (fun w' => w'.cell? ⟨w.heap.size, 0, none⟩ = some (.int .i64 k.le) ∧ w'.cell? ⟨w.heap.size, 1, none⟩ = some (.int .i64 k.wi) ∧ w'.cell? ⟨w.heap.size, 2, none⟩ = some (.int .i64 k.sa) ∧ w'.cell? ⟨w.heap.size, 3, none⟩ = some (.int .i64 k.sb) ∧ w'.cell? ⟨w.heap.size, 4, none⟩ = some (.int .i64 k.ba) ∧ w'.cell? ⟨w.heap.size, 5, none⟩ = some (.int .i64 k.ar) ∧ w'.cell? ⟨w.heap.size, 6, none⟩ = some (.int .i64 k.ra) ∧ w'.cell? ⟨w.heap.size, 7, none⟩ = some (.int .i64 k.wa) ∧ w'.cell? ⟨w.heap.size, 8, none⟩ = some (.int .i64 k.ga) ∧ w'.cell? ⟨w.heap.size, 9, none⟩ = some (.slice A S.length c) ∧ w'.cell? ⟨w6.heap.size, 0, none⟩ = some (.int .i64 k.le) ∧ w'.cell? ⟨w6.heap.size, 1, none⟩ = some (.int .i64 k.wi) ∧ w'.cell? ⟨w6.heap.size, 2, none⟩ = some (.int .i64 k.sa) ∧ w'.cell? ⟨w6.heap.size, 3, none⟩ = some (.int .i64 k.sb) ∧ w'.cell? ⟨w6.heap.size, 4, none⟩ = some (.int .i64 k.ba) ∧ w'.cell? ⟨w6.heap.size, 5, none⟩ = some (.int .i64 k.ar) ∧ w'.cell? ⟨w6.heap.size, 6, none⟩ = some (.int .i64 k.ra) ∧ w'.cell? ⟨w6.heap.size, 7, none⟩ = some (.int .i64 k.wa) ∧ w'.cell? ⟨w6.heap.size, 8, none⟩ = some (.int .i64 k.ga) ∧ w'.cell? ⟨w6.heap.size, 9, none⟩ = some (.slice A6 S.length c6) ∧ Below w8.heap.size w8 w')
    (first | exact ⟨x0, x1, x2, x3, x4, x5, x6, x7, x8, x9, y0, y1, y2, y3, y4, y5, y6, y7, y8, y9, Below.refl _ _⟩ | exact ⟨x0, x1, x2, x3, x4, x5, x6, x7, x8, x9, y0, y1, y2, y3, y4, y5, y6, y7, y8, y9, (Below.refl _ _).drew⟩ | assumption)
    (first
      | (go_at_call 71; obtain ⟨a0, a1, a2, a3, a4, a5, a6, a7, a8, a9, b0, b1, b2, b3, b4, b5, b6, b7, b8, b9, hb7⟩ : _ ∧ _ ∧ _ ∧ _ ∧ _ ∧ _ ∧ _ ∧ _ ∧ _ ∧ _ ∧ _ ∧ _ ∧ _ ∧ _ ∧ _ ∧ _ ∧ _ ∧ _ ∧ _ ∧ _ ∧ Below w8.heap.size w8 _ := by assumption
         refine (toLock k A c S _ HM.out (HT.out.below (HB8.out.trans (hb7.mono HB8.out.size)))).mono ?_
         rintro e w' ⟨⟨A9, c9, g9, lo9, hi9, gg9, GG9, rfl, _, ho9⟩, hb'⟩
         have HO9 := vl ho9.trs
         have S1 := S20 ⟨a0, a1, a2, a3, a4, a5, a6, a7, a8, a9⟩ ⟨b0, b1, b2, b3, b4, b5, b6, b7, b8, b9⟩ hb7 hb'
         clear ho9 hb')
      | (go_at_call 73; obtain ⟨a0, a1, a2, a3, a4, a5, a6, a7, a8, a9, b0, b1, b2, b3, b4, b5, b6, b7, b8, b9, hb7⟩ : _ ∧ _ ∧ _ ∧ _ ∧ _ ∧ _ ∧ _ ∧ _ ∧ _ ∧ _ ∧ _ ∧ _ ∧ _ ∧ _ ∧ _ ∧ _ ∧ _ ∧ _ ∧ _ ∧ _ ∧ Below w8.heap.size w8 _ := by assumption
         refine (eqLock k _ _ _ _ S _ HM.out (HP8.out.below hb7) HO9.out).mono ?_
         rintro e w' ⟨rfl, hb'⟩
         have S1 := S20 ⟨a0, a1, a2, a3, a4, a5, a6, a7, a8, a9⟩ ⟨b0, b1, b2, b3, b4, b5, b6, b7, b8, b9⟩ hb7 hb'
         clear hb'))
  obtain ⟨_, _, _, _, _, _, _, _, _, _, _, _, _, _, _, _, _, _, _, _, hb9⟩ : _ ∧ _ ∧ _ ∧ _ ∧ _ ∧ _ ∧ _ ∧ _ ∧ _ ∧ _ ∧ _ ∧ _ ∧ _ ∧ _ ∧ _ ∧ _ ∧ _ ∧ _ ∧ _ ∧ _ ∧ Below w8.heap.size w8 _ := by assumption
  clear S1 x0 x1 x2 x3 x4 x5 x6 x7 x8 x9 y0 y1 y2 y3 y4 y5 y6 y7 y8 y9
  obtain ⟨w9, hw9⟩ : ∃ wz, wz = w' := ⟨_, rfl⟩
  rw [← hw9] at hb9 ⊢
  clear hw9
  have HB9 := vl (HB8.out.trans (hb9.mono HB8.out.size))
  have HQ9 := vl (HQ8.out.below hb9)
  clear hb9
  go_wp2_with fail
  refine (toTrainS B d U _ HN.out (HU.out.below HB9.out)).mono ?_
  rintro e w10 ⟨rfl, hb10, lo10, hi10, gg10, GG10, ho10⟩
  have HB10 := vl (HB9.out.trans (hb10.mono HB9.out.size))
  have HQ10 := vl (HQ9.out.below hb10)
  have HR10 := vl ho10.trs
  clear hb10 ho10
  go_wp2_with fail
  refine (eqTrainS _ _ _ _ U _ HN.out HQ10.out HR10.out).mono ?_
  rintro e w11 ⟨rfl, hb11⟩
  have HB11 := vl (HB10.out.trans (hb11.mono HB10.out.size))
  clear hb11
  go_wp2
  go_ret
  exact ⟨rfl, HB11.out⟩

theorem parOk : Try.f20.params.toList.all (fun t => Try.prog.readableRec t && decide (t < Try.prog.types.size)) = true := by kernel_rfl
set_option maxRecDepth 100000 in
theorem lifted (os : Os) (started : os.Started) (H : Type) (enc : TypeId × Value → H) :
    ReturnsInHanded {} Try.checked os 20 .any (Rows.fnExactFitsChamberSpec.pre6 enc Try.prog Try.f20 Rows.fnExactFitsChamberRow.domain false) (Rows.fnExactFitsChamberSpec.post enc Try.prog Try.f20 false true false false) := by
  refine law_lifted (C := Try.checked) own started (by kernel_rfl) Try.func20 laid (fun t ht => by
      have h := List.all_eq_true.1 parOk t ht
      rw [Bool.and_eq_true] at h
      exact ⟨h.1, of_decide_eq_true h.2⟩) rfl Try.underlying4 rfl
    (fun xs hx => by
      rw [show Try.f20.params.toList.length = 2 from by rw [Try.params20]; rfl] at hx
      match xs, hx with
      | [d0, d1], _ => rfl)
    (ChangeSpec.witness6 (enc := enc) (C := Try.checked) false ⟨#[], #[.agg #[.int .i64 0, .int .i64 0, .int .i64 0, .int .i64 0, .int .i64 0, .int .i64 0, .int .i64 0, .int .i64 0, .int .i64 0, .slice none 0 0], .slice none 0 0], []⟩ 8 (by kernel_rfl) (by kernel_rfl) (by kernel_rfl) (by kernel_rfl)) ?_
  intro W base args ds p hval0 hA0 _
  have hval : ∀ (j : Nat) t v, Try.f20.params[j]? = some t → args[j]? = some v → Value.okWide Try.prog W .any base t v := hval0
  have hA : DataW.TrodAll enc Try.prog W 0 (fun _ => true) true Try.f20.params.toList args.toList ds p := hA0
  clear hA0 hval0
  rw [Try.params20] at hA hval
  obtain ⟨v0, vs0, d0, ds0, p0, q0, hargs, rfl, rfl, h0, r0⟩ := trodAll_cons hA
  obtain ⟨v1, vs1, d1, ds1, p1, q1, rfl, rfl, rfl, h1, r1⟩ := trodAll_cons r0
  obtain ⟨rfl, rfl, rfl⟩ := trodAll_nil r1
  obtain rfl : args = #[v0, v1] := by cases args; simp_all
  obtain ⟨k0, A0, c0, S0, rfl, x0⟩ := open_lock (hval 0 68 _ rfl rfl) h0
  obtain ⟨A1, c1, S1, rfl, x1⟩ := open_trains (hval 1 66 _ rfl rfl) h1
  exact walk k0 A0 c0 S0 A1 c1 S1 W x0 x1

/-- The statement. -/
theorem proved : Rows.FnExactFitsChamberSaid :=
  OpenClaim.holds_of_wide 20 Try.f20 rfl rfl rfl rfl rfl rfl rfl ⟨rfl, rfl, rfl, rfl, rfl⟩ rfl rfl rfl rfl rfl (by kernel_rfl) Try.func20 (by show joinedFacts Try.prog _ _ _ _ = true; unfold joinedFacts; rw [Io.mayEnter, Io.liftsFinal, Io.make]; kernel_rfl)
    (of_decide_eq_true (by kernel_rfl)) (by unfold Func.isWrapper; first | (rw [if_pos (by decide +kernel)]; kernel_rfl) | (rw [if_neg (by decide +kernel)]; exact ⟨rfl, rfl⟩))
    (fun os started H enc _ => lifted os started H enc)
#print axioms proved
end Go.Proofs.Ytmfeleocjmdooaa.fnExactFitsChamber
