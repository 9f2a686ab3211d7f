/-
  For every input the Go function 'laws.FnOneWay' returns true, and each argument reads afterwards as it read before. No further condition.
-/
import Derived.Test.YtaacgajpjkfplaaOw
import Derived.Test.YtaacgajpjkfplaaLift
import Derived.Test.YtaacgajpjkfplaaOpen
import Derived.ChangeMaps5
namespace Go.Proofs.Ytaacgajpjkfplaa.fnOneWay
open Go.Proofs.Ytaacgajpjkfplaa.C1 Go.Proofs.Ytaacgajpjkfplaa.Lift Go.Proofs.Ytaacgajpjkfplaa.Opened
open Go.ChangeShapes Go.WideShapes Go.ChangeAt Go.RowKit Go.ChangeMaps
set_option linter.unusedVariables false

set_option maxRecDepth 100000 in
set_option maxHeartbeats 40000000 in
theorem walk (A : Option Addr) (n cap : Nat) (f : Nat → Int) (w : World) (hn : n ≤ 9223372036854775807) (hs : SrcB w A n f) :
    Calls Try.prog 3 #[.slice A n cap] w fun e w' => e = .returned (.bool true) ∧ Below w.heap.size w w' := by
  by_cases hbig : 1048576 < n
  · go_enter Try.func3, Try.ntmps3
    go_wp2_with (go_at_call 14; refine (big_yes _ _ _ _ hbig).mono ?_; rintro e w' ⟨rfl, rfl⟩)
    go_ret
    exact ⟨rfl, Below.refl _ _⟩
  have hl : n ≤ 1048576 := by omega
  have HS := Lib.hid hs
  clear hs hbig
  go_enter Try.func3, Try.ntmps3
  go_wp2_with fail
  refine (big_no _ _ _ _ hl).mono ?_
  rintro e w' ⟨rfl, rfl⟩
  go_wp2_with fail
  refine (at_law A n cap 0 _ f hl (by omega) (by omega) HS.out).mono ?_
  rintro e w' ⟨rfl, rfl⟩
  obtain ⟨q0, q1⟩ := atZ_bd HS.out 0
  generalize atZ n f 0 = q at *
  have q2 : 0 ≤ q % 4 := Int.emod_nonneg _ (by decide)
  have q3 : q % 4 < 4 := Int.emod_lt_of_pos _ (by decide)
  have hx0 := Box4.new w (.bool false) (.int .i64 0) (.int .i64 0) (.int .i64 (1 + q % 4)) 26
  have HX0 := Lib.hid hx0
  have HB0 := Lib.hid ((Below.refl w.heap.size w).alloc (Nat.le_refl _) (.cells #[.bool false, .int .i64 0, .int .i64 0, .int .i64 (1 + q % 4)] 26))
  clear hx0
  go_wp2
  go_loopw [4, 5, 6] (fun s1 s2 s3 wr => ∃ (k : Nat) (u : Bool) (i r l x y : Int), 1 ≤ k ∧ k ≤ 40 ∧ s3 = .int .i64 (k : Int) ∧ s1 = .int .i64 x ∧ s2 = .int .i64 y ∧ Hid ((u = true → i = x ∧ 0 = y) ∧ (u = false → 0 = x ∧ i = y)) ∧ Hid (Box4 wr w.heap.size (.bool u) (.int .i64 i) (.int .i64 r) (.int .i64 l) 26) ∧ Hid (srOk ⟨u, i, r, l⟩ = true) ∧ r < k ∧ Hid (Below w.heap.size w wr)) (fun _ _ s3 _ => 40 - (intOf s3).toNat)
  case atStart => exact ⟨1, false, 0, 0, 1 + q % 4, 0, 0, by omega, by omega, rfl, rfl, rfl, Lib.hid ⟨fun h => (by cases h), fun _ => ⟨rfl, rfl⟩⟩, HX0, Lib.hid (srOk_iff.2 ⟨⟨Int.le_refl _, Int.le_refl _⟩, ⟨Int.le_refl _, (by decide : (0 : Int) ≤ 1000000)⟩, (by show 1 ≤ 1 + q % 4; omega), (by show 1 + q % 4 ≤ 100; omega)⟩), by omega, HB0⟩
  case round =>
    clear HX0 HB0 q0 q1 q2 q3
    obtain ⟨k, u, i, r, l, x, y, hk1, hk, rfl, rfl, rfl, HU, HX, HOK, hrk, HB⟩ := hrel
    by_cases hlt : k < 40
    · go_wp2_with fail
      refine (at_law A n cap (k : Int) _ f hl (by omega) (by omega) (HS.out.below HB.out)).mono ?_
      rintro e w' ⟨rfl, rfl⟩
      obtain ⟨a0, a1⟩ := atZ_bd HS.out (k : Int)
      generalize atZ n f (k : Int) = a at *
      obtain ⟨⟨i0, i1⟩, ⟨r0, r1⟩, l0, l1⟩ := srOk_iff.1 HOK.out
      simp only at i0 i1 r0 r1 l0 l1
      have hp := HX.out.lt
      have t0 : 0 ≤ a % 2 := Int.emod_nonneg _ (by decide)
      have t1 : 0 ≤ a % 3 := Int.emod_nonneg _ (by decide)
      have t2 : 0 ≤ a % 5 := Int.emod_nonneg _ (by decide)
      obtain ⟨x0, x1, x2, x3⟩ := HX.out.at
      by_cases h3 : a % 3 = 0
      · have h3' : (a % 3 == 0) = true := by simp [h3]
        clear h3
        cases u
        · obtain ⟨rfl, rfl⟩ := HU.out.2 rfl
          by_cases hi : 0 < i
          · have HL := Lib.hid (show leaveS ⟨false, i, r, l⟩ = ⟨false, i - 1, r, l⟩ by unfold leaveS; rw [if_pos ⟨HOK.out, hi⟩])
            have HOK2 := Lib.hid (show srOk ⟨false, i - 1, r, l⟩ = true from srOk_iff.2 ⟨⟨(by show 0 ≤ i - 1; omega), (by show i - 1 ≤ r; omega)⟩, ⟨r0, r1⟩, l0, l1⟩)
            clear HOK HU
            go_wp2_with fail
            refine (leave_at HL.out _).mono ?_
            rintro e w1 ⟨rfl, hb1⟩
            have HX1 := Lib.hid (HX.out.below hb1)
            have HB1 := Lib.hid (HB.out.trans (hb1.mono HB.out.size))
            have hp1 := HX1.out.lt
            clear hb1 x0 x1 x2 x3
            obtain ⟨x0, x1, x2, x3⟩ := HX1.out.at
            obtain ⟨z0, z1, z2, z3⟩ := HX1.out.free
            go_wp2_with fail
            all_goals
              refine (srok_at HOK2.out _).mono ?_
              rintro e w3 ⟨rfl, hb3⟩
              have HX3 := Lib.hid ((((((HX1.out.set0 _).set1 _).set2 _).set3 _).alloc _).below hb3)
              have HB3 := Lib.hid (((((((HB1.out).setCell (Nat.le_refl _) _).setCell (Nat.le_refl _) _).setCell (Nat.le_refl _) _).setCell (Nat.le_refl _) _).alloc (by simp; have := HB1.out.size; omega) _).trans (hb3.mono (by first | exact HB1.out.size | (simp; have := HB1.out.size; omega))))
              clear hb3
              go_wp2
              go_roundw
              case rel => exact ⟨k + 1, false, (i - 1), r, l, 0, (i - 1), by omega, by omega, by go_num, rfl, rfl, Lib.hid ⟨fun h => (by first | exact ⟨rfl, rfl⟩ | cases h), fun h => (by first | exact ⟨rfl, rfl⟩ | cases h)⟩, HX3, HOK2, by omega, HB3⟩
              case measure => simp [intOf]; omega
          · obtain rfl : i = 0 := by omega
            have HL := Lib.hid (show leaveS ⟨false, 0, r, l⟩ = ⟨false, 0, r, l⟩ by unfold leaveS; rw [if_neg (fun h => hi h.2)])
            have HOK2 := HOK
            clear hi
            clear HOK HU
            go_wp2_with fail
            refine (leave_at HL.out _).mono ?_
            rintro e w1 ⟨rfl, hb1⟩
            have HX1 := Lib.hid (HX.out.below hb1)
            have HB1 := Lib.hid (HB.out.trans (hb1.mono HB.out.size))
            have hp1 := HX1.out.lt
            clear hb1 x0 x1 x2 x3
            obtain ⟨x0, x1, x2, x3⟩ := HX1.out.at
            obtain ⟨z0, z1, z2, z3⟩ := HX1.out.free
            go_wp2_with fail
            all_goals
              refine (srok_at HOK2.out _).mono ?_
              rintro e w3 ⟨rfl, hb3⟩
              have HX3 := Lib.hid ((((((HX1.out.set0 _).set1 _).set2 _).set3 _).alloc _).below hb3)
              have HB3 := Lib.hid (((((((HB1.out).setCell (Nat.le_refl _) _).setCell (Nat.le_refl _) _).setCell (Nat.le_refl _) _).setCell (Nat.le_refl _) _).alloc (by simp; have := HB1.out.size; omega) _).trans (hb3.mono (by first | exact HB1.out.size | (simp; have := HB1.out.size; omega))))
              clear hb3
              go_wp2
              go_roundw
              case rel => exact ⟨k + 1, false, 0, r, l, 0, 0, by omega, by omega, by go_num, rfl, rfl, Lib.hid ⟨fun h => (by first | exact ⟨rfl, rfl⟩ | cases h), fun h => (by first | exact ⟨rfl, rfl⟩ | cases h)⟩, HX3, HOK2, by omega, HB3⟩
              case measure => simp [intOf]; omega
        · obtain ⟨rfl, rfl⟩ := HU.out.1 rfl
          by_cases hi : 0 < i
          · have HL := Lib.hid (show leaveS ⟨true, i, r, l⟩ = ⟨true, i - 1, r, l⟩ by unfold leaveS; rw [if_pos ⟨HOK.out, hi⟩])
            have HOK2 := Lib.hid (show srOk ⟨true, i - 1, r, l⟩ = true from srOk_iff.2 ⟨⟨(by show 0 ≤ i - 1; omega), (by show i - 1 ≤ r; omega)⟩, ⟨r0, r1⟩, l0, l1⟩)
            clear HOK HU
            go_wp2_with fail
            refine (leave_at HL.out _).mono ?_
            rintro e w1 ⟨rfl, hb1⟩
            have HX1 := Lib.hid (HX.out.below hb1)
            have HB1 := Lib.hid (HB.out.trans (hb1.mono HB.out.size))
            have hp1 := HX1.out.lt
            clear hb1 x0 x1 x2 x3
            obtain ⟨x0, x1, x2, x3⟩ := HX1.out.at
            obtain ⟨z0, z1, z2, z3⟩ := HX1.out.free
            go_wp2_with fail
            all_goals
              refine (srok_at HOK2.out _).mono ?_
              rintro e w3 ⟨rfl, hb3⟩
              have HX3 := Lib.hid ((((((HX1.out.set0 _).set1 _).set2 _).set3 _).alloc _).below hb3)
              have HB3 := Lib.hid (((((((HB1.out).setCell (Nat.le_refl _) _).setCell (Nat.le_refl _) _).setCell (Nat.le_refl _) _).setCell (Nat.le_refl _) _).alloc (by simp; have := HB1.out.size; omega) _).trans (hb3.mono (by first | exact HB1.out.size | (simp; have := HB1.out.size; omega))))
              clear hb3
              go_wp2
              go_roundw
              case rel => exact ⟨k + 1, true, (i - 1), r, l, (i - 1), 0, by omega, by omega, by go_num, rfl, rfl, Lib.hid ⟨fun h => (by first | exact ⟨rfl, rfl⟩ | cases h), fun h => (by first | exact ⟨rfl, rfl⟩ | cases h)⟩, HX3, HOK2, by omega, HB3⟩
              case measure => simp [intOf]; omega
          · obtain rfl : i = 0 := by omega
            have HL := Lib.hid (show leaveS ⟨true, 0, r, l⟩ = ⟨true, 0, r, l⟩ by unfold leaveS; rw [if_neg (fun h => hi h.2)])
            have HOK2 := HOK
            clear hi
            clear HOK HU
            go_wp2_with fail
            refine (leave_at HL.out _).mono ?_
            rintro e w1 ⟨rfl, hb1⟩
            have HX1 := Lib.hid (HX.out.below hb1)
            have HB1 := Lib.hid (HB.out.trans (hb1.mono HB.out.size))
            have hp1 := HX1.out.lt
            clear hb1 x0 x1 x2 x3
            obtain ⟨x0, x1, x2, x3⟩ := HX1.out.at
            obtain ⟨z0, z1, z2, z3⟩ := HX1.out.free
            go_wp2_with fail
            all_goals
              refine (srok_at HOK2.out _).mono ?_
              rintro e w3 ⟨rfl, hb3⟩
              have HX3 := Lib.hid ((((((HX1.out.set0 _).set1 _).set2 _).set3 _).alloc _).below hb3)
              have HB3 := Lib.hid (((((((HB1.out).setCell (Nat.le_refl _) _).setCell (Nat.le_refl _) _).setCell (Nat.le_refl _) _).setCell (Nat.le_refl _) _).alloc (by simp; have := HB1.out.size; omega) _).trans (hb3.mono (by first | exact HB1.out.size | (simp; have := HB1.out.size; omega))))
              clear hb3
              go_wp2
              go_roundw
              case rel => exact ⟨k + 1, true, 0, r, l, 0, 0, by omega, by omega, by go_num, rfl, rfl, Lib.hid ⟨fun h => (by first | exact ⟨rfl, rfl⟩ | cases h), fun h => (by first | exact ⟨rfl, rfl⟩ | cases h)⟩, HX3, HOK2, by omega, HB3⟩
              case measure => simp [intOf]; omega
      · have h3' : (a % 3 == 0) = false := by simp [h3]
        clear h3
        by_cases h2 : a % 2 = 0 <;> by_cases h5 : a % 5 = 0 <;> cases u
        · have h2' : (a % 2 == 0) = true := by simp [h2]
          have h5' : (a % 5 == 0) = true := by simp [h5]
          obtain ⟨rfl, rfl⟩ := HU.out.2 rfl
          clear h2 h5 HU
          cases hm : mayP ⟨false, i, r, l⟩ true true with
          | false =>
            have HM := Lib.hid hm
            have HOK2 := HOK
            clear hm
            go_wp2_with fail
            refine (may_at HM.out _).mono ?_
            rintro e w1 ⟨rfl, hb1⟩
            have HX1 := Lib.hid (HX.out.below hb1)
            have HB1 := Lib.hid (HB.out.trans (hb1.mono HB.out.size))
            have hp1 := HX1.out.lt
            clear hb1 x0 x1 x2 x3
            obtain ⟨x0, x1, x2, x3⟩ := HX1.out.at
            go_wp2_with fail
            all_goals
              refine (srok_at HOK2.out _).mono ?_
              rintro e w3 ⟨rfl, hb3⟩
              have HX3 := Lib.hid (HX1.out.below hb3)
              have HB3 := Lib.hid ((HB1.out).trans (hb3.mono (by first | exact HB1.out.size | (simp; have := HB1.out.size; omega))))
              clear hb3
              go_wp2
              go_roundw
              case rel => exact ⟨k + 1, false, i, r, l, 0, i, by omega, by omega, by go_num, rfl, rfl, Lib.hid ⟨fun h => (by first | exact ⟨rfl, rfl⟩ | cases h), fun h => (by first | exact ⟨rfl, rfl⟩ | cases h)⟩, HX3, HOK2, by omega, HB3⟩
              case measure => simp [intOf]; omega
          | true =>
            have HM := Lib.hid hm
            obtain ⟨m1, m2, m3⟩ := mayP_parts hm
            simp only at m2 m3
            clear hm
            have m4 : i = 0 := by first | exact m3 (by decide) | exact m3
            subst m4
            clear m2 m3
            have HE := Lib.hid (show enterS ⟨false, 0, r, l⟩ true = ⟨true, 1, 1, l⟩ by unfold enterS; rw [if_pos ⟨m1, fun h => (by have := h.1; simp only at this; omega)⟩]; rfl)
            clear m1
            have HOK2 := Lib.hid (show srOk ⟨true, 1, 1, l⟩ = true from srOk_iff.2 ⟨⟨(by show (0 : Int) ≤ 1; decide), (by show (1 : Int) ≤ 1; decide)⟩, ⟨(by show (0 : Int) ≤ 1; decide), (by show (1 : Int) ≤ 1000000; decide)⟩, l0, l1⟩)
            clear HOK
            go_wp2_with fail
            refine (may_at HM.out _).mono ?_
            rintro e w1 ⟨rfl, hb1⟩
            have HX1 := Lib.hid (HX.out.below hb1)
            have HB1a := Lib.hid (HB.out.trans (hb1.mono HB.out.size))
            have hp1 := HX1.out.lt
            clear hb1 x0 x1 x2 x3
            obtain ⟨x0, x1, x2, x3⟩ := HX1.out.at
            go_wp2_with fail
            refine (enter_at HE.out _).mono ?_
            rintro e w2 ⟨rfl, hb2⟩
            have HX2 := Lib.hid (HX1.out.below hb2)
            have HB1 := Lib.hid (HB1a.out.trans (hb2.mono HB1a.out.size))
            have hp2 := HX2.out.lt
            clear hb2 x0 x1 x2 x3
            obtain ⟨x0, x1, x2, x3⟩ := HX2.out.at
            obtain ⟨z0, z1, z2, z3⟩ := HX2.out.free
            go_wp2_with fail
            refine (btoi_law true 1 rfl _).mono ?_
            rintro e w' ⟨rfl, rfl⟩
            go_wp2_with fail
            refine (btoi_law false 0 rfl _).mono ?_
            rintro e w' ⟨rfl, rfl⟩
            go_wp2_with fail
            all_goals
              refine (srok_at HOK2.out _).mono ?_
              rintro e w3 ⟨rfl, hb3⟩
              have HX3 := Lib.hid (((((HX2.out.set0 _).set1 _).set2 _).set3 _).below hb3)
              have HB3 := Lib.hid ((((((HB1.out).setCell (Nat.le_refl _) _).setCell (Nat.le_refl _) _).setCell (Nat.le_refl _) _).setCell (Nat.le_refl _) _).trans (hb3.mono (by first | exact HB1.out.size | (simp; have := HB1.out.size; omega))))
              clear hb3
              go_wp2
              go_roundw
              case rel => exact ⟨k + 1, true, 1, 1, l, 1, 0, by omega, by omega, by go_num, rfl, rfl, Lib.hid ⟨fun h => (by first | exact ⟨rfl, rfl⟩ | cases h), fun h => (by first | exact ⟨rfl, rfl⟩ | cases h)⟩, HX3, HOK2, by omega, HB3⟩
              case measure => simp [intOf]; omega
        · have h2' : (a % 2 == 0) = true := by simp [h2]
          have h5' : (a % 5 == 0) = true := by simp [h5]
          obtain ⟨rfl, rfl⟩ := HU.out.1 rfl
          clear h2 h5 HU
          cases hm : mayP ⟨true, i, r, l⟩ true true with
          | false =>
            have HM := Lib.hid hm
            have HOK2 := HOK
            clear hm
            go_wp2_with fail
            refine (may_at HM.out _).mono ?_
            rintro e w1 ⟨rfl, hb1⟩
            have HX1 := Lib.hid (HX.out.below hb1)
            have HB1 := Lib.hid (HB.out.trans (hb1.mono HB.out.size))
            have hp1 := HX1.out.lt
            clear hb1 x0 x1 x2 x3
            obtain ⟨x0, x1, x2, x3⟩ := HX1.out.at
            go_wp2_with fail
            all_goals
              refine (srok_at HOK2.out _).mono ?_
              rintro e w3 ⟨rfl, hb3⟩
              have HX3 := Lib.hid (HX1.out.below hb3)
              have HB3 := Lib.hid ((HB1.out).trans (hb3.mono (by first | exact HB1.out.size | (simp; have := HB1.out.size; omega))))
              clear hb3
              go_wp2
              go_roundw
              case rel => exact ⟨k + 1, true, i, r, l, i, 0, by omega, by omega, by go_num, rfl, rfl, Lib.hid ⟨fun h => (by first | exact ⟨rfl, rfl⟩ | cases h), fun h => (by first | exact ⟨rfl, rfl⟩ | cases h)⟩, HX3, HOK2, by omega, HB3⟩
              case measure => simp [intOf]; omega
          | true =>
            have HM := Lib.hid hm
            obtain ⟨m1, m2, m3⟩ := mayP_parts hm
            simp only at m2 m3
            clear hm
            have m4 : r < l := by first | exact m2 rfl rfl | exact m2 trivial rfl | exact m2 trivial trivial | exact m2
            clear m2 m3
            have HE := Lib.hid (show enterS ⟨true, i, r, l⟩ true = ⟨true, i + 1, r + 1, l⟩ by unfold enterS; rw [if_pos ⟨m1, fun h => (by have := h.1; simp only at this; omega)⟩]; rfl)
            clear m1
            have HOK2 := Lib.hid (show srOk ⟨true, i + 1, r + 1, l⟩ = true from srOk_iff.2 ⟨⟨(by show 0 ≤ i + 1; omega), (by show i + 1 ≤ r + 1; omega)⟩, ⟨(by show 0 ≤ r + 1; omega), (by show r + 1 ≤ 1000000; omega)⟩, l0, l1⟩)
            clear HOK
            go_wp2_with fail
            refine (may_at HM.out _).mono ?_
            rintro e w1 ⟨rfl, hb1⟩
            have HX1 := Lib.hid (HX.out.below hb1)
            have HB1a := Lib.hid (HB.out.trans (hb1.mono HB.out.size))
            have hp1 := HX1.out.lt
            clear hb1 x0 x1 x2 x3
            obtain ⟨x0, x1, x2, x3⟩ := HX1.out.at
            go_wp2_with fail
            refine (enter_at HE.out _).mono ?_
            rintro e w2 ⟨rfl, hb2⟩
            have HX2 := Lib.hid (HX1.out.below hb2)
            have HB1 := Lib.hid (HB1a.out.trans (hb2.mono HB1a.out.size))
            have hp2 := HX2.out.lt
            clear hb2 x0 x1 x2 x3
            obtain ⟨x0, x1, x2, x3⟩ := HX2.out.at
            obtain ⟨z0, z1, z2, z3⟩ := HX2.out.free
            go_wp2_with fail
            refine (btoi_law true 1 rfl _).mono ?_
            rintro e w' ⟨rfl, rfl⟩
            go_wp2_with fail
            refine (btoi_law false 0 rfl _).mono ?_
            rintro e w' ⟨rfl, rfl⟩
            go_wp2_with fail
            all_goals
              refine (srok_at HOK2.out _).mono ?_
              rintro e w3 ⟨rfl, hb3⟩
              have HX3 := Lib.hid (((((HX2.out.set0 _).set1 _).set2 _).set3 _).below hb3)
              have HB3 := Lib.hid ((((((HB1.out).setCell (Nat.le_refl _) _).setCell (Nat.le_refl _) _).setCell (Nat.le_refl _) _).setCell (Nat.le_refl _) _).trans (hb3.mono (by first | exact HB1.out.size | (simp; have := HB1.out.size; omega))))
              clear hb3
              go_wp2
              go_roundw
              case rel => exact ⟨k + 1, true, (i + 1), (r + 1), l, (i + 1), 0, by omega, by omega, by go_num, rfl, rfl, Lib.hid ⟨fun h => (by first | exact ⟨rfl, rfl⟩ | cases h), fun h => (by first | exact ⟨rfl, rfl⟩ | cases h)⟩, HX3, HOK2, by omega, HB3⟩
              case measure => simp [intOf]; omega
        · have h2' : (a % 2 == 0) = true := by simp [h2]
          have h5' : (a % 5 == 0) = false := by simp [h5]
          obtain ⟨rfl, rfl⟩ := HU.out.2 rfl
          clear h2 h5 HU
          cases hm : mayP ⟨false, i, r, l⟩ true false with
          | false =>
            have HM := Lib.hid hm
            have HOK2 := HOK
            clear hm
            go_wp2_with fail
            refine (may_at HM.out _).mono ?_
            rintro e w1 ⟨rfl, hb1⟩
            have HX1 := Lib.hid (HX.out.below hb1)
            have HB1 := Lib.hid (HB.out.trans (hb1.mono HB.out.size))
            have hp1 := HX1.out.lt
            clear hb1 x0 x1 x2 x3
            obtain ⟨x0, x1, x2, x3⟩ := HX1.out.at
            go_wp2_with fail
            all_goals
              refine (srok_at HOK2.out _).mono ?_
              rintro e w3 ⟨rfl, hb3⟩
              have HX3 := Lib.hid (HX1.out.below hb3)
              have HB3 := Lib.hid ((HB1.out).trans (hb3.mono (by first | exact HB1.out.size | (simp; have := HB1.out.size; omega))))
              clear hb3
              go_wp2
              go_roundw
              case rel => exact ⟨k + 1, false, i, r, l, 0, i, by omega, by omega, by go_num, rfl, rfl, Lib.hid ⟨fun h => (by first | exact ⟨rfl, rfl⟩ | cases h), fun h => (by first | exact ⟨rfl, rfl⟩ | cases h)⟩, HX3, HOK2, by omega, HB3⟩
              case measure => simp [intOf]; omega
          | true =>
            have HM := Lib.hid hm
            obtain ⟨m1, m2, m3⟩ := mayP_parts hm
            simp only at m2 m3
            clear hm
            have m4 : i = 0 := by first | exact m3 (by decide) | exact m3
            subst m4
            clear m2 m3
            have HE := Lib.hid (show enterS ⟨false, 0, r, l⟩ true = ⟨true, 1, 1, l⟩ by unfold enterS; rw [if_pos ⟨m1, fun h => (by have := h.1; simp only at this; omega)⟩]; rfl)
            clear m1
            have HOK2 := Lib.hid (show srOk ⟨true, 1, 1, l⟩ = true from srOk_iff.2 ⟨⟨(by show (0 : Int) ≤ 1; decide), (by show (1 : Int) ≤ 1; decide)⟩, ⟨(by show (0 : Int) ≤ 1; decide), (by show (1 : Int) ≤ 1000000; decide)⟩, l0, l1⟩)
            clear HOK
            go_wp2_with fail
            refine (may_at HM.out _).mono ?_
            rintro e w1 ⟨rfl, hb1⟩
            have HX1 := Lib.hid (HX.out.below hb1)
            have HB1a := Lib.hid (HB.out.trans (hb1.mono HB.out.size))
            have hp1 := HX1.out.lt
            clear hb1 x0 x1 x2 x3
            obtain ⟨x0, x1, x2, x3⟩ := HX1.out.at
            go_wp2_with fail
            refine (enter_at HE.out _).mono ?_
            rintro e w2 ⟨rfl, hb2⟩
            have HX2 := Lib.hid (HX1.out.below hb2)
            have HB1 := Lib.hid (HB1a.out.trans (hb2.mono HB1a.out.size))
            have hp2 := HX2.out.lt
            clear hb2 x0 x1 x2 x3
            obtain ⟨x0, x1, x2, x3⟩ := HX2.out.at
            obtain ⟨z0, z1, z2, z3⟩ := HX2.out.free
            go_wp2_with fail
            refine (btoi_law true 1 rfl _).mono ?_
            rintro e w' ⟨rfl, rfl⟩
            go_wp2_with fail
            refine (btoi_law false 0 rfl _).mono ?_
            rintro e w' ⟨rfl, rfl⟩
            go_wp2_with fail
            all_goals
              refine (srok_at HOK2.out _).mono ?_
              rintro e w3 ⟨rfl, hb3⟩
              have HX3 := Lib.hid (((((HX2.out.set0 _).set1 _).set2 _).set3 _).below hb3)
              have HB3 := Lib.hid ((((((HB1.out).setCell (Nat.le_refl _) _).setCell (Nat.le_refl _) _).setCell (Nat.le_refl _) _).setCell (Nat.le_refl _) _).trans (hb3.mono (by first | exact HB1.out.size | (simp; have := HB1.out.size; omega))))
              clear hb3
              go_wp2
              go_roundw
              case rel => exact ⟨k + 1, true, 1, 1, l, 1, 0, by omega, by omega, by go_num, rfl, rfl, Lib.hid ⟨fun h => (by first | exact ⟨rfl, rfl⟩ | cases h), fun h => (by first | exact ⟨rfl, rfl⟩ | cases h)⟩, HX3, HOK2, by omega, HB3⟩
              case measure => simp [intOf]; omega
        · have h2' : (a % 2 == 0) = true := by simp [h2]
          have h5' : (a % 5 == 0) = false := by simp [h5]
          obtain ⟨rfl, rfl⟩ := HU.out.1 rfl
          clear h2 h5 HU
          cases hm : mayP ⟨true, i, r, l⟩ true false with
          | false =>
            have HM := Lib.hid hm
            have HOK2 := HOK
            clear hm
            go_wp2_with fail
            refine (may_at HM.out _).mono ?_
            rintro e w1 ⟨rfl, hb1⟩
            have HX1 := Lib.hid (HX.out.below hb1)
            have HB1 := Lib.hid (HB.out.trans (hb1.mono HB.out.size))
            have hp1 := HX1.out.lt
            clear hb1 x0 x1 x2 x3
            obtain ⟨x0, x1, x2, x3⟩ := HX1.out.at
            go_wp2_with fail
            all_goals
              refine (srok_at HOK2.out _).mono ?_
              rintro e w3 ⟨rfl, hb3⟩
              have HX3 := Lib.hid (HX1.out.below hb3)
              have HB3 := Lib.hid ((HB1.out).trans (hb3.mono (by first | exact HB1.out.size | (simp; have := HB1.out.size; omega))))
              clear hb3
              go_wp2
              go_roundw
              case rel => exact ⟨k + 1, true, i, r, l, i, 0, by omega, by omega, by go_num, rfl, rfl, Lib.hid ⟨fun h => (by first | exact ⟨rfl, rfl⟩ | cases h), fun h => (by first | exact ⟨rfl, rfl⟩ | cases h)⟩, HX3, HOK2, by omega, HB3⟩
              case measure => simp [intOf]; omega
          | true =>
            have HM := Lib.hid hm
            obtain ⟨m1, m2, m3⟩ := mayP_parts hm
            simp only at m2 m3
            clear hm
            clear m2 m3
            have HE := Lib.hid (show enterS ⟨true, i, r, l⟩ true = ⟨true, i + 1, r + 1, l⟩ by unfold enterS; rw [if_pos ⟨m1, fun h => (by have := h.1; simp only at this; omega)⟩]; rfl)
            clear m1
            have HOK2 := Lib.hid (show srOk ⟨true, i + 1, r + 1, l⟩ = true from srOk_iff.2 ⟨⟨(by show 0 ≤ i + 1; omega), (by show i + 1 ≤ r + 1; omega)⟩, ⟨(by show 0 ≤ r + 1; omega), (by show r + 1 ≤ 1000000; omega)⟩, l0, l1⟩)
            clear HOK
            go_wp2_with fail
            refine (may_at HM.out _).mono ?_
            rintro e w1 ⟨rfl, hb1⟩
            have HX1 := Lib.hid (HX.out.below hb1)
            have HB1a := Lib.hid (HB.out.trans (hb1.mono HB.out.size))
            have hp1 := HX1.out.lt
            clear hb1 x0 x1 x2 x3
            obtain ⟨x0, x1, x2, x3⟩ := HX1.out.at
            go_wp2_with fail
            refine (enter_at HE.out _).mono ?_
            rintro e w2 ⟨rfl, hb2⟩
            have HX2 := Lib.hid (HX1.out.below hb2)
            have HB1 := Lib.hid (HB1a.out.trans (hb2.mono HB1a.out.size))
            have hp2 := HX2.out.lt
            clear hb2 x0 x1 x2 x3
            obtain ⟨x0, x1, x2, x3⟩ := HX2.out.at
            obtain ⟨z0, z1, z2, z3⟩ := HX2.out.free
            go_wp2_with fail
            refine (btoi_law true 1 rfl _).mono ?_
            rintro e w' ⟨rfl, rfl⟩
            go_wp2_with fail
            refine (btoi_law false 0 rfl _).mono ?_
            rintro e w' ⟨rfl, rfl⟩
            go_wp2_with fail
            all_goals
              refine (srok_at HOK2.out _).mono ?_
              rintro e w3 ⟨rfl, hb3⟩
              have HX3 := Lib.hid (((((HX2.out.set0 _).set1 _).set2 _).set3 _).below hb3)
              have HB3 := Lib.hid ((((((HB1.out).setCell (Nat.le_refl _) _).setCell (Nat.le_refl _) _).setCell (Nat.le_refl _) _).setCell (Nat.le_refl _) _).trans (hb3.mono (by first | exact HB1.out.size | (simp; have := HB1.out.size; omega))))
              clear hb3
              go_wp2
              go_roundw
              case rel => exact ⟨k + 1, true, (i + 1), (r + 1), l, (i + 1), 0, by omega, by omega, by go_num, rfl, rfl, Lib.hid ⟨fun h => (by first | exact ⟨rfl, rfl⟩ | cases h), fun h => (by first | exact ⟨rfl, rfl⟩ | cases h)⟩, HX3, HOK2, by omega, HB3⟩
              case measure => simp [intOf]; omega
        · have h2' : (a % 2 == 0) = false := by simp [h2]
          have h5' : (a % 5 == 0) = true := by simp [h5]
          obtain ⟨rfl, rfl⟩ := HU.out.2 rfl
          clear h2 h5 HU
          cases hm : mayP ⟨false, i, r, l⟩ false true with
          | false =>
            have HM := Lib.hid hm
            have HOK2 := HOK
            clear hm
            go_wp2_with fail
            refine (may_at HM.out _).mono ?_
            rintro e w1 ⟨rfl, hb1⟩
            have HX1 := Lib.hid (HX.out.below hb1)
            have HB1 := Lib.hid (HB.out.trans (hb1.mono HB.out.size))
            have hp1 := HX1.out.lt
            clear hb1 x0 x1 x2 x3
            obtain ⟨x0, x1, x2, x3⟩ := HX1.out.at
            go_wp2_with fail
            all_goals
              refine (srok_at HOK2.out _).mono ?_
              rintro e w3 ⟨rfl, hb3⟩
              have HX3 := Lib.hid (HX1.out.below hb3)
              have HB3 := Lib.hid ((HB1.out).trans (hb3.mono (by first | exact HB1.out.size | (simp; have := HB1.out.size; omega))))
              clear hb3
              go_wp2
              go_roundw
              case rel => exact ⟨k + 1, false, i, r, l, 0, i, by omega, by omega, by go_num, rfl, rfl, Lib.hid ⟨fun h => (by first | exact ⟨rfl, rfl⟩ | cases h), fun h => (by first | exact ⟨rfl, rfl⟩ | cases h)⟩, HX3, HOK2, by omega, HB3⟩
              case measure => simp [intOf]; omega
          | true =>
            have HM := Lib.hid hm
            obtain ⟨m1, m2, m3⟩ := mayP_parts hm
            simp only at m2 m3
            clear hm
            have m4 : r < l := by first | exact m2 rfl rfl | exact m2 trivial rfl | exact m2 trivial trivial | exact m2
            clear m2 m3
            have HE := Lib.hid (show enterS ⟨false, i, r, l⟩ false = ⟨false, i + 1, r + 1, l⟩ by unfold enterS; rw [if_pos ⟨m1, fun h => (by have := h.1; simp only at this; omega)⟩]; rfl)
            clear m1
            have HOK2 := Lib.hid (show srOk ⟨false, i + 1, r + 1, l⟩ = true from srOk_iff.2 ⟨⟨(by show 0 ≤ i + 1; omega), (by show i + 1 ≤ r + 1; omega)⟩, ⟨(by show 0 ≤ r + 1; omega), (by show r + 1 ≤ 1000000; omega)⟩, l0, l1⟩)
            clear HOK
            go_wp2_with fail
            refine (may_at HM.out _).mono ?_
            rintro e w1 ⟨rfl, hb1⟩
            have HX1 := Lib.hid (HX.out.below hb1)
            have HB1a := Lib.hid (HB.out.trans (hb1.mono HB.out.size))
            have hp1 := HX1.out.lt
            clear hb1 x0 x1 x2 x3
            obtain ⟨x0, x1, x2, x3⟩ := HX1.out.at
            go_wp2_with fail
            refine (enter_at HE.out _).mono ?_
            rintro e w2 ⟨rfl, hb2⟩
            have HX2 := Lib.hid (HX1.out.below hb2)
            have HB1 := Lib.hid (HB1a.out.trans (hb2.mono HB1a.out.size))
            have hp2 := HX2.out.lt
            clear hb2 x0 x1 x2 x3
            obtain ⟨x0, x1, x2, x3⟩ := HX2.out.at
            obtain ⟨z0, z1, z2, z3⟩ := HX2.out.free
            go_wp2_with fail
            refine (btoi_law false 0 rfl _).mono ?_
            rintro e w' ⟨rfl, rfl⟩
            go_wp2_with fail
            refine (btoi_law true 1 rfl _).mono ?_
            rintro e w' ⟨rfl, rfl⟩
            go_wp2_with fail
            all_goals
              refine (srok_at HOK2.out _).mono ?_
              rintro e w3 ⟨rfl, hb3⟩
              have HX3 := Lib.hid (((((HX2.out.set0 _).set1 _).set2 _).set3 _).below hb3)
              have HB3 := Lib.hid ((((((HB1.out).setCell (Nat.le_refl _) _).setCell (Nat.le_refl _) _).setCell (Nat.le_refl _) _).setCell (Nat.le_refl _) _).trans (hb3.mono (by first | exact HB1.out.size | (simp; have := HB1.out.size; omega))))
              clear hb3
              go_wp2
              go_roundw
              case rel => exact ⟨k + 1, false, (i + 1), (r + 1), l, 0, (i + 1), by omega, by omega, by go_num, rfl, rfl, Lib.hid ⟨fun h => (by first | exact ⟨rfl, rfl⟩ | cases h), fun h => (by first | exact ⟨rfl, rfl⟩ | cases h)⟩, HX3, HOK2, by omega, HB3⟩
              case measure => simp [intOf]; omega
        · have h2' : (a % 2 == 0) = false := by simp [h2]
          have h5' : (a % 5 == 0) = true := by simp [h5]
          obtain ⟨rfl, rfl⟩ := HU.out.1 rfl
          clear h2 h5 HU
          cases hm : mayP ⟨true, i, r, l⟩ false true with
          | false =>
            have HM := Lib.hid hm
            have HOK2 := HOK
            clear hm
            go_wp2_with fail
            refine (may_at HM.out _).mono ?_
            rintro e w1 ⟨rfl, hb1⟩
            have HX1 := Lib.hid (HX.out.below hb1)
            have HB1 := Lib.hid (HB.out.trans (hb1.mono HB.out.size))
            have hp1 := HX1.out.lt
            clear hb1 x0 x1 x2 x3
            obtain ⟨x0, x1, x2, x3⟩ := HX1.out.at
            go_wp2_with fail
            all_goals
              refine (srok_at HOK2.out _).mono ?_
              rintro e w3 ⟨rfl, hb3⟩
              have HX3 := Lib.hid (HX1.out.below hb3)
              have HB3 := Lib.hid ((HB1.out).trans (hb3.mono (by first | exact HB1.out.size | (simp; have := HB1.out.size; omega))))
              clear hb3
              go_wp2
              go_roundw
              case rel => exact ⟨k + 1, true, i, r, l, i, 0, by omega, by omega, by go_num, rfl, rfl, Lib.hid ⟨fun h => (by first | exact ⟨rfl, rfl⟩ | cases h), fun h => (by first | exact ⟨rfl, rfl⟩ | cases h)⟩, HX3, HOK2, by omega, HB3⟩
              case measure => simp [intOf]; omega
          | true =>
            have HM := Lib.hid hm
            obtain ⟨m1, m2, m3⟩ := mayP_parts hm
            simp only at m2 m3
            clear hm
            have m4 : i = 0 := by first | exact m3 (by decide) | exact m3
            subst m4
            clear m2 m3
            have HE := Lib.hid (show enterS ⟨true, 0, r, l⟩ false = ⟨false, 1, 1, l⟩ by unfold enterS; rw [if_pos ⟨m1, fun h => (by have := h.1; simp only at this; omega)⟩]; rfl)
            clear m1
            have HOK2 := Lib.hid (show srOk ⟨false, 1, 1, l⟩ = true from srOk_iff.2 ⟨⟨(by show (0 : Int) ≤ 1; decide), (by show (1 : Int) ≤ 1; decide)⟩, ⟨(by show (0 : Int) ≤ 1; decide), (by show (1 : Int) ≤ 1000000; decide)⟩, l0, l1⟩)
            clear HOK
            go_wp2_with fail
            refine (may_at HM.out _).mono ?_
            rintro e w1 ⟨rfl, hb1⟩
            have HX1 := Lib.hid (HX.out.below hb1)
            have HB1a := Lib.hid (HB.out.trans (hb1.mono HB.out.size))
            have hp1 := HX1.out.lt
            clear hb1 x0 x1 x2 x3
            obtain ⟨x0, x1, x2, x3⟩ := HX1.out.at
            go_wp2_with fail
            refine (enter_at HE.out _).mono ?_
            rintro e w2 ⟨rfl, hb2⟩
            have HX2 := Lib.hid (HX1.out.below hb2)
            have HB1 := Lib.hid (HB1a.out.trans (hb2.mono HB1a.out.size))
            have hp2 := HX2.out.lt
            clear hb2 x0 x1 x2 x3
            obtain ⟨x0, x1, x2, x3⟩ := HX2.out.at
            obtain ⟨z0, z1, z2, z3⟩ := HX2.out.free
            go_wp2_with fail
            refine (btoi_law false 0 rfl _).mono ?_
            rintro e w' ⟨rfl, rfl⟩
            go_wp2_with fail
            refine (btoi_law true 1 rfl _).mono ?_
            rintro e w' ⟨rfl, rfl⟩
            go_wp2_with fail
            all_goals
              refine (srok_at HOK2.out _).mono ?_
              rintro e w3 ⟨rfl, hb3⟩
              have HX3 := Lib.hid (((((HX2.out.set0 _).set1 _).set2 _).set3 _).below hb3)
              have HB3 := Lib.hid ((((((HB1.out).setCell (Nat.le_refl _) _).setCell (Nat.le_refl _) _).setCell (Nat.le_refl _) _).setCell (Nat.le_refl _) _).trans (hb3.mono (by first | exact HB1.out.size | (simp; have := HB1.out.size; omega))))
              clear hb3
              go_wp2
              go_roundw
              case rel => exact ⟨k + 1, false, 1, 1, l, 0, 1, by omega, by omega, by go_num, rfl, rfl, Lib.hid ⟨fun h => (by first | exact ⟨rfl, rfl⟩ | cases h), fun h => (by first | exact ⟨rfl, rfl⟩ | cases h)⟩, HX3, HOK2, by omega, HB3⟩
              case measure => simp [intOf]; omega
        · have h2' : (a % 2 == 0) = false := by simp [h2]
          have h5' : (a % 5 == 0) = false := by simp [h5]
          obtain ⟨rfl, rfl⟩ := HU.out.2 rfl
          clear h2 h5 HU
          cases hm : mayP ⟨false, i, r, l⟩ false false with
          | false =>
            have HM := Lib.hid hm
            have HOK2 := HOK
            clear hm
            go_wp2_with fail
            refine (may_at HM.out _).mono ?_
            rintro e w1 ⟨rfl, hb1⟩
            have HX1 := Lib.hid (HX.out.below hb1)
            have HB1 := Lib.hid (HB.out.trans (hb1.mono HB.out.size))
            have hp1 := HX1.out.lt
            clear hb1 x0 x1 x2 x3
            obtain ⟨x0, x1, x2, x3⟩ := HX1.out.at
            go_wp2_with fail
            all_goals
              refine (srok_at HOK2.out _).mono ?_
              rintro e w3 ⟨rfl, hb3⟩
              have HX3 := Lib.hid (HX1.out.below hb3)
              have HB3 := Lib.hid ((HB1.out).trans (hb3.mono (by first | exact HB1.out.size | (simp; have := HB1.out.size; omega))))
              clear hb3
              go_wp2
              go_roundw
              case rel => exact ⟨k + 1, false, i, r, l, 0, i, by omega, by omega, by go_num, rfl, rfl, Lib.hid ⟨fun h => (by first | exact ⟨rfl, rfl⟩ | cases h), fun h => (by first | exact ⟨rfl, rfl⟩ | cases h)⟩, HX3, HOK2, by omega, HB3⟩
              case measure => simp [intOf]; omega
          | true =>
            have HM := Lib.hid hm
            obtain ⟨m1, m2, m3⟩ := mayP_parts hm
            simp only at m2 m3
            clear hm
            clear m2 m3
            have HE := Lib.hid (show enterS ⟨false, i, r, l⟩ false = ⟨false, i + 1, r + 1, l⟩ by unfold enterS; rw [if_pos ⟨m1, fun h => (by have := h.1; simp only at this; omega)⟩]; rfl)
            clear m1
            have HOK2 := Lib.hid (show srOk ⟨false, i + 1, r + 1, l⟩ = true from srOk_iff.2 ⟨⟨(by show 0 ≤ i + 1; omega), (by show i + 1 ≤ r + 1; omega)⟩, ⟨(by show 0 ≤ r + 1; omega), (by show r + 1 ≤ 1000000; omega)⟩, l0, l1⟩)
            clear HOK
            go_wp2_with fail
            refine (may_at HM.out _).mono ?_
            rintro e w1 ⟨rfl, hb1⟩
            have HX1 := Lib.hid (HX.out.below hb1)
            have HB1a := Lib.hid (HB.out.trans (hb1.mono HB.out.size))
            have hp1 := HX1.out.lt
            clear hb1 x0 x1 x2 x3
            obtain ⟨x0, x1, x2, x3⟩ := HX1.out.at
            go_wp2_with fail
            refine (enter_at HE.out _).mono ?_
            rintro e w2 ⟨rfl, hb2⟩
            have HX2 := Lib.hid (HX1.out.below hb2)
            have HB1 := Lib.hid (HB1a.out.trans (hb2.mono HB1a.out.size))
            have hp2 := HX2.out.lt
            clear hb2 x0 x1 x2 x3
            obtain ⟨x0, x1, x2, x3⟩ := HX2.out.at
            obtain ⟨z0, z1, z2, z3⟩ := HX2.out.free
            go_wp2_with fail
            refine (btoi_law false 0 rfl _).mono ?_
            rintro e w' ⟨rfl, rfl⟩
            go_wp2_with fail
            refine (btoi_law true 1 rfl _).mono ?_
            rintro e w' ⟨rfl, rfl⟩
            go_wp2_with fail
            all_goals
              refine (srok_at HOK2.out _).mono ?_
              rintro e w3 ⟨rfl, hb3⟩
              have HX3 := Lib.hid (((((HX2.out.set0 _).set1 _).set2 _).set3 _).below hb3)
              have HB3 := Lib.hid ((((((HB1.out).setCell (Nat.le_refl _) _).setCell (Nat.le_refl _) _).setCell (Nat.le_refl _) _).setCell (Nat.le_refl _) _).trans (hb3.mono (by first | exact HB1.out.size | (simp; have := HB1.out.size; omega))))
              clear hb3
              go_wp2
              go_roundw
              case rel => exact ⟨k + 1, false, (i + 1), (r + 1), l, 0, (i + 1), by omega, by omega, by go_num, rfl, rfl, Lib.hid ⟨fun h => (by first | exact ⟨rfl, rfl⟩ | cases h), fun h => (by first | exact ⟨rfl, rfl⟩ | cases h)⟩, HX3, HOK2, by omega, HB3⟩
              case measure => simp [intOf]; omega
        · have h2' : (a % 2 == 0) = false := by simp [h2]
          have h5' : (a % 5 == 0) = false := by simp [h5]
          obtain ⟨rfl, rfl⟩ := HU.out.1 rfl
          clear h2 h5 HU
          cases hm : mayP ⟨true, i, r, l⟩ false false with
          | false =>
            have HM := Lib.hid hm
            have HOK2 := HOK
            clear hm
            go_wp2_with fail
            refine (may_at HM.out _).mono ?_
            rintro e w1 ⟨rfl, hb1⟩
            have HX1 := Lib.hid (HX.out.below hb1)
            have HB1 := Lib.hid (HB.out.trans (hb1.mono HB.out.size))
            have hp1 := HX1.out.lt
            clear hb1 x0 x1 x2 x3
            obtain ⟨x0, x1, x2, x3⟩ := HX1.out.at
            go_wp2_with fail
            all_goals
              refine (srok_at HOK2.out _).mono ?_
              rintro e w3 ⟨rfl, hb3⟩
              have HX3 := Lib.hid (HX1.out.below hb3)
              have HB3 := Lib.hid ((HB1.out).trans (hb3.mono (by first | exact HB1.out.size | (simp; have := HB1.out.size; omega))))
              clear hb3
              go_wp2
              go_roundw
              case rel => exact ⟨k + 1, true, i, r, l, i, 0, by omega, by omega, by go_num, rfl, rfl, Lib.hid ⟨fun h => (by first | exact ⟨rfl, rfl⟩ | cases h), fun h => (by first | exact ⟨rfl, rfl⟩ | cases h)⟩, HX3, HOK2, by omega, HB3⟩
              case measure => simp [intOf]; omega
          | true =>
            have HM := Lib.hid hm
            obtain ⟨m1, m2, m3⟩ := mayP_parts hm
            simp only at m2 m3
            clear hm
            have m4 : i = 0 := by first | exact m3 (by decide) | exact m3
            subst m4
            clear m2 m3
            have HE := Lib.hid (show enterS ⟨true, 0, r, l⟩ false = ⟨false, 1, 1, l⟩ by unfold enterS; rw [if_pos ⟨m1, fun h => (by have := h.1; simp only at this; omega)⟩]; rfl)
            clear m1
            have HOK2 := Lib.hid (show srOk ⟨false, 1, 1, l⟩ = true from srOk_iff.2 ⟨⟨(by show (0 : Int) ≤ 1; decide), (by show (1 : Int) ≤ 1; decide)⟩, ⟨(by show (0 : Int) ≤ 1; decide), (by show (1 : Int) ≤ 1000000; decide)⟩, l0, l1⟩)
            clear HOK
            go_wp2_with fail
            refine (may_at HM.out _).mono ?_
            rintro e w1 ⟨rfl, hb1⟩
            have HX1 := Lib.hid (HX.out.below hb1)
            have HB1a := Lib.hid (HB.out.trans (hb1.mono HB.out.size))
            have hp1 := HX1.out.lt
            clear hb1 x0 x1 x2 x3
            obtain ⟨x0, x1, x2, x3⟩ := HX1.out.at
            go_wp2_with fail
            refine (enter_at HE.out _).mono ?_
            rintro e w2 ⟨rfl, hb2⟩
            have HX2 := Lib.hid (HX1.out.below hb2)
            have HB1 := Lib.hid (HB1a.out.trans (hb2.mono HB1a.out.size))
            have hp2 := HX2.out.lt
            clear hb2 x0 x1 x2 x3
            obtain ⟨x0, x1, x2, x3⟩ := HX2.out.at
            obtain ⟨z0, z1, z2, z3⟩ := HX2.out.free
            go_wp2_with fail
            refine (btoi_law false 0 rfl _).mono ?_
            rintro e w' ⟨rfl, rfl⟩
            go_wp2_with fail
            refine (btoi_law true 1 rfl _).mono ?_
            rintro e w' ⟨rfl, rfl⟩
            go_wp2_with fail
            all_goals
              refine (srok_at HOK2.out _).mono ?_
              rintro e w3 ⟨rfl, hb3⟩
              have HX3 := Lib.hid (((((HX2.out.set0 _).set1 _).set2 _).set3 _).below hb3)
              have HB3 := Lib.hid ((((((HB1.out).setCell (Nat.le_refl _) _).setCell (Nat.le_refl _) _).setCell (Nat.le_refl _) _).setCell (Nat.le_refl _) _).trans (hb3.mono (by first | exact HB1.out.size | (simp; have := HB1.out.size; omega))))
              clear hb3
              go_wp2
              go_roundw
              case rel => exact ⟨k + 1, false, 1, 1, l, 0, 1, by omega, by omega, by go_num, rfl, rfl, Lib.hid ⟨fun h => (by first | exact ⟨rfl, rfl⟩ | cases h), fun h => (by first | exact ⟨rfl, rfl⟩ | cases h)⟩, HX3, HOK2, by omega, HB3⟩
              case measure => simp [intOf]; omega
    · obtain rfl : k = 40 := by omega
      obtain ⟨⟨i0, i1⟩, _⟩ := srOk_iff.1 HOK.out
      simp only at i0
      cases u
      · obtain ⟨rfl, rfl⟩ := HU.out.2 rfl
        clear HU
        go_wp2
        go_ret
        exact ⟨by first | rfl | (exact ret_bool (by simp; omega)), HB.out⟩
      · obtain ⟨rfl, rfl⟩ := HU.out.1 rfl
        clear HU
        go_wp2
        go_ret
        exact ⟨by first | rfl | (exact ret_bool (by simp; omega)), HB.out⟩

theorem parOk : Try.f3.params.toList.all (fun t => Try.prog.readableRec t && decide (t < Try.prog.types.size)) = true := by kernel_rfl
set_option maxRecDepth 100000 in
theorem lifted (os : Os) (started : os.Started) (H : Type) (enc : TypeId × Value → H) :
    ReturnsInHanded {} Try.checked os 3 .any (Rows.fnOneWaySpec.pre6 enc Try.prog Try.f3 Rows.fnOneWayRow.domain false) (Rows.fnOneWaySpec.post enc Try.prog Try.f3 false true false false) := by
  refine law_lifted (C := Try.checked) own started (by kernel_rfl) Try.func3 laid (fun t ht => by
      have h := List.all_eq_true.1 parOk t ht
      rw [Bool.and_eq_true] at h
      exact ⟨h.1, of_decide_eq_true h.2⟩) rfl Try.underlying4 rfl
    (fun xs hx => by
      rw [show Try.f3.params.toList.length = 1 from by rw [Try.params3]; rfl] at hx
      match xs, hx with
      | [d0], _ => rfl)
    (ChangeSpec.witness6 (enc := enc) (C := Try.checked) false ⟨#[], #[.slice none 0 0], []⟩ 8 (by kernel_rfl) (by kernel_rfl) (by kernel_rfl) (by kernel_rfl)) ?_
  intro W base args ds p hval0 hA0 _
  have hval : ∀ (j : Nat) t v, Try.f3.params[j]? = some t → args[j]? = some v → Value.okWide Try.prog W .any base t v := hval0
  have hA : DataW.TrodAll enc Try.prog W 0 (fun _ => true) true Try.f3.params.toList args.toList ds p := hA0
  clear hA0 hval0
  rw [Try.params3] at hA hval
  obtain ⟨v0, vs0, d0, ds0, p0, q0, hargs, rfl, rfl, h0, r0⟩ := trodAll_cons hA
  obtain ⟨rfl, rfl, rfl⟩ := trodAll_nil r0
  obtain rfl : args = #[v0] := by cases args; simp_all
  obtain ⟨A0, n0, c0, f0, rfl, x0, y0⟩ := slice_bytes Try.underlying22 (by kernel_rfl) Try.underlying5 (hval 0 22 _ rfl rfl) h0
  exact walk A0 n0 c0 f0 W x0 y0

/-- The statement. -/
theorem proved : Rows.FnOneWaySaid :=
  OpenClaim.holds_of_wide 3 Try.f3 rfl rfl rfl rfl rfl rfl rfl ⟨rfl, rfl, rfl, rfl, rfl⟩ rfl rfl rfl rfl rfl (by kernel_rfl) Try.func3 (by kernel_rfl)
    (of_decide_eq_true (by kernel_rfl)) (by unfold Func.isWrapper; first | (rw [if_pos (by decide +kernel)]; kernel_rfl) | (rw [if_neg (by decide +kernel)]; exact ⟨rfl, rfl⟩))
    (fun os started H enc _ => lifted os started H enc)
#print axioms proved
end Go.Proofs.Ytaacgajpjkfplaa.fnOneWay
