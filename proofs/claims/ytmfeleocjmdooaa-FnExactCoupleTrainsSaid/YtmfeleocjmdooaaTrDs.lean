/- Trains divided: of the model. -/
import Derived.Test.YtmfeleocjmdooaaTrDv
namespace Go.Proofs.Ytmfeleocjmdooaa.C1
open Go.ChangeShapes Go.WideShapes Go.ChangeAt Go.RowKit
set_option linter.unusedVariables false

theorem copy_take (up : Bool) (A : Option Addr) (c m : Nat) (T : List (List Bt)) (w : World) (hm : Mod T) (hk : m ≤ T.length) (hp : Trn w A T) : Calls Try.prog 128 #[.agg #[.bool up, .slice A m c]] w (GivesT w up (T.take m)) := by
  have h := copy_spec up A c (T.take m) w (hm.take m) (hp.take m)
  rwa [List.length_take, Nat.min_eq_left hk] at h
theorem copy_drop (up : Bool) (g o c m : Nat) (T : List (List Bt)) (w : World) (hm : Mod T) (hp : ∀ (i : Nat) (r : List Bt), T[i]? = some r → ∃ Ai ci, w.cell? ⟨g, o + i, none⟩ = some (.slice Ai r.length ci) ∧ Veil (Bts w Ai r)) :
    Calls Try.prog 128 #[.agg #[.bool up, .slice (some ⟨g, o + m, none⟩) (T.length - m) c]] w (GivesT w up (T.drop m)) := by
  have h := copy_spec up (some ⟨g, o + m, none⟩) c (T.drop m) w (hm.drop m) (Trn.drop hp m)
  rwa [List.length_drop] at h
set_option maxRecDepth 100000 in
set_option maxHeartbeats 2000000 in
theorem divide_spec (up : Bool) (A : Option Addr) (c : Nat) (T : List (List Bt)) (k : Int) (w : World) (hm : Mod T) (hc : T.length ≤ c) (hp : Trn w A T) :
    Calls Try.prog 67 #[.agg #[.bool up, .slice A T.length c], .int .i64 k] w (GivesTTB w (divU up T k) (divF T k) (divS T k) (divB T k)) := by
  have HM := vl hm
  have hn := hm.rows
  have HB0 := vl ((((Below.refl w.heap.size w).alloc (Nat.le_refl _) (.cells #[.bool up, .slice A T.length c] 26)).alloc (by simp) (.cells #[.bool false, .slice none 0 0] 26)).alloc (by simp; omega) (.cells #[.bool false, .slice none 0 0] 26))
  have HP0 := vl (hp.below HB0.out)
  clear hp hm
  go_enter Try.func67, Try.ntmps67
  go_wp2_with fail
  refine (tok_spec up A c T _ HM.out HP0.out).mono ?_
  rintro e w1 ⟨rfl, hb1⟩
  have q1 : w.heap.size + 1 + 1 + 1 ≤ w1.heap.size := by have := hb1.size; simpa using this
  have HB1 := vl (HB0.out.trans (hb1.mono HB0.out.size))
  have HP1 := vl (HP0.out.below hb1)
  have HX1 := vl (show TBox w1 w.heap.size up A T.length c from by
    have hb := ((Below.refl (w.alloc (.cells #[.bool up, .slice A T.length c] 26)).heap.size (w.alloc (.cells #[.bool up, .slice A T.length c] 26))).alloc (Nat.le_refl _) (.cells #[.bool false, .slice none 0 0] 26)).alloc (by simp) (.cells #[.bool false, .slice none 0 0] 26)
    exact ((TBox.new w up A T.length c 26).below hb).below hb1)
  have HY1 := vl (show TBoxF w1 (w.heap.size + 1) false (.slice none 0 0) ∧ TBoxF w1 (w.heap.size + 1 + 1) false (.slice none 0 0) from by
    have h1 := TBoxF.new (w.alloc (.cells #[.bool up, .slice A T.length c] 26)) false (.slice none 0 0) 26
    have h2 := TBoxF.new ((w.alloc (.cells #[.bool up, .slice A T.length c] 26)).alloc (.cells #[.bool false, .slice none 0 0] 26)) false (.slice none 0 0) 26
    have h1' : TBoxF ((w.alloc (.cells #[.bool up, .slice A T.length c] 26)).alloc (.cells #[.bool false, .slice none 0 0] 26)) (w.heap.size + 1) false (.slice none 0 0) := by simpa using h1
    refine ⟨(h1'.block (Below.heap_alloc ((w.alloc (.cells #[.bool up, .slice A T.length c] 26)).alloc (.cells #[.bool false, .slice none 0 0] 26)) (.cells #[.bool false, .slice none 0 0] 26) (w.heap.size + 1) (by simp))).below hb1 (by simp), ?_⟩
    exact (show TBoxF (((w.alloc (.cells #[.bool up, .slice A T.length c] 26)).alloc (.cells #[.bool false, .slice none 0 0] 26)).alloc (.cells #[.bool false, .slice none 0 0] 26)) (w.heap.size + 1 + 1) false (.slice none 0 0) from by simpa using h2).below hb1 (by simp))
  clear hb1 HP0
  obtain ⟨x0, x1⟩ := HX1.out
  have y0 := HY1.out.1.c0; have y1 := HY1.out.1.c1; have y2 := HY1.out.1.f0; have y3 := HY1.out.1.f1
  have z0 := HY1.out.2.c0; have z1 := HY1.out.2.c1; have z2 := HY1.out.2.f0; have z3 := HY1.out.2.f1
  cases hok : tOk T with
  | false =>
    have HE := vl (show divB T k = false by unfold divB; rw [hok]; rfl)
    clear hok
    go_wp2
    refine bodyPost_ret (v := .tuple #[.agg #[.bool false, .slice none 0 0], .agg #[.bool false, .slice none 0 0], .bool false]) (by simp [results, Try.results67, go_sem, y0, y1, z0, z1]) rfl ?_
    exact gttb_none HE.out (by (repeat' (first | (with_reducible exact Below.refl _ _) | (with_reducible refine Below.drew ?_) | (with_reducible refine Below.alloc ?_ ?_ _) | (with_reducible refine Below.setCell ?_ ?_ _) | (with_reducible refine Below.trans ?_ (HB1.out.mono ?_)) | (first | omega | (simp; omega) | (simp; done)))))
  | true =>
    have HI := vl (in_tOk hok)
    have hr := HI.out.rows
    have HO := vl hok
    clear hok
    by_cases hk : 1 ≤ k ∧ k < (T.length : Int)
    · have HE := vl (show divB T k = true by unfold divB; rw [HO.out, inB_yes hk.1 (by omega)]; rfl)
      obtain ⟨k1, k2⟩ := hk
      obtain ⟨m, rfl⟩ : ∃ m : Nat, k = (m : Int) := ⟨k.toNat, by omega⟩
      have hmc : m ≤ c := by omega
      obtain ⟨g, o, rfl, hc1⟩ := HP1.out (by omega)
      have HC1 := vl hc1
      have hml : m ≤ T.length := by omega
      have b1 : (0 : Int) ≤ (m : Int) := by omega
      have b2 : (m : Int) ≤ (c : Int) := by omega
      have b3 : (m : Int) ≤ (T.length : Int) := by omega
      have b4 : (T.length : Int) ≤ (c : Int) := by omega
      have HQ := vl (show divU up T (m : Int) = up ∧ divF T (m : Int) = T.take m ∧ divS T (m : Int) = T.drop m from by
        unfold divU divF divS
        rw [if_pos HE.out, if_pos HE.out, if_pos HE.out, Int.toNat_natCast]
        exact ⟨rfl, rfl, rfl⟩)
      rw [HE.out, HQ.out.1, HQ.out.2.1, HQ.out.2.2]
      clear hc1
      go_wp2_with fail
      refine (in_spec _ _ _ _).mono ?_
      rintro e w' ⟨rfl, rfl⟩
      rw [inB_yes (x := (m : Int)) (l := 1) (h := (T.length : Int) - 1) (by omega) (by omega)]
      go_wp2
      go_region_held3 (fun w' => w'.cell? ⟨w.heap.size, 0, none⟩ = some (.bool up) ∧ w'.cell? ⟨w.heap.size, 1, none⟩ = some (.slice (some ⟨g, o, none⟩) T.length c))
        (first | exact ⟨x0, x1⟩ | assumption | (refine ⟨?_, ?_⟩ <;> (repeat (rw [World.cell?_setCell_other _ _ _ _ (by intro e; injection e with e; omega)])) <;> assumption))
        (first
          | (go_at_call 128
             refine (copy_drop up g o (c - m) m T _ HM.out HC2.out).mono ?_
             rintro e w3 ⟨⟨A3, c3, g3, G3, rfl, hc3, ho3⟩, hb3⟩
             have HB3 := vl hb3
             have HO3 := vl ho3
             have hb13 := HB2.out.trans (hb3.mono HB2.out.size)
             have HY3 := vl (And.intro (HY1.out.1.below hb13 (by omega)) (HY1.out.2.below hb13 (by omega)))
             have hx3 := HX1.out.below hb13
             have S1 := And.intro hx3.1 hx3.2
             have k0 := hx3.1
             have k1 := hx3.2
             have y0 := HY3.out.1.c0; have y1 := HY3.out.1.c1; have y2 := HY3.out.1.f0; have y3 := HY3.out.1.f1
             have z0 := HY3.out.2.c0; have z1 := HY3.out.2.c1; have z2 := HY3.out.2.f0; have z3 := HY3.out.2.f1
             clear hb3 ho3 hb13 hx3)
          | (go_at_call 128
             refine (copy_take up (some ⟨g, o, none⟩) c m T _ HM.out hml (show Trn w1.drew (some ⟨g, o, none⟩) T from HP1.out.drew)).mono ?_
             rintro e w2 ⟨⟨A2, c2, g2, G2, rfl, hc2, ho2⟩, hb2⟩
             have hb2' : Below w1.heap.size w1 w2 := (Below.refl w1.heap.size w1).drew.trans hb2
             have HB2 := vl hb2'
             have HO2 := vl (show OwnT w2 w1.heap.size w2.heap.size A2 (T.take m) g2 G2 from ho2)
             have HC2 := vl (rows_below HC1.out hb2')
             have hx2 := HX1.out.below hb2'
             have S1 := And.intro hx2.1 hx2.2
             clear hb2 hb2' ho2 hx2))
      go_wp2
      refine bodyPost_ret (v := .tuple #[.agg #[.bool up, .slice A2 m c2], .agg #[.bool up, .slice A3 (T.length - m) c3], .bool true]) (by simp [results, Try.results67, go_sem, y0, y1, z0, z1]) rfl ?_
      have t := ((((Touch.refl w3 (w.heap.size + 1) (w.heap.size + 3)).set (w.heap.size + 1) 0 (.bool up) (by omega) (by omega)).set (w.heap.size + 1) 1 (.slice A2 m c2) (by omega) (by omega)).set (w.heap.size + 1 + 1) 0 (.bool up) (by omega) (by omega)).set (w.heap.size + 1 + 1) 1 (.slice A3 (T.length - m) c3) (by omega) (by omega)
      have hg := gttb_end (up := up) (c := c2) (c' := c3) HB1.out HB2.out HB3.out q1 HO2.out HO3.out t
      rw [List.length_take, Nat.min_eq_left hml, List.length_drop] at hg
      rw [HE.out, HQ.out.1, HQ.out.2.1, HQ.out.2.2]
      exact hg
    · have HE := vl (show divB T k = false by unfold divB; rw [HO.out, inB_no (by omega)]; rfl)
      have HN := vl (show inB k 1 ((T.length : Int) - 1) = false from inB_no (by omega))
      clear hk
      go_wp2_with fail
      refine (in_spec _ _ _ _).mono ?_
      rintro e w' ⟨rfl, rfl⟩
      rw [HN.out]
      go_wp2
      refine bodyPost_ret (v := .tuple #[.agg #[.bool false, .slice none 0 0], .agg #[.bool false, .slice none 0 0], .bool false]) (by simp [results, Try.results67, go_sem, y0, y1, z0, z1]) rfl ?_
      exact gttb_none HE.out (by (repeat' (first | (with_reducible exact Below.refl _ _) | (with_reducible refine Below.drew ?_) | (with_reducible refine Below.alloc ?_ ?_ _) | (with_reducible refine Below.setCell ?_ ?_ _) | (with_reducible refine Below.trans ?_ (HB1.out.mono ?_)) | (first | omega | (simp; omega) | (simp; done)))))
end Go.Proofs.Ytmfeleocjmdooaa.C1
