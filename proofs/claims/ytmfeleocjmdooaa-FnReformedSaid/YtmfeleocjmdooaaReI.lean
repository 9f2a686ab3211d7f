/- ReformTrain of the program. -/
import Derived.Test.YtmfeleocjmdooaaReV
import Derived.Test.YtmfeleocjmdooaaTrF
import Derived.Deep.RegionLaw
import Derived.Deep.RegionHeld3
namespace Go.Proofs.Ytmfeleocjmdooaa.C1
open Go.ChangeShapes Go.WideShapes Go.ChangeAt Go.RowKit
set_option linter.unusedVariables false

theorem ref_yes2 {u : Bool} {T : List (List Bt)} {W : Int} (h : refB T W = true) {w w1 w' : World} {v : Value} {xs : List Value} {B p : Nat} (hb : Below w.heap.size w w1) (hp : w.heap.size ≤ p) (hB : p + 1 ≤ B) (hs : B ≤ w1.heap.size)
    (ho : OwnRows w1 B v (reR W (bts T)) xs) (t : Touch w1 w' p (p + 1)) :
    GivesTB w (refU u T W) (refT T W) (refB T W) (.returned (.tuple #[.agg #[.bool u, v], .bool true])) w' := by
  have e1 : refU u T W = u := by unfold refU; rw [if_pos h]
  have e2 : refT T W = reR W (bts T) := by unfold refT; rw [if_pos h]
  rw [h, e1, e2]
  obtain ⟨A, c, g, G, rfl, hc, hT⟩ := ho.ownT hs
  exact ⟨⟨A, c, g, G, rfl, hc, (hT.touch t (Or.inr hB)).wide (by omega) t.size⟩, t.below hb (by omega)⟩
theorem refT_mod {T : List (List Bt)} {W : Int} (h : Mod T) : Mod (refT T W) := by
  unfold refT
  split
  · have h1 := flat_len (reR_full W (bts T))
    rw [reR_flat] at h1
    have h2 := h.all
    exact ⟨by omega, by unfold bts; rw [reR_flat]; exact h2⟩
  · exact ⟨by simp, by simp [bts]⟩
theorem any_ref {T : List (List Bt)} {W : Int} (hk : tOk T = true) : refB T W = !(bts T).any (wide W) := by
  unfold refB
  rw [hk, Bool.true_and]
  induction bts T with
  | nil => rfl
  | cons b L ih =>
    rw [List.all_cons, List.any_cons, ih]
    unfold wide
    by_cases h : W < b.w
    · have h' : ¬ b.w ≤ W := by omega
      simp [h, h']
    · have h' : b.w ≤ W := by omega
      simp [h, h']
theorem Touch.later {a w w' : World} {b l : Nat} (t : Touch a w b l) (h : Below a.heap.size w w') : Touch a w' b l :=
  ⟨h.os.trans t.os, h.tape.trans t.tape, h.output.trans t.output, Nat.le_trans t.size h.size, fun k hk ho => (h.block k hk).trans (t.block k hk ho)⟩
theorem own_touch2 {w w' : World} {B s n b l : Nat} {e : TypeId} {v : Value} {xs : List Value} (h : w.ownsRow B e s v n xs) (t : Touch w w' b l) (hl : l ≤ B) : w'.ownsRow B e s v n xs := by
  rcases h.2 with ⟨h1, h2⟩ | ⟨g, cap, cur, h1, hg, hh, h2⟩
  · exact ⟨h.1, Or.inl ⟨h1, h2⟩⟩
  · exact ⟨h.1, Or.inr ⟨g, cap, cur, h1, hg, (t.block g (Array.getElem?_eq_some_iff.1 hh).1 (Or.inr (by omega))).trans hh, h2⟩⟩
set_option maxRecDepth 100000 in
set_option maxHeartbeats 4000000 in
theorem reform_impl (up : Bool) (A : Option Addr) (c : Nat) (T : List (List Bt)) (W : Int) (w : World) (hm : Mod T) (hp : Trn w A T) (hW : (Lit.int .i64 W).wf = true) :
    Calls Try.prog 39 #[.agg #[.bool up, .slice A T.length c], .int .i64 W] w (GivesTB w (refU up T W) (refT T W) (refB T W)) := by
  have HM := vl hm
  have HB0 := vl ((((Below.refl w.heap.size w).alloc (Nat.le_refl _) (.cells #[.bool up, .slice A T.length c] 26)).alloc (by simp) (.cells #[.int .i64 W] 3)).alloc (by simp; omega) (.cells #[.bool false, .slice none 0 0] 26))
  have HP1 := vl (hp.below HB0.out)
  have HXY := vl (show TBox (((w.alloc (.cells #[.bool up, .slice A T.length c] 26)).alloc (.cells #[.int .i64 W] 3)).alloc (.cells #[.bool false, .slice none 0 0] 26)) w.heap.size up A T.length c ∧ (((w.alloc (.cells #[.bool up, .slice A T.length c] 26)).alloc (.cells #[.int .i64 W] 3)).alloc (.cells #[.bool false, .slice none 0 0] 26)).cell? ⟨w.heap.size + 1, 0, none⟩ = some (.int .i64 W) ∧ TBoxF (((w.alloc (.cells #[.bool up, .slice A T.length c] 26)).alloc (.cells #[.int .i64 W] 3)).alloc (.cells #[.bool false, .slice none 0 0] 26)) (w.heap.size + 2) false (.slice none 0 0) from by
    have h1 := ((TBox.new w up A T.length c 26).below ((Below.refl _ _).alloc (Nat.le_refl _) (.cells #[.int .i64 W] 3))).below ((Below.refl _ _).alloc (Nat.le_refl _) (.cells #[.bool false, .slice none 0 0] 26))
    have h3 := TBoxF.new ((w.alloc (.cells #[.bool up, .slice A T.length c] 26)).alloc (.cells #[.int .i64 W] 3)) false (.slice none 0 0) 26
    have h2 := (((Below.refl ((w.alloc (.cells #[.bool up, .slice A T.length c] 26)).alloc (.cells #[.int .i64 W] 3)).heap.size _).alloc (Nat.le_refl _) (.cells #[.bool false, .slice none 0 0] 26)).cell (p := ⟨w.heap.size + 1, 0, none⟩) (by simp)).trans ((World.cell?_alloc_at _ _ (w.heap.size + 1) 0 (by simp)).trans rfl)
    exact ⟨h1, h2, by simpa using h3⟩)
  clear hm hp
  go_enter Try.func39, Try.ntmps39
  go_wp2_with fail
  refine (tok_impl up A c T _ HM.out HP1.out).mono ?_
  rintro e w5 ⟨rfl, hb5⟩
  have HB5 := vl (HB0.out.trans (hb5.mono HB0.out.size))
  have HX5 := vl (HXY.out.1.below hb5)
  have HW5 := vl ((hb5.cell (cell_lt' HXY.out.2.1)).trans HXY.out.2.1)
  have HR5 := vl (HXY.out.2.2.below hb5 HXY.out.2.2.lt)
  have HP5 := vl (HP1.out.below hb5)
  clear hb5 HXY HB0 HP1
  have r0 := HR5.out.c0; have r1 := HR5.out.c1; have r2 := HR5.out.f0; have r3 := HR5.out.f1
  obtain ⟨x0, x1⟩ := HX5.out
  cases hok : tOk T with
  | false =>
    have HE := vl (show refB T W = false by unfold refB; rw [hok]; rfl)
    go_wp2
    refine bodyPost_ret (v := .tuple #[.agg #[.bool false, .slice none 0 0], .bool false]) (by simp [results, Try.results39, go_sem, r0, r1]) rfl ?_
    exact ref_no HE.out (by (repeat' (first | (with_reducible exact Below.refl _ _) | (with_reducible refine Below.drew ?_) | (with_reducible refine Below.alloc ?_ ?_ _) | (with_reducible refine Below.setCell ?_ ?_ _) | (with_reducible refine Below.trans ?_ (HB5.out.mono ?_)) | (first | omega | (simp; omega) | (simp; done)))))
  | true =>
    have HK := vl hok
    have hlt5 := HR5.out.lt
    clear hok r0 r1 r2 r3
    go_wp2_with fail
    refine (boats_t up A c _ T _ HM.out (HP5.out.alloc _) (by simp)).mono ?_
    rintro e w6 ⟨⟨v, rfl, ho6⟩, hb6⟩
    have hb6' : Below w5.heap.size w5 w6 := ((Below.refl w5.heap.size w5).alloc (Nat.le_refl _) _).trans (hb6.mono (by simp))
    have HB6 := vl (HB5.out.trans (hb6'.mono HB5.out.size))
    have HX6 := vl (HX5.out.below hb6')
    have HW6 := vl ((hb6'.cell (cell_lt' HW5.out)).trans HW5.out)
    have HR6 := vl (HR5.out.below hb6' HR5.out.lt)
    obtain ⟨A6, c6, g6, rfl, hc6, hr6, _⟩ := rowB_of_own ho6 hb6.size
    have HT6 := vl hr6.bts
    have hn6 := (tOk_iff.1 HK.out).n1
    have hn0 := (tOk_iff.1 HK.out).n0
    have hlt6 := HR6.out.lt
    have ANY := vl (any_ref (W := W) HK.out)
    clear hb6 hb6' ho6 hr6 hc6 x0 x1 hlt5 HX5 HW5 HR5 HP5 HB5
    have hmf : ∀ (fn : Fn) (first cap : Array Value) (w : World), (Instr.makeFunc fn first cap).run Try.prog w = .ok (.func fn first cap) w := fun _ _ _ _ => rfl
    go_wp2_with fail
    refine (any_wide W (w.heap.size + 1) A6 c6 (bts T) _ (by omega) HT6.out HW6.out).mono ?_
    rintro e w7 ⟨rfl, hb7⟩
    have HB7 := vl (HB6.out.trans (hb7.mono HB6.out.size))
    have HX7 := vl (HX6.out.below hb7)
    have HW7 := vl ((hb7.cell (cell_lt' HW6.out)).trans HW6.out)
    have HR7 := vl (HR6.out.below hb7 HR6.out.lt)
    have HT7 := vl (HT6.out.below hb7)
    have hlt7 := HR7.out.lt
    clear hb7 hlt6 HX6 HW6 HR6 HT6 HB6
    have r0 := HR7.out.c0; have r1 := HR7.out.c1; have r2 := HR7.out.f0; have r3 := HR7.out.f1
    obtain ⟨x0, x1⟩ := HX7.out
    cases hany : (bts T).any (wide W) with
    | true =>
      have HE := vl (show refB T W = false by rw [ANY.out, hany]; rfl)
      clear hany
      go_wp2
      refine bodyPost_ret (v := .tuple #[.agg #[.bool false, .slice none 0 0], .bool false]) (by simp [results, Try.results39, go_sem, r0, r1]) rfl ?_
      exact ref_no HE.out (by (repeat' (first | (with_reducible exact Below.refl _ _) | (with_reducible refine Below.drew ?_) | (with_reducible refine Below.alloc ?_ ?_ _) | (with_reducible refine Below.setCell ?_ ?_ _) | (with_reducible refine Below.trans ?_ (HB7.out.mono ?_)) | (first | omega | (simp; omega) | (simp; done)))))
    | false =>
      have HE := vl (show refB T W = true by rw [ANY.out, hany]; rfl)
      have HIn := vl (fun (b : Bt) (hb : b ∈ bts T) => (tOk_iff.1 HK.out).ok b hb)
      have HSP := vl (side_reR (W := W) hn6 HIn.out)
      have y1 := HW7.out
      clear hany r0 r1 r2 r3
      go_wp2
      go_region_held3 (fun w' => w'.cell? ⟨w.heap.size, 0, none⟩ = some (.bool up) ∧ w'.cell? ⟨w.heap.size + 1, 0, none⟩ = some (.int .i64 W))
        (first | exact ⟨x0, y1⟩ | exact S3 | exact S4 _ _)
        (first
          | (go_at_call 111
             refine (side_b W A6 c6 (bts T) _ (by omega) (HT7.out.below (Below.refl w7.heap.size w7).drew)).mono ?_
             rintro e w9 ⟨⟨v3, xs3, rfl, ho3⟩, hb3⟩
             obtain ⟨A3, c3, rfl, _⟩ := own_src ho3.own
             have hb9 : Below w7.heap.size w7 w9 := (Below.refl w7.heap.size w7).drew.trans hb3
             have S3 : w9.cell? ⟨w.heap.size, 0, none⟩ = some (.bool up) ∧ w9.cell? ⟨w.heap.size + 1, 0, none⟩ = some (.int .i64 W) := ⟨(hb9.cell (cell_lt' x0)).trans x0, (hb9.cell (cell_lt' y1)).trans y1⟩
             have S4 : ∀ u v : Value, ((w9.setCell ⟨w.heap.size + 2, 0, none⟩ u).setCell ⟨w.heap.size + 2, 1, none⟩ v).cell? ⟨w.heap.size, 0, none⟩ = some (.bool up) ∧ ((w9.setCell ⟨w.heap.size + 2, 0, none⟩ u).setCell ⟨w.heap.size + 2, 1, none⟩ v).cell? ⟨w.heap.size + 1, 0, none⟩ = some (.int .i64 W) := fun u v => by
               constructor
               · rw [World.cell?_setCell_other _ _ _ _ (by intro e; injection e with e _; omega), World.cell?_setCell_other _ _ _ _ (by intro e; injection e with e _; omega)]; exact S3.1
               · rw [World.cell?_setCell_other _ _ _ _ (by intro e; injection e with e _; omega), World.cell?_setCell_other _ _ _ _ (by intro e; injection e with e _; omega)]; exact S3.2
             have HR9 := vl (HR7.out.below hb9 HR7.out.lt)
             have r0 := HR9.out.c0; have r1 := HR9.out.c1; have r2 := HR9.out.f0; have r3 := HR9.out.f1))
      have HB9 := vl (HB7.out.trans (hb9.mono HB7.out.size))
      have HO := vl (OwnRows.of_g ho3)
      have hs9 : w7.heap.size ≤ w9.heap.size := hb9.size
      have hs7 : w.heap.size + 2 < w7.heap.size := hlt7
      rw [HSP.out] at HO ⊢
      clear S3 S4 hb3 hb9 ho3
      go_wp2
      refine bodyPost_ret (v := .tuple #[.agg #[.bool up, .slice A3 (reR W (bts T)).length c3], .bool true]) (by simp [results, Try.results39, go_sem, r0, r1]) rfl ?_
      refine ref_yes2 HE.out (w1 := w9) (p := w.heap.size + 2) (B := w7.drew.heap.size) HB9.out (by omega) (by show w.heap.size + 2 + 1 ≤ w7.heap.size; omega) (by show w7.heap.size ≤ w9.heap.size; omega) HO.out ?_
      iterate 2 (with_reducible refine Touch.set ?_ _ _ _ (by omega) (by omega))
      exact Touch.refl _ _ _
end Go.Proofs.Ytmfeleocjmdooaa.C1
