/- ReformTrain of the program. -/
import Derived.Test.YtneapghhnjheaaaReV
import Derived.Test.YtneapghhnjheaaaTrF
import Derived.Deep.RegionLaw
import Derived.Deep.RegionHeld3
namespace Go.Proofs.Ytneapghhnjheaaa.C1
open Go.ChangeShapes Go.WideShapes Go.ChangeAt Go.RowKit
set_option linter.unusedVariables false

theorem ref_yes2 {u : Bool} {T : List (List Bt)} {W : Int} (h : refB T W = true) {w w1 w' : World} {v : Value} {xs : List Value} {B p : Nat} (hb : Below w.heap.size w w1) (hp : w.heap.size ≤ p) (hB : p + 1 ≤ B) (hs : B ≤ w1.heap.size)
    (ho : OwnRows w1 B v (reR W (bts T)) xs) (t : Touch w1 w' p (p + 1)) :
    GivesTB w (refU u T W) (refT T W) (refB T W) (.returned (.tuple #[.agg #[.bool u, v], .bool true])) w' := by
  have e1 : refU u T W = u := by unfold refU; rw [if_pos h]
  have e2 : refT T W = reR W (bts T) := by unfold refT; rw [if_pos h]
  rw [h, e1, e2]
  obtain ⟨A, c, g, G, rfl, hc, hT⟩ := ho.ownT hs
  exact ⟨⟨A, c, g, G, rfl, hc, (hT.touch t (Or.inr hB)).wide (by omega) t.size⟩, t.below hb (by omega)⟩
theorem refT_mod {T : List (List Bt)} {W : Int} (h : Mod T) : Mod (refT T W) := by
  unfold refT
  split
  · have h1 := flat_len (reR_full W (bts T))
    rw [reR_flat] at h1
    have h2 := h.all
    exact ⟨by omega, by unfold bts; rw [reR_flat]; exact h2⟩
  · exact ⟨by simp, by simp [bts]⟩
theorem any_ref {T : List (List Bt)} {W : Int} (hk : tOk T = true) : refB T W = !(bts T).any (wide W) := by
  unfold refB
  rw [hk, Bool.true_and]
  induction bts T with
  | nil => rfl
  | cons b L ih =>
    rw [List.all_cons, List.any_cons, ih]
    unfold wide
    by_cases h : W < b.w
    · have h' : ¬ b.w ≤ W := by omega
      simp [h, h']
    · have h' : b.w ≤ W := by omega
      simp [h, h']
theorem Touch.later {a w w' : World} {b l : Nat} (t : Touch a w b l) (h : Below a.heap.size w w') : Touch a w' b l :=
  ⟨h.os.trans t.os, h.tape.trans t.tape, h.output.trans t.output, Nat.le_trans t.size h.size, fun k hk ho => (h.block k hk).trans (t.block k hk ho)⟩
theorem own_touch2 {w w' : World} {B s n b l : Nat} {e : TypeId} {v : Value} {xs : List Value} (h : w.ownsRow B e s v n xs) (t : Touch w w' b l) (hl : l ≤ B) : w'.ownsRow B e s v n xs := by
  rcases h.2 with ⟨h1, h2⟩ | ⟨g, cap, cur, h1, hg, hh, h2⟩
  · exact ⟨h.1, Or.inl ⟨h1, h2⟩⟩
  · exact ⟨h.1, Or.inr ⟨g, cap, cur, h1, hg, (t.block g (Array.getElem?_eq_some_iff.1 hh).1 (Or.inr (by omega))).trans hh, h2⟩⟩
theorem VRows.touch {w w' : World} {B b l : Nat} {v : Value} {T : List (List Value)} {xs : List Value} (h : VRows w B v T xs) (t : Touch w w' b l) (hl : l ≤ B) : VRows w' B v T xs :=
  ⟨own_touch2 h.own t hl, fun i r hi => by
    obtain ⟨u, h1, h2⟩ := h.row i r hi
    exact ⟨u, h1, own_touch2 h2 t hl⟩, h.ne⟩
set_option maxRecDepth 100000 in
set_option maxHeartbeats 4000000 in
theorem reform_impl (up : Bool) (A : Option Addr) (c : Nat) (T : List (List Bt)) (W : Int) (w : World) (hm : Mod T) (hp : Trn w A T) (hW : (Lit.int .i64 W).wf = true) :
    Calls Try.prog 28 #[.agg #[.bool up, .slice A T.length c], .int .i64 W] w (GivesTB w (refU up T W) (refT T W) (refB T W)) := by
  have HM := vl hm
  have HB0 := vl ((((Below.refl w.heap.size w).alloc (Nat.le_refl _) (.cells #[.bool up, .slice A T.length c] 26)).alloc (by simp) (.cells #[.int .i64 W] 3)).alloc (by simp; omega) (.cells #[.bool false, .slice none 0 0] 26))
  have HP1 := vl (hp.below HB0.out)
  have HXY := vl (show TBox (((w.alloc (.cells #[.bool up, .slice A T.length c] 26)).alloc (.cells #[.int .i64 W] 3)).alloc (.cells #[.bool false, .slice none 0 0] 26)) w.heap.size up A T.length c ∧ (((w.alloc (.cells #[.bool up, .slice A T.length c] 26)).alloc (.cells #[.int .i64 W] 3)).alloc (.cells #[.bool false, .slice none 0 0] 26)).cell? ⟨w.heap.size + 1, 0, none⟩ = some (.int .i64 W) ∧ TBoxF (((w.alloc (.cells #[.bool up, .slice A T.length c] 26)).alloc (.cells #[.int .i64 W] 3)).alloc (.cells #[.bool false, .slice none 0 0] 26)) (w.heap.size + 2) false (.slice none 0 0) from by
    have h1 := ((TBox.new w up A T.length c 26).below ((Below.refl _ _).alloc (Nat.le_refl _) (.cells #[.int .i64 W] 3))).below ((Below.refl _ _).alloc (Nat.le_refl _) (.cells #[.bool false, .slice none 0 0] 26))
    have h3 := TBoxF.new ((w.alloc (.cells #[.bool up, .slice A T.length c] 26)).alloc (.cells #[.int .i64 W] 3)) false (.slice none 0 0) 26
    have h2 := (((Below.refl ((w.alloc (.cells #[.bool up, .slice A T.length c] 26)).alloc (.cells #[.int .i64 W] 3)).heap.size _).alloc (Nat.le_refl _) (.cells #[.bool false, .slice none 0 0] 26)).cell (p := ⟨w.heap.size + 1, 0, none⟩) (by simp)).trans ((World.cell?_alloc_at _ _ (w.heap.size + 1) 0 (by simp)).trans rfl)
    exact ⟨h1, h2, by simpa using h3⟩)
  clear hm hp
  go_enter Try.func28, Try.ntmps28
  go_wp2_with fail
  refine (tok_impl up A c T _ HM.out HP1.out).mono ?_
  rintro e w5 ⟨rfl, hb5⟩
  have HB5 := vl (HB0.out.trans (hb5.mono HB0.out.size))
  have HX5 := vl (HXY.out.1.below hb5)
  have HW5 := vl ((hb5.cell (cell_lt' HXY.out.2.1)).trans HXY.out.2.1)
  have HR5 := vl (HXY.out.2.2.below hb5 HXY.out.2.2.lt)
  have HP5 := vl (HP1.out.below hb5)
  clear hb5 HXY HB0 HP1
  have r0 := HR5.out.c0; have r1 := HR5.out.c1; have r2 := HR5.out.f0; have r3 := HR5.out.f1
  obtain ⟨x0, x1⟩ := HX5.out
  cases hok : tOk T with
  | false =>
    have HE := vl (show refB T W = false by unfold refB; rw [hok]; rfl)
    go_wp2
    refine bodyPost_ret (v := .tuple #[.agg #[.bool false, .slice none 0 0], .bool false]) (by simp [results, Try.results28, go_sem, r0, r1]) rfl ?_
    exact ref_no HE.out (by (repeat' (first | (with_reducible exact Below.refl _ _) | (with_reducible refine Below.drew ?_) | (with_reducible refine Below.alloc ?_ ?_ _) | (with_reducible refine Below.setCell ?_ ?_ _) | (with_reducible refine Below.trans ?_ (HB5.out.mono ?_)) | (first | omega | (simp; omega) | (simp; done)))))
  | true =>
    have HK := vl hok
    have hlt5 := HR5.out.lt
    clear hok r0 r1 r2 r3
    go_wp2_with fail
    refine (boats_t up A c _ T _ HM.out (HP5.out.alloc _) (by simp)).mono ?_
    rintro e w6 ⟨⟨v, rfl, ho6⟩, hb6⟩
    have hb6' : Below w5.heap.size w5 w6 := ((Below.refl w5.heap.size w5).alloc (Nat.le_refl _) _).trans (hb6.mono (by simp))
    have HB6 := vl (HB5.out.trans (hb6'.mono HB5.out.size))
    have HX6 := vl (HX5.out.below hb6')
    have HW6 := vl ((hb6'.cell (cell_lt' HW5.out)).trans HW5.out)
    have HR6 := vl (HR5.out.below hb6' HR5.out.lt)
    obtain ⟨A6, c6, g6, rfl, hc6, hr6, _⟩ := rowB_of_own ho6 hb6.size
    have HT6 := vl hr6.bts
    have hn6 := (tOk_iff.1 HK.out).n1
    have hn0 := (tOk_iff.1 HK.out).n0
    have hlt6 := HR6.out.lt
    have ANY := vl (any_ref (W := W) HK.out)
    clear hb6 hb6' ho6 hr6 hc6 x0 x1 hlt5 HX5 HW5 HR5 HP5 HB5
    have hmf : ∀ (fn : Fn) (first cap : Array Value) (w : World), (Instr.makeFunc fn first cap).run Try.prog w = .ok (.func fn first cap) w := fun _ _ _ _ => rfl
    go_wp2_with fail
    refine (any_wide W (w.heap.size + 1) A6 c6 (bts T) _ (by omega) HT6.out HW6.out).mono ?_
    rintro e w7 ⟨rfl, hb7⟩
    have HB7 := vl (HB6.out.trans (hb7.mono HB6.out.size))
    have HX7 := vl (HX6.out.below hb7)
    have HW7 := vl ((hb7.cell (cell_lt' HW6.out)).trans HW6.out)
    have HR7 := vl (HR6.out.below hb7 HR6.out.lt)
    have HT7 := vl (HT6.out.below hb7)
    have hlt7 := HR7.out.lt
    clear hb7 hlt6 HX6 HW6 HR6 HT6 HB6
    have r0 := HR7.out.c0; have r1 := HR7.out.c1; have r2 := HR7.out.f0; have r3 := HR7.out.f1
    obtain ⟨x0, x1⟩ := HX7.out
    cases hany : (bts T).any (wide W) with
    | true =>
      have HE := vl (show refB T W = false by rw [ANY.out, hany]; rfl)
      clear hany
      go_wp2
      refine bodyPost_ret (v := .tuple #[.agg #[.bool false, .slice none 0 0], .bool false]) (by simp [results, Try.results28, go_sem, r0, r1]) rfl ?_
      exact ref_no HE.out (by (repeat' (first | (with_reducible exact Below.refl _ _) | (with_reducible refine Below.drew ?_) | (with_reducible refine Below.alloc ?_ ?_ _) | (with_reducible refine Below.setCell ?_ ?_ _) | (with_reducible refine Below.trans ?_ (HB7.out.mono ?_)) | (first | omega | (simp; omega) | (simp; done)))))
    | false =>
      have HE := vl (show refB T W = true by rw [ANY.out, hany]; rfl)
      have hba := (Below.refl w7.heap.size w7).alloc (Nat.le_refl _) (.cells #[.bool up, .slice none 0 0] 26)
      have HB8 := vl (HB7.out.trans (hba.mono HB7.out.size))
      have HW8 := vl ((hba.cell (cell_lt' HW7.out)).trans HW7.out)
      have HR8 := vl (HR7.out.below hba HR7.out.lt)
      have HT8 := vl (HT7.out.below hba)
      have HX8 := vl (TBoxF.new w7 up (.slice none 0 0) 26)
      clear hba hany r0 r1 r2 r3
      go_wp2
      clear x0 x1
      have h87 : (w7.alloc (.cells #[.bool up, .slice none 0 0] 26)).heap.size = w7.heap.size + 1 := by simp
      generalize hp7 : w7.heap.size = p at HX8 h87 hlt7 ⊢
      generalize hw8 : w7.alloc (.cells #[.bool up, .slice none 0 0] 26) = w8 at HB8 HW8 HR8 HT8 HX8 h87
      have HS8 := vl h87
      have hp8 : p < w8.heap.size := by omega
      clear hw8 h87 HB7 HX7 HW7 HR7 HT7 hp7
      have y1 := HW8.out
      have HBT := vl (fun (b : Bt) (hb : b ∈ bts T) => by
        have := (tOk_iff.1 HK.out).ok b hb
        have h0 := this.w0
        have h1 := this.w1
        exact (show 0 ≤ b.w ∧ b.w ≤ 200 by omega))
      go_region_held3 (fun w' => w'.cell? ⟨w.heap.size + 1, 0, none⟩ = some (.int .i64 W))
        (first | assumption | go_keep)
        (first
          | (go_at_call 85
             refine (side_boats W A2 c2 (bts T) _ (by omega) HBT.out HV2.out).mono ?_
             rintro e w10 ⟨⟨v3, xs3, rfl, ho3⟩, hb3⟩
             obtain ⟨A3, c3, rfl, _⟩ := own_src ho3.own
             rw [List.length_map] at ho3 ⊢
             have S3 := (hb3.cell (cell_lt' S2)).trans S2)
          | (go_at_call 86
             refine (vessels A6 c6 (bts T) _ (by omega) HT8.out.drew).mono ?_
             rintro e w9 ⟨⟨v2, rfl, ho2⟩, hb2⟩
             obtain ⟨A2, c2, rfl, hv2⟩ := vsl_of_own ho2
             have HV2 := vl hv2
             have S2 := (hb2.cell (cell_lt' y1)).trans y1))
      have hb2' : Below w8.heap.size w8 w9 := (Below.refl w8.heap.size w8).drew.trans hb2
      have hb210 : Below w8.heap.size w8 w10 := hb2'.trans (hb3.mono hb2'.size)
      have HB10 := vl (HB8.out.trans (hb210.mono HB8.out.size))
      have HR10 := vl (HR8.out.below hb210 HR8.out.lt)
      have HX10 := vl (HX8.out.below hb210 hp8)
      have HO10 := vl ho3
      have h89 : w8.heap.size ≤ w9.heap.size := hb2'.size
      have h910 : w9.heap.size ≤ w10.heap.size := hb3.size
      have HRow := vl (fun (r : List Bt) (hr : r ∈ reR W (bts T)) => by
        rw [reR_side] at hr
        have := (sideG_row hr).1
        exact (show r.length ≤ 6 by omega))
      have hMl : (reR W (bts T)).length ≤ 6 := by
        have := flat_len (reR_full W (bts T)); rw [reR_flat] at this; omega
      have HV := vl (fun w w1 w' v xs B p => ref_yes2 (u := up) HE.out (w := w) (w1 := w1) (w' := w') (v := v) (xs := xs) (B := B) (p := p))
      clear hb2 hb2' hb3 hb210 ho3 ho2 hv2 HV2 S2 S3 y1 HX8 HR8 HB8 HW8 HT8 HBT HS8
      generalize hQ : reR W (bts T) = M at HO10 HRow hMl HV ⊢
      generalize hB9 : w9.heap.size = B9 at HO10 h89 h910
      generalize hB10 : w10.heap.size = B at h910
      have HB10' := vl hB10
      clear hB9 hB10
      obtain ⟨j0, hj, hy0, hy1, hy2⟩ := info_parts infoR
      go_wp2
      go_loopw [32] (fun i wr => ∃ (k : Nat) (v : Value) (xs : List Value), k ≤ M.length ∧ i = .int .i64 k ∧ Veil (Below w.heap.size w wr) ∧ Veil (TBoxF wr (w.heap.size + 2) false (.slice none 0 0)) ∧ Veil (TBoxF wr p up v) ∧ Veil (Touch w10 wr p (p + 1)) ∧ Veil (OwnRows wr B v (M.take k) xs) ∧ B ≤ wr.heap.size) (fun i _ => M.length - (intOf i).toNat)
      case atStart => exact ⟨0, .slice none 0 0, [], by omega, rfl, HB10, HR10, HX10, vl (Touch.refl _ _ _), vl (OwnRows.nil _ _), by have := HB10'.out; omega⟩
      case round =>
        obtain ⟨k, v, xs, hk, rfl, HB, HR0, HX, HT0, HO, hBw⟩ := hrel
        have HL3 := vl (HO10.out.touch HT0.out (by omega))
        have hz := HX.out.lt
        by_cases hlt : k < M.length
        · obtain ⟨r, hr⟩ := get_of hlt
          obtain ⟨u0, hu0, hro⟩ := HL3.out.row k (vsl r) (by rw [List.getElem?_map, hr]; rfl)
          rw [vsl_len] at hro
          obtain ⟨Ar, cr, rfl, hvr⟩ := vsl_of_own hro
          obtain ⟨g0, rfl⟩ : ∃ g0, A3 = some ⟨g0, 0, none⟩ := by
            rcases HL3.out.own.2 with ⟨_, h0⟩ | ⟨g, cap, cur, e, _⟩
            · rw [List.length_map] at h0; omega
            · injection e with e1; exact ⟨g, e1⟩
          have x0 : wr.cell? ⟨g0, k, none⟩ = some (.slice Ar r.length cr) := by
            have h := HL3.out.own
            rw [List.length_map] at h
            rw [h.cellAt _ (by omega)]; exact hu0
          have HS := vl hvr
          have hrn := HRow.out r (mem_of hr)
          have HK := vl (snoc_take hr)
          have hlen : (M.take k).length = k := by rw [List.length_take]; omega
          have x1 := HX.out.c1
          have HL := vl hlen
          clear hr hlen hvr hro hu0
          go_wp2
          go_region_law (first
              | (refine step_append_lies _ (by rfl) _ _ 24 (by rfl) B 30 j0 (.slice none 0 0) 1 24 Try.underlying24 hj hy0 hy1 hy2 rfl (by decide) v (M.take k).length xs (by rfl) (HO2.out.own.alloc _) ⟨w2.heap.size, 0, none⟩ 1 1 [.slice Au r.length cu] (by rfl) rfl (fun j x hx => World.news_of_block (heap_alloc_new _ _) j x (by simpa using hx)) (fun x hx => by simp at hx; subst hx; exact own_one HU.out) (by omega) (by rw [HL.out]; unfold maxLen; omega) (by rw [HL.out]; omega) (by simp; omega) _ rfl ?_
                 intro g3 cap w3 hown3 hgrow hat hlt3
                 have HO3 := vl (HO.out.snoc (by omega) HB2.out HU.out hown3 hgrow)
                 have hb3 := ((Below.refl B w2).alloc (by omega) (.cells #[.slice Au r.length cu] 30)).trans (below_app' (HO2.out.own.alloc (.cells #[.slice Au r.length cu] 30)) hgrow (by simp; omega))
                 have HB3 := vl (HB.out.trans ((HB2.out.mono HB.out.size).trans (hb3.mono (by omega))))
                 have HX3 := vl ((HX.out.below HB2.out hz).below hb3 (by omega))
                 have HR3 := vl ((HR0.out.below HB2.out (by omega)).below hb3 (by omega))
                 have HT3 := vl (HT0.out.later (w' := w3) (by rw [HB10'.out]; exact (HB2.out.mono hBw).trans hb3))
                 have hB3 : B ≤ w3.heap.size := Nat.le_trans (by omega) hb3.size
                 have S3 := HX3.out.c1
                 have F1 := HX3.out.f1
                 clear hown3 hgrow hat hlt3 hb3)
              | (go_simp
                 go_at_call 77
                 refine (boats_v Ar cr r _ (by omega) (HS.out.below (Below.refl wr.heap.size wr).drew)).mono ?_
                 rintro e w2 ⟨⟨u, rfl, hu⟩, hb2⟩
                 obtain ⟨Au, cu, rfl, _⟩ := own_src hu
                 have hb2' : Below wr.heap.size wr w2 := (Below.refl wr.heap.size wr).drew.trans hb2
                 have HB2 := vl hb2'
                 have HU := vl (show w2.ownsRow wr.heap.size 29 6 (.slice Au r.length cu) r.length (btl r) from hu)
                 have HO2 := vl (HO.out.below hb2')
                 have hz0 : wr.heap.size ≤ w2.heap.size := hb2'.size
                 have hz2 : p < w2.heap.size := Nat.lt_of_lt_of_le hz hb2'.size
                 have S1 := (hb2'.cell (p := ⟨p, 1, none⟩) hz).trans x1
                 clear hb2 hb2' hu))
          all_goals
            have HO4 := vl (show OwnRows w3 B (.slice (some ⟨g3, 0, none⟩) (k + 1) cap) (M.take (k + 1)) (xs ++ [.slice Au r.length cu]) from by
              have := HO3.out
              rw [HL.out] at this
              rw [HK.out]; exact this)
            go_wp2
            go_roundw
            case rel => exact ⟨k + 1, _, _, by omega, by go_num, vl (HB3.out.setCell (show w.heap.size ≤ p by omega) _), vl (HR3.out.far _ (by omega)), vl (HX3.out.set _), vl (HT3.out.set p 1 _ (Nat.le_refl _) (Nat.lt_succ_self _)), vl (HO4.out.set (by omega)), by simpa using hB3⟩
            case measure => simp [intOf]; omega
        · obtain rfl : k = M.length := by omega
          have HT := vl (show M.take M.length = M from List.take_length)
          rw [HT.out] at HO
          obtain ⟨Av, cv, rfl, _⟩ := own_src HO.out.own
          have r0 := HR0.out.c0; have r1 := HR0.out.c1; have r2 := HR0.out.f0; have r3 := HR0.out.f1
          have x0 := HX.out.c0; have x1 := HX.out.c1
          have hpl : w.heap.size + 2 < p := hlt7
          go_wp2
          refine bodyPost_ret (v := .tuple #[.agg #[.bool up, .slice Av M.length cv], .bool true]) (by simp [results, Try.results28, go_sem, r0, r1]) rfl ?_
          refine HV.out w wr _ (.slice Av M.length cv) xs B (w.heap.size + 2) HB.out (by omega) (by omega) hBw HO.out ?_
          iterate 2 (with_reducible refine Touch.set ?_ _ _ _ (by omega) (by omega))
          exact Touch.refl _ _ _
end Go.Proofs.Ytneapghhnjheaaa.C1
