/- A copy of a train, its rows as rows of one's own; two such trains joined. -/
import Derived.Test.YtmfeleocjmdooaaTrC
namespace Go.Proofs.Ytmfeleocjmdooaa.C1
open Go.ChangeShapes Go.WideShapes Go.ChangeAt Go.RowKit
set_option linter.unusedVariables false

theorem OwnRows.wide {w : World} {B B' : Nat} {v : Value} {T : List (List Bt)} {xs : List Value} (h : OwnRows w B v T xs) (hB : B' ≤ B) : OwnRows w B' v T xs :=
  ⟨own_base h.own hB, fun i r hi => by
    obtain ⟨u, h1, h2⟩ := h.row i r hi
    exact ⟨u, h1, own_base h2 hB⟩, h.ne⟩
def GivesO (w : World) (up : Bool) (T : List (List Bt)) (e : Ending) (w' : World) : Prop :=
  (∃ v xs, e = .returned (.agg #[.bool up, v]) ∧ OwnRows w' w.heap.size v T xs) ∧ Below w.heap.size w w'
theorem OwnRows.blk {w : World} {B : Nat} {v : Value} {T : List (List Bt)} {xs : List Value} (h : OwnRows w B v T xs) {i : Nat} {x : Value} {k : Nat} (hx : xs[i]? = some x) (hk : x.ownBlock = some k) : B ≤ k ∧ k < w.heap.size := by
  obtain ⟨r, hr⟩ := get_of (L := T) (k := i) (by have := len_of hx; have := h.len; omega)
  obtain ⟨x', h1, h2⟩ := h.row i r hr
  rw [hx] at h1
  injection h1 with h1
  subst h1
  exact h2.lt k hk
theorem OwnRows.join {w1 w2 w3 : World} {B : Nat} {v1 v2 v' : Value} {T1 T2 : List (List Bt)} {xs1 xs2 : List Value} (h1 : OwnRows w1 B v1 T1 xs1) (hB : B ≤ w1.heap.size) (hb : Below w1.heap.size w1 w2) (h2 : OwnRows w2 w1.heap.size v2 T2 xs2)
    (h3 : w3.ownsRow B 30 1 v' (T1.length + T2.length) (xs1 ++ xs2)) (hg : w2.grownBy w3 v1.ownBlock) : OwnRows w3 B v' (T1 ++ T2) (xs1 ++ xs2) := by
  have hl1 := h1.len
  have h12 := h1.below hb
  have hne30 : (29 : TypeId) ≠ 30 := by decide
  have mix : ∀ (i j : Nat) (x y : Value), xs1[i]? = some x → xs2[j]? = some y → (x.ownBlock = none ∨ x.ownBlock ≠ y.ownBlock) ∧ (y.ownBlock = none ∨ y.ownBlock ≠ x.ownBlock) := fun i j x y hx hy => by
    cases hxb : x.ownBlock with
    | none => refine ⟨Or.inl rfl, ?_⟩; cases hyb : y.ownBlock with
      | none => exact Or.inl rfl
      | some k => exact Or.inr (by simp)
    | some k =>
      cases hyb : y.ownBlock with
      | none => exact ⟨Or.inr (by simp), Or.inl rfl⟩
      | some k' =>
        have a1 := (h1.blk hx hxb).2
        have a2 := (h2.blk hy hyb).1
        exact ⟨Or.inr (by intro e; injection e with e; omega), Or.inr (by intro e; injection e with e; omega)⟩
  refine ⟨by rw [List.length_append]; exact h3, fun i r hi => ?_, fun i j x y hx hy hij => ?_⟩
  · rcases Nat.lt_or_ge i T1.length with hlt | hge
    · rw [List.getElem?_append_left hlt] at hi
      obtain ⟨x, h4, h5⟩ := h12.row i r hi
      exact ⟨x, by rw [List.getElem?_append_left (by omega)]; exact h4, h5.kept hg (own_ne h5 h12.own hne30)⟩
    · rw [List.getElem?_append_right hge] at hi
      obtain ⟨x, h4, h5⟩ := h2.row _ r hi
      exact ⟨x, by rw [List.getElem?_append_right (by omega), hl1]; exact h4, (own_base h5 hB).kept hg (own_ne h5 h12.own hne30)⟩
  · rcases Nat.lt_or_ge i xs1.length with hi | hi
    · rw [List.getElem?_append_left hi] at hx
      rcases Nat.lt_or_ge j xs1.length with hj | hj
      · rw [List.getElem?_append_left hj] at hy
        exact h1.ne i j x y hx hy hij
      · rw [List.getElem?_append_right hj] at hy
        exact (mix i _ x y hx hy).1
    · rw [List.getElem?_append_right hi] at hx
      rcases Nat.lt_or_ge j xs1.length with hj | hj
      · rw [List.getElem?_append_left hj] at hy
        exact (mix j _ y x hy hx).2
      · rw [List.getElem?_append_right hj] at hy
        exact h2.ne _ _ x y hx hy (by omega)
set_option maxRecDepth 100000 in
set_option maxHeartbeats 4000000 in
theorem copy_own (up : Bool) (A : Option Addr) (c : Nat) (T : List (List Bt)) (w : World) (hm : Mod T) (hp : Trn w A T) :
    Calls Try.prog 128 #[.agg #[.bool up, .slice A T.length c]] w (GivesO w up T) := by
  have HM := vl hm
  have hn := hm.rows
  have HP := vl hp
  clear hm hp
  have HB0 := vl ((((Below.refl w.heap.size w).alloc (Nat.le_refl _) (.cells #[.bool up, .slice A T.length c] 26)).alloc (by simp) (.cells #[.bool false, .slice none 0 0] 26)).alloc (by simp; omega) (.cells #[.bool up, .slice none 0 0] 26))
  go_enter Try.func128, Try.ntmps128
  go_wp2
  obtain ⟨j0, hj, hy0, hy1, hy2⟩ := info_parts infoR
  obtain ⟨i0, hi, hz0, hz1, hz2⟩ := info_parts infoB2
  go_loopw [4] (fun i wr => ∃ k v xs, k ≤ T.length ∧ i = .int .i64 k ∧ Veil (Below w.heap.size w wr) ∧ Veil (wr.cell? ⟨w.heap.size, 1, none⟩ = some (.slice A T.length c)) ∧ Veil (TBoxF wr (w.heap.size + 1) false (.slice none 0 0)) ∧ Veil (TBoxF wr (w.heap.size + 2) up v) ∧ Veil (OwnRows wr (w.heap.size + 3) v (T.take k) xs)) (fun i _ => T.length - (intOf i).toNat)
  case atStart =>
    refine ⟨0, .slice none 0 0, [], by omega, rfl, HB0, vl ?_, vl ?_, vl ?_, vl (OwnRows.nil _ _)⟩
    · have hb := ((Below.refl (w.alloc (.cells #[.bool up, .slice A T.length c] 26)).heap.size (w.alloc (.cells #[.bool up, .slice A T.length c] 26))).alloc (Nat.le_refl _) (.cells #[.bool false, .slice none 0 0] 26)).alloc (by simp) (.cells #[.bool up, .slice none 0 0] 26)
      exact (hb.cell (p := ⟨w.heap.size, 1, none⟩) (by simp)).trans (TBox.new w up A T.length c 26).2
    · have h := TBoxF.new (w.alloc (.cells #[.bool up, .slice A T.length c] 26)) false (.slice none 0 0) 26
      have h' : TBoxF ((w.alloc (.cells #[.bool up, .slice A T.length c] 26)).alloc (.cells #[.bool false, .slice none 0 0] 26)) (w.heap.size + 1) false (.slice none 0 0) := by simpa using h
      exact h'.block (Below.heap_alloc ((w.alloc (.cells #[.bool up, .slice A T.length c] 26)).alloc (.cells #[.bool false, .slice none 0 0] 26)) (.cells #[.bool up, .slice none 0 0] 26) (w.heap.size + 1) (by simp))
    · have := TBoxF.new ((w.alloc (.cells #[.bool up, .slice A T.length c] 26)).alloc (.cells #[.bool false, .slice none 0 0] 26)) up (.slice none 0 0) 26
      simpa using this
  case round =>
    obtain ⟨k, v, xs, hk, rfl, HB, HT1, HR0, HX, HO⟩ := hrel
    have t1 := HT1.out
    by_cases hlt : k < T.length
    · obtain ⟨r, hr⟩ := get_of hlt
      obtain ⟨g, o, rfl, hc⟩ := (HP.out.below HB.out) (by omega)
      obtain ⟨Ai, ci, c0, HS⟩ := hc k r hr
      have hrn := HM.out.row (mem_of hr)
      have HK := vl (snoc_take hr)
      have hz := HX.out.lt
      have hlen : (T.take k).length = k := by rw [List.length_take]; omega
      have x1 := HX.out.c1
      have HL := vl hlen
      have HE := vl (show (wr.drew.alloc (.cells #[] 29)).ownsRow wr.heap.size 29 6 (.slice (some ⟨wr.heap.size, 0, none⟩) 0 0) 0 [] from by
        have := World.ownsRow_lit (base := wr.heap.size) (e := 29) (size := 6) wr.drew #[] 0 (Nat.le_refl _) (by decide) rfl
        simpa using this)
      have HA := vl ((Below.refl wr.heap.size wr).drew.alloc (Nat.le_refl _) (.cells #[] 29))
      have hba := (Below.refl wr.heap.size wr).alloc (Nat.le_refl _) (.cells #[] 29)
      have s1 := (hba.cell (cell_lt' x1)).trans x1
      have s2 := (hba.cell (cell_lt' t1)).trans t1
      have s3 := (hba.cell (cell_lt' c0)).trans c0
      clear hba
      have HSS := vl (src_b (HS.out.below HA.out))
      clear hc hr hlen
      go_wp2
      go_region_law (first
          | (refine step_append_lies _ (by rfl) _ _ 24 (by rfl) (w.heap.size + 3) 30 j0 (.slice none 0 0) 1 24 Try.underlying24 hj hy0 hy1 hy2 rfl (by decide) v (T.take k).length xs (by rfl) (HO2.out.own.alloc _) ⟨w2.heap.size, 0, none⟩ 1 1 [.slice Au r.length cu] (by rfl) rfl (fun j x hx => World.news_of_block (heap_alloc_new _ _) j x (by simpa using hx)) (fun x hx => by simp at hx; subst hx; exact own_one HU.out) (by omega) (by rw [HL.out]; unfold maxLen; omega) (by rw [HL.out]; omega) (by simp; omega) _ rfl ?_
             intro g3 cap w3 hown3 hgrow hat hlt3
             have HO3 := vl (HO.out.snoc (by omega) HB2.out HU.out hown3 hgrow)
             have hb3 := ((Below.refl (w.heap.size + 3) w2).alloc (by omega) (.cells #[.slice Au r.length cu] 30)).trans (below_app' (HO2.out.own.alloc (.cells #[.slice Au r.length cu] 30)) hgrow (by simp; omega))
             have HB3 := vl (HB.out.trans ((HB2.out.mono HB.out.size).trans (hb3.mono (by omega))))
             have HX3 := vl ((HX.out.below HB2.out hz).below hb3 (by omega))
             have HR3 := vl ((HR0.out.below HB2.out (by omega)).below hb3 (by omega))
             have HT3 := vl ((hb3.cell (p := ⟨w.heap.size, 1, none⟩) (by show w.heap.size < _; omega)).trans ((HB2.out.cell (p := ⟨w.heap.size, 1, none⟩) (by show w.heap.size < _; omega)).trans t1))
             have S3 := HX3.out.c1
             have F1 := HX3.out.f1
             clear hown3 hgrow hat hlt3 hb3)
          | (refine step_app (by rfl) _ _ 30 (by rfl) wr.heap.size 29 i0 _ 6 48 Try.underlying30 hi hz0 hz1 hz2 rfl (by decide) (.slice (some ⟨wr.heap.size, 0, none⟩) 0 0) 0 [] (by rfl) HE.out Ai r.length ci (btl r) (by rfl) (btl_len _) HSS.out btl_cell (by unfold maxLen; omega) (by omega) HA.out.size ?_
             intro u w2 hu hgr
             rw [Nat.zero_add, List.nil_append] at hu
             obtain ⟨Au, cu, rfl, _⟩ := own_src hu
             have hb2' : Below wr.heap.size wr w2 := HA.out.trans (below_app' HE.out hgr HA.out.size)
             have HB2 := vl hb2'
             have HU := vl hu
             have HO2 := vl (HO.out.below hb2')
             have hz2 : w.heap.size + 2 < w2.heap.size := Nat.lt_of_lt_of_le hz hb2'.size
             have S1 := (hb2'.cell (p := ⟨w.heap.size + 2, 1, none⟩) hz).trans x1
             clear hgr hb2' hu))
      all_goals
        have HO4 := vl (show OwnRows w3 (w.heap.size + 3) (.slice (some ⟨g3, 0, none⟩) (k + 1) cap) (T.take (k + 1)) (xs ++ [.slice Au r.length cu]) from by
          have := HO3.out
          rw [HL.out] at this
          rw [HK.out]; exact this)
        clear HO3 HB2 HU HO2 S1 HSS HE HA s1 s2 s3 x1 t1 c0 HS
        go_wp2
        go_roundw
        case rel => exact ⟨k + 1, _, _, by omega, by go_num, vl (HB3.out.setCell (by show w.heap.size ≤ w.heap.size + 2; omega) _), vl ((World.cell?_setCell_other _ _ _ _ (by intro e; injection e with e; omega)).trans HT3.out), vl (HR3.out.far _ (by omega)), vl (HX3.out.set _), vl (HO4.out.set (by omega))⟩
        case measure => simp [intOf]; omega
    · obtain rfl : k = T.length := by omega
      have HT := vl (show T.take T.length = T from List.take_length)
      rw [HT.out] at HO
      have hz := HX.out.lt
      obtain ⟨Av, cv, rfl, _⟩ := own_src HO.out.own
      have x0 := HX.out.c0; have x1 := HX.out.c1
      have y0 := HR0.out.c0; have y1 := HR0.out.c1; have q0 := HR0.out.f0; have q1 := HR0.out.f1
      go_wp2
      refine bodyPost_ret (v := .agg #[.bool up, .slice Av T.length cv]) (by simp [results, Try.results128, go_sem, y0, y1]) rfl ?_
      have HU := vl (((Touch.refl wr (w.heap.size + 1) (w.heap.size + 2)).set (w.heap.size + 1) 0 (.bool up) (Nat.le_refl _) (Nat.lt_succ_self _)).set (w.heap.size + 1) 1 (.slice Av T.length cv) (Nat.le_refl _) (Nat.lt_succ_self _))
      exact ⟨⟨_, xs, rfl, ((HO.out.set (by omega)).set (by omega)).wide (by omega)⟩, HU.out.below HB.out (by omega)⟩
end Go.Proofs.Ytmfeleocjmdooaa.C1
