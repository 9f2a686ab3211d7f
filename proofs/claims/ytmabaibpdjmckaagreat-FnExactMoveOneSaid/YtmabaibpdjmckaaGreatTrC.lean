/- Copies of trains: of the program and of its model. -/
import Derived.Test.YtmabaibpdjmckaaGreatOwnR
import Derived.Deep.RegionLaw
namespace Go.Proofs.YtmabaibpdjmckaaGreat.C1
open Go.ChangeShapes Go.WideShapes Go.ChangeAt Go.RowKit
set_option linter.unusedVariables false

set_option maxRecDepth 100000 in
theorem clone_b (A : Option Addr) (c : Nat) (L : List Bt) (w : World) (hn : L.length ≤ 1048576) (hp : Bts w A L) :
    Calls Tryz.prog 67 #[.slice A L.length c] w fun e w' => (∃ v, e = .returned v ∧ w'.ownsRow w.heap.size 96 6 v L.length (btl L)) ∧ Below w.heap.size w w' := by
  obtain ⟨i0, hi, hz0, hz1, hz2⟩ := info_parts infoB2
  have HP := vl (src_b hp)
  clear hp
  go_enter Tryz.func67, Tryz.ntmps67
  go_wp2_with (at_builtin; refine wpList_app rfl _ _ 91 rfl w.heap.size 96 i0 _ 6 48 Tryz.underlying91 hi hz0 hz1 hz2 rfl (by decide) _ _ _ rfl (own_nil _ _ _ _) A L.length c (btl L) rfl (btl_len _) HP.out btl_cell ?c3 ?c4 (Nat.le_refl _) ?_)
  case c3 => unfold maxLen; omega
  case c4 => omega
  intro v' w1 hown hgr
  have hb := below_none hgr
  have HB := vl hb
  try rw [Nat.zero_add] at hown
  try rw [List.nil_append] at hown
  have HO := vl hown
  clear hown hgr hb
  go_wp2
  go_ret
  exact ⟨⟨_, rfl, HO.out⟩, HB.out⟩
theorem infoR : (Tryz.prog.info? 91).map (fun i => (i.zero, i.size, i.bytes)) = some (some (.slice none 0 0), 1, 24) := by kernel_rfl
/-- A train's box that may be written. -/
structure TBoxF (w : World) (p : Nat) (up : Bool) (v : Value) : Prop where
  c0 : w.cell? ⟨p, 0, none⟩ = some (.bool up)
  c1 : w.cell? ⟨p, 1, none⟩ = some v
  f0 : w.frozen? ⟨p, 0, none⟩ = false
  f1 : w.frozen? ⟨p, 1, none⟩ = false
theorem TBoxF.lt {w : World} {p : Nat} {up : Bool} {v : Value} (h : TBoxF w p up v) : p < w.heap.size := cell_lt' h.c0
theorem TBoxF.block {w w' : World} {p : Nat} {up : Bool} {v : Value} (h : TBoxF w p up v) (hb : w'.heap[p]? = w.heap[p]?) : TBoxF w' p up v :=
  ⟨(World.cell?_of_block hb).trans h.c0, (World.cell?_of_block hb).trans h.c1, (frozen_of_block hb).trans h.f0, (frozen_of_block hb).trans h.f1⟩
theorem TBoxF.below {w w' : World} {p B : Nat} {up : Bool} {v : Value} (h : TBoxF w p up v) (hb : Below B w w') (hp : p < B) : TBoxF w' p up v := h.block (hb.block p hp)
theorem TBoxF.set {w : World} {p : Nat} {up : Bool} {v : Value} (h : TBoxF w p up v) (v' : Value) : TBoxF (w.setCell ⟨p, 1, none⟩ v') p up v' :=
  ⟨(World.cell?_setCell_other _ _ _ _ (by intro e; injection e with _ e; omega)).trans h.c0, World.cell?_setCell_same _ _ _ h.c1, by rw [World.frozen?_setCell]; exact h.f0, by rw [World.frozen?_setCell]; exact h.f1⟩
theorem TBoxF.far {w : World} {p q j : Nat} {up : Bool} {v : Value} (h : TBoxF w p up v) (u : Value) (hne : p ≠ q) : TBoxF (w.setCell ⟨q, j, none⟩ u) p up v := h.block (Below.heap_setCell w ⟨q, j, none⟩ u p hne)
theorem TBoxF.new (w : World) (up : Bool) (v : Value) (t : TypeId) : TBoxF (w.alloc (.cells #[.bool up, v] t)) w.heap.size up v := ⟨by simp, by simp, by simp, by simp⟩
theorem snoc_take {T : List (List Bt)} {k : Nat} {r : List Bt} (hr : T[k]? = some r) : T.take (k + 1) = T.take k ++ [r] := by rw [List.take_add_one, hr]; rfl
theorem step_app {P : Program} {w : World} {ops : Array Oper} {o : Oper} {a : Act} {K : Act → World → Prop} {Q : Exit → Act → World → Prop} {E : Prop} (hgd : o.guard = none) (s x : Operand) (t : TypeId)
    (ho : o.op = .call { callee := .builtin .append, args := #[s, x], argTypes := #[t, t] })
    (base : Nat) (e : TypeId) (i : TypeInfo) (z : Value) (size bytes : Nat) (ht : P.underlying t = some (.slice e)) (hi : P.info? e = some i) (hz : i.zero = some z)
    (hsize : i.size = size) (hby : i.bytes = bytes) (hzs : z.cells.size = size) (hsz : 0 < size) (v : Value) (n : Nat) (xs : List Value) (hs : a.eval s = v) (hown : w.ownsRow base e size v n xs)
    (A : Option Addr) (m c : Nat) (news : List Value) (hx : a.eval x = .slice A m c) (hl : news.length = m * size) (hA : 0 < m → ∃ ad, A = some ad ∧ ∀ j u, news[j]? = some u → w.cell? (ad.add j) = some u) (h1 : ∀ u ∈ news, u.oneCell' = true)
    (h63 : n + m ≤ maxLen) (hbytes : (n + m) * bytes ≤ 140737488355328) (hbase : base ≤ w.heap.size)
    (h : ∀ v' w', w'.ownsRow base e size v' (n + m) (xs ++ news) → w.grownBy w' v.ownBlock → K (a.put o.dst v') w') : if Region.wanted o (yielded ops a.tmps) = true then Oper.wp P o a w K Q else E := by
  have hw : Region.wanted o (yielded ops a.tmps) = true := by simp [Region.wanted, hgd]
  rw [if_pos hw]
  exact wp_app s x t ho base e i z size bytes ht hi hz hsize hby hzs hsz v n xs hs hown A m c news hx hl hA h1 h63 hbytes hbase h
set_option maxRecDepth 100000 in
set_option maxHeartbeats 2000000 in
theorem trainOf_impl (up : Bool) (A : Option Addr) (c : Nat) (T : List (List Bt)) (w : World) (hm : Mod T) (hp : Trn w A T) :
    Calls Tryz.prog 52 #[.bool up, .slice A T.length c] w (GivesT w up T) := by
  have HM := vl hm
  have hn := hm.rows
  have HP := vl hp
  clear hm hp
  go_enter Tryz.func52, Tryz.ntmps52
  go_wp2
  obtain ⟨j0, hj, hy0, hy1, hy2⟩ := info_parts infoR
  go_loopw [12] (fun i wr => ∃ k v xs, k ≤ T.length ∧ i = .int .i64 k ∧ Veil (Below w.heap.size w wr) ∧ Veil (TBoxF wr w.heap.size false (.slice none 0 0)) ∧ Veil (TBoxF wr (w.heap.size + 1) up v) ∧ Veil (OwnRows wr (w.heap.size + 2) v (T.take k) xs)) (fun i _ => T.length - (intOf i).toNat)
  case atStart =>
    refine ⟨0, .slice none 0 0, [], by omega, rfl, vl (((Below.refl _ _).alloc (Nat.le_refl _) _).alloc (by simp) _), vl ?_, vl ?_, vl (OwnRows.nil _ _)⟩
    · exact (TBoxF.new w false (.slice none 0 0) 37).block (Below.heap_alloc _ _ _ (by simp))
    · have := TBoxF.new (w.alloc (.cells #[.bool false, .slice none 0 0] 37)) up (.slice none 0 0) 37
      simpa using this
  case round =>
    obtain ⟨k, v, xs, hk, rfl, HB, HR0, HX, HO⟩ := hrel
    by_cases hlt : k < T.length
    · obtain ⟨r, hr⟩ := get_of hlt
      obtain ⟨g, o, rfl, hc⟩ := (HP.out.below HB.out) (by omega)
      obtain ⟨Ai, ci, c0, HS⟩ := hc k r hr
      have hrn := HM.out.row (mem_of hr)
      have HK := vl (snoc_take hr)
      have hz := HX.out.lt
      have hlen : (T.take k).length = k := by rw [List.length_take]; omega
      have x1 := HX.out.c1
      have HL := vl hlen
      clear hc hr hlen
      go_wp2
      go_region_law (first
          | (refine step_append_lies _ (by rfl) _ _ 35 (by rfl) (w.heap.size + 2) 91 j0 (.slice none 0 0) 1 24 Tryz.underlying35 hj hy0 hy1 hy2 rfl (by decide) v (T.take k).length xs (by rfl) (HO2.out.own.alloc _) ⟨w2.heap.size, 0, none⟩ 1 1 [.slice Au r.length cu] (by rfl) rfl (fun j x hx => World.news_of_block (heap_alloc_new _ _) j x (by simpa using hx)) (fun x hx => by simp at hx; subst hx; exact own_one HU.out) (by omega) (by rw [HL.out]; unfold maxLen; omega) (by rw [HL.out]; omega) (by simp; omega) _ rfl ?_
             intro g3 cap w3 hown3 hgrow hat hlt3
             have HO3 := vl (HO.out.snoc (by omega) HB2.out HU.out hown3 hgrow)
             have hb3 := ((Below.refl (w.heap.size + 2) w2).alloc (by omega) (.cells #[.slice Au r.length cu] 91)).trans (below_app' (HO2.out.own.alloc (.cells #[.slice Au r.length cu] 91)) hgrow (by simp; omega))
             have HB3 := vl (HB.out.trans ((HB2.out.mono HB.out.size).trans (hb3.mono (by omega))))
             have HX3 := vl ((HX.out.below HB2.out hz).below hb3 (by omega))
             have HR3 := vl ((HR0.out.below HB2.out (by omega)).below hb3 (by omega))
             have S3 := HX3.out.c1
             have F1 := HX3.out.f1
             clear hown3 hgrow hat hlt3 hb3)
          | (go_simp
             go_at_call 67
             refine (clone_b Ai ci r _ hrn HS.out.drew).mono ?_
             rintro e w2 ⟨⟨u, rfl, hu⟩, hb2⟩
             obtain ⟨Au, cu, rfl, _⟩ := own_src hu
             have hb2' : Below wr.heap.size wr w2 := (Below.refl wr.heap.size wr).drew.trans hb2
             have HB2 := vl hb2'
             have HU := vl (show w2.ownsRow wr.heap.size 96 6 (.slice Au r.length cu) r.length (btl r) from hu)
             have HO2 := vl (HO.out.below hb2')
             have hz2 : w.heap.size + 1 < w2.heap.size := Nat.lt_of_lt_of_le hz hb2'.size
             have S1 := (hb2'.cell (p := ⟨w.heap.size + 1, 1, none⟩) hz).trans x1
             clear hb2 hb2' hu))
      all_goals
        have HO4 := vl (show OwnRows w3 (w.heap.size + 2) (.slice (some ⟨g3, 0, none⟩) (k + 1) cap) (T.take (k + 1)) (xs ++ [.slice Au r.length cu]) from by
          have := HO3.out
          rw [HL.out] at this
          rw [HK.out]; exact this)
        go_wp2
        go_roundw
        case rel => exact ⟨k + 1, _, _, by omega, by go_num, vl (HB3.out.setCell (Nat.le_succ _) _), vl (HR3.out.far _ (by omega)), vl (HX3.out.set _), vl (HO4.out.set (by omega))⟩
        case measure => simp [intOf]; omega
    · obtain rfl : k = T.length := by omega
      have HT := vl (show T.take T.length = T from List.take_length)
      rw [HT.out] at HO
      have hz := HX.out.lt
      obtain ⟨Av, cv, g, G, rfl, hcv, hoT⟩ := HO.out.ownT (by omega)
      have HOT := vl hoT
      clear hoT
      have x0 := HX.out.c0; have x1 := HX.out.c1
      have y0 := HR0.out.c0; have y1 := HR0.out.c1; have q0 := HR0.out.f0; have q1 := HR0.out.f1
      go_wp2
      refine bodyPost_ret (v := .agg #[.bool up, .slice Av T.length cv]) (by simp [results, Tryz.results52, go_sem, y0, y1]) rfl ?_
      have HU := vl (((Touch.refl wr w.heap.size (w.heap.size + 1)).set w.heap.size 0 (.bool up) (Nat.le_refl _) (Nat.lt_succ_self _)).set w.heap.size 1 (.slice Av T.length cv) (Nat.le_refl _) (Nat.lt_succ_self _))
      have hs := HU.out.size
      exact ⟨⟨Av, cv, g, G, rfl, hcv, (HOT.out.touch HU.out (Or.inr (by omega))).wide (by omega) hs⟩, HU.out.below HB.out (Nat.le_refl _)⟩
set_option maxRecDepth 100000 in
set_option maxHeartbeats 4000000 in
theorem copy_spec (up : Bool) (A : Option Addr) (c : Nat) (T : List (List Bt)) (w : World) (hm : Mod T) (hp : Trn w A T) :
    Calls Tryz.prog 37 #[.agg #[.bool up, .slice A T.length c]] w (GivesT w up T) := by
  have HM := vl hm
  have hn := hm.rows
  have HP := vl hp
  clear hm hp
  have HB0 := vl ((((Below.refl w.heap.size w).alloc (Nat.le_refl _) (.cells #[.bool up, .slice A T.length c] 37)).alloc (by simp) (.cells #[.bool false, .slice none 0 0] 37)).alloc (by simp; omega) (.cells #[.bool up, .slice none 0 0] 37))
  go_enter Tryz.func37, Tryz.ntmps37
  go_wp2
  obtain ⟨j0, hj, hy0, hy1, hy2⟩ := info_parts infoR
  obtain ⟨i0, hi, hz0, hz1, hz2⟩ := info_parts infoB2
  go_loopw [4] (fun i wr => ∃ k v xs, k ≤ T.length ∧ i = .int .i64 k ∧ Veil (Below w.heap.size w wr) ∧ Veil (wr.cell? ⟨w.heap.size, 1, none⟩ = some (.slice A T.length c)) ∧ Veil (TBoxF wr (w.heap.size + 1) false (.slice none 0 0)) ∧ Veil (TBoxF wr (w.heap.size + 2) up v) ∧ Veil (OwnRows wr (w.heap.size + 3) v (T.take k) xs)) (fun i _ => T.length - (intOf i).toNat)
  case atStart =>
    refine ⟨0, .slice none 0 0, [], by omega, rfl, HB0, vl ?_, vl ?_, vl ?_, vl (OwnRows.nil _ _)⟩
    · have hb := ((Below.refl (w.alloc (.cells #[.bool up, .slice A T.length c] 37)).heap.size (w.alloc (.cells #[.bool up, .slice A T.length c] 37))).alloc (Nat.le_refl _) (.cells #[.bool false, .slice none 0 0] 37)).alloc (by simp) (.cells #[.bool up, .slice none 0 0] 37)
      exact (hb.cell (p := ⟨w.heap.size, 1, none⟩) (by simp)).trans (TBox.new w up A T.length c 37).2
    · have h := TBoxF.new (w.alloc (.cells #[.bool up, .slice A T.length c] 37)) false (.slice none 0 0) 37
      have h' : TBoxF ((w.alloc (.cells #[.bool up, .slice A T.length c] 37)).alloc (.cells #[.bool false, .slice none 0 0] 37)) (w.heap.size + 1) false (.slice none 0 0) := by simpa using h
      exact h'.block (Below.heap_alloc ((w.alloc (.cells #[.bool up, .slice A T.length c] 37)).alloc (.cells #[.bool false, .slice none 0 0] 37)) (.cells #[.bool up, .slice none 0 0] 37) (w.heap.size + 1) (by simp))
    · have := TBoxF.new ((w.alloc (.cells #[.bool up, .slice A T.length c] 37)).alloc (.cells #[.bool false, .slice none 0 0] 37)) up (.slice none 0 0) 37
      simpa using this
  case round =>
    obtain ⟨k, v, xs, hk, rfl, HB, HT1, HR0, HX, HO⟩ := hrel
    have t1 := HT1.out
    by_cases hlt : k < T.length
    · obtain ⟨r, hr⟩ := get_of hlt
      obtain ⟨g, o, rfl, hc⟩ := (HP.out.below HB.out) (by omega)
      obtain ⟨Ai, ci, c0, HS⟩ := hc k r hr
      have hrn := HM.out.row (mem_of hr)
      have HK := vl (snoc_take hr)
      have hz := HX.out.lt
      have hlen : (T.take k).length = k := by rw [List.length_take]; omega
      have x1 := HX.out.c1
      have HL := vl hlen
      have HE := vl (show (wr.drew.alloc (.cells #[] 96)).ownsRow wr.heap.size 96 6 (.slice (some ⟨wr.heap.size, 0, none⟩) 0 0) 0 [] from by
        have := World.ownsRow_lit (base := wr.heap.size) (e := 96) (size := 6) wr.drew #[] 0 (Nat.le_refl _) (by decide) rfl
        simpa using this)
      have HA := vl ((Below.refl wr.heap.size wr).drew.alloc (Nat.le_refl _) (.cells #[] 96))
      have hba := (Below.refl wr.heap.size wr).alloc (Nat.le_refl _) (.cells #[] 96)
      have s1 := (hba.cell (cell_lt' x1)).trans x1
      have s2 := (hba.cell (cell_lt' t1)).trans t1
      have s3 := (hba.cell (cell_lt' c0)).trans c0
      clear hba
      have HSS := vl (src_b (HS.out.below HA.out))
      clear hc hr hlen
      go_wp2
      go_region_law (first
          | (refine step_append_lies _ (by rfl) _ _ 35 (by rfl) (w.heap.size + 3) 91 j0 (.slice none 0 0) 1 24 Tryz.underlying35 hj hy0 hy1 hy2 rfl (by decide) v (T.take k).length xs (by rfl) (HO2.out.own.alloc _) ⟨w2.heap.size, 0, none⟩ 1 1 [.slice Au r.length cu] (by rfl) rfl (fun j x hx => World.news_of_block (heap_alloc_new _ _) j x (by simpa using hx)) (fun x hx => by simp at hx; subst hx; exact own_one HU.out) (by omega) (by rw [HL.out]; unfold maxLen; omega) (by rw [HL.out]; omega) (by simp; omega) _ rfl ?_
             intro g3 cap w3 hown3 hgrow hat hlt3
             have HO3 := vl (HO.out.snoc (by omega) HB2.out HU.out hown3 hgrow)
             have hb3 := ((Below.refl (w.heap.size + 3) w2).alloc (by omega) (.cells #[.slice Au r.length cu] 91)).trans (below_app' (HO2.out.own.alloc (.cells #[.slice Au r.length cu] 91)) hgrow (by simp; omega))
             have HB3 := vl (HB.out.trans ((HB2.out.mono HB.out.size).trans (hb3.mono (by omega))))
             have HX3 := vl ((HX.out.below HB2.out hz).below hb3 (by omega))
             have HR3 := vl ((HR0.out.below HB2.out (by omega)).below hb3 (by omega))
             have HT3 := vl ((hb3.cell (p := ⟨w.heap.size, 1, none⟩) (by show w.heap.size < _; omega)).trans ((HB2.out.cell (p := ⟨w.heap.size, 1, none⟩) (by show w.heap.size < _; omega)).trans t1))
             have S3 := HX3.out.c1
             have F1 := HX3.out.f1
             clear hown3 hgrow hat hlt3 hb3)
          | (refine step_app (by rfl) _ _ 91 (by rfl) wr.heap.size 96 i0 _ 6 48 Tryz.underlying91 hi hz0 hz1 hz2 rfl (by decide) (.slice (some ⟨wr.heap.size, 0, none⟩) 0 0) 0 [] (by rfl) HE.out Ai r.length ci (btl r) (by rfl) (btl_len _) HSS.out btl_cell (by unfold maxLen; omega) (by omega) HA.out.size ?_
             intro u w2 hu hgr
             rw [Nat.zero_add, List.nil_append] at hu
             obtain ⟨Au, cu, rfl, _⟩ := own_src hu
             have hb2' : Below wr.heap.size wr w2 := HA.out.trans (below_app' HE.out hgr HA.out.size)
             have HB2 := vl hb2'
             have HU := vl hu
             have HO2 := vl (HO.out.below hb2')
             have hz2 : w.heap.size + 2 < w2.heap.size := Nat.lt_of_lt_of_le hz hb2'.size
             have S1 := (hb2'.cell (p := ⟨w.heap.size + 2, 1, none⟩) hz).trans x1
             clear hgr hb2' hu))
      all_goals
        have HO4 := vl (show OwnRows w3 (w.heap.size + 3) (.slice (some ⟨g3, 0, none⟩) (k + 1) cap) (T.take (k + 1)) (xs ++ [.slice Au r.length cu]) from by
          have := HO3.out
          rw [HL.out] at this
          rw [HK.out]; exact this)
        clear HO3 HB2 HU HO2 S1 HSS HE HA s1 s2 s3 x1 t1 c0 HS
        go_wp2
        go_roundw
        case rel => exact ⟨k + 1, _, _, by omega, by go_num, vl (HB3.out.setCell (by show w.heap.size ≤ w.heap.size + 2; omega) _), vl ((World.cell?_setCell_other _ _ _ _ (by intro e; injection e with e; omega)).trans HT3.out), vl (HR3.out.far _ (by omega)), vl (HX3.out.set _), vl (HO4.out.set (by omega))⟩
        case measure => simp [intOf]; omega
    · obtain rfl : k = T.length := by omega
      have HT := vl (show T.take T.length = T from List.take_length)
      rw [HT.out] at HO
      have hz := HX.out.lt
      obtain ⟨Av, cv, g, G, rfl, hcv, hoT⟩ := HO.out.ownT (by omega)
      have HOT := vl hoT
      clear hoT
      have x0 := HX.out.c0; have x1 := HX.out.c1
      have y0 := HR0.out.c0; have y1 := HR0.out.c1; have q0 := HR0.out.f0; have q1 := HR0.out.f1
      go_wp2
      refine bodyPost_ret (v := .agg #[.bool up, .slice Av T.length cv]) (by simp [results, Tryz.results37, go_sem, y0, y1]) rfl ?_
      have HU := vl (((Touch.refl wr (w.heap.size + 1) (w.heap.size + 2)).set (w.heap.size + 1) 0 (.bool up) (Nat.le_refl _) (Nat.lt_succ_self _)).set (w.heap.size + 1) 1 (.slice Av T.length cv) (Nat.le_refl _) (Nat.lt_succ_self _))
      have hs := HU.out.size
      exact ⟨⟨Av, cv, g, G, rfl, hcv, (HOT.out.touch HU.out (Or.inr (by omega))).wide (by omega) hs⟩, HU.out.below HB.out (by omega)⟩
end Go.Proofs.YtmabaibpdjmckaaGreat.C1
