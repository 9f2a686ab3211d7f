/- The text of an entry, read by the program. -/
import Derived.Test.YtclofbknbfmmlaaDoorPaT
namespace Go.Proofs.YtclofbknbfmmlaaDoor.C1
open Go.ChangeShapes Go.WideShapes Go.ChangeAt Go.RowKit Go.Proofs.YtclofbknbfmmlaaDoor.Lift
set_option linter.unusedVariables false
set_option linter.unusedSimpArgs false

noncomputable def ivs (fs : List (List UInt8)) : List Value := fs.map fun f => .int .i64 (pv f)
theorem ivs_at (fs : List (List UInt8)) (k : Nat) (h : k < fs.length) : (ivs fs)[k]? = some (.int .i64 (nums fs k)) := by
  unfold ivs nums
  rw [List.getElem?_map, List.getElem?_eq_getElem h, if_pos h, List.getD_eq_getElem?_getD, List.getElem?_eq_getElem h]
  rfl
theorem ivs_snoc (fs : List (List UInt8)) (k : Nat) (h : k < fs.length) : ivs (fs.take (k + 1)) = ivs (fs.take k) ++ [.int .i64 (pv (fs.getD k []))] := by
  unfold ivs
  rw [List.take_add_one, List.getElem?_eq_getElem h, List.map_append, List.getD_eq_getElem?_getD, List.getElem?_eq_getElem h]
  rfl
theorem oneI (z : Int) : ∀ x ∈ ([.int .i64 z] : List Value), x.oneCell' = true := by
  intro x hx
  simp at hx
  subst hx
  rfl
theorem infoIn : (Tryd.prog.info? 3).map (fun i => (i.zero, i.size, i.bytes)) = some (some (.int .i64 0), 1, 8) := by kernel_rfl
set_option maxRecDepth 100000 in
set_option maxHeartbeats 2000000 in
theorem reads_impl (B : Nat) (A : Option Addr) (c : Nat) (fs : List (List UInt8)) (w : World) (hn : fs.length ≤ 24) (hL : ∀ f ∈ fs, f.length ≤ 1048576) (hs : w.ownsRow B 9 1 (.slice A fs.length c) fs.length (strs fs)) (ht : Pow10 w) :
    Calls Tryd.prog 65 #[.slice A fs.length c] w fun e w' => (∃ v, e = .returned v ∧ w'.ownsRow w.heap.size 3 1 v fs.length (ivs fs)) ∧ Below w.heap.size w w' := by
  obtain ⟨i0, hi, hz0, hz1, hz2⟩ := info_parts infoIn
  have HP := vl hs
  have HL := vl hL
  have HT := vl ht
  clear hs hL ht
  go_enter Tryd.func65, Tryd.ntmps65
  go_wp2_with (at_make; refine wpList_make_own _ rfl _ _ 24 rfl w.heap.size 3 i0 (.int .i64 0) 1 Tryd.underlying24 hi hz0 hz1 .i64 .i64 _ fs.length rfl rfl (by rfl) (by rw [hz2]; omega) (by unfold maxLen; omega) (Nat.le_refl _) ?_; intro w0 hown0 hgr0)
  have HB0 := vl (below_none hgr0)
  have HO0 := vl (show w0.ownsRow w.heap.size 3 1 _ 0 (ivs (fs.take 0)) from hown0)
  have HPB := vl (fun g (hg : (Value.slice A fs.length c).ownBlock = some g) => (HP.out.lt g hg).2)
  clear hown0 hgr0
  go_wp2
  go_loopw [3, 13] (fun v i wr => ∃ k : Nat, k ≤ fs.length ∧ i = .int .i64 k ∧ Veil (Below w.heap.size w wr) ∧ Veil (wr.ownsRow w.heap.size 3 1 v k (ivs (fs.take k)))) (fun _ i _ => fs.length - (intOf i).toNat)
  case atStart => exact ⟨0, by omega, rfl, HB0, HO0⟩
  case round =>
    obtain ⟨k, hk, rfl, HB, HO⟩ := hrel
    by_cases hlt : k < fs.length
    · have HP' := vl (own_below HP.out HB.out)
      obtain ⟨g, cap, hv, hg, hgl⟩ := HP'.out.form (by omega)
      injection hv with hv1 _ hv2
      subst hv1 hv2
      have cs := HP'.out.cellAt k (by omega)
      rw [strs_at _ _ hlt] at cs
      have HI := vl (ivs_snoc fs k hlt)
      obtain ⟨f, hf⟩ : ∃ f, f = fs.getD k [] := ⟨_, rfl⟩
      have hlen : (⟨f.toArray⟩ : ByteArray).size ≤ 1048576 := by rw [str_size, hf]; exact getD_len HL.out
      rw [← hf] at cs HI
      clear hf
      have HT1 := vl (HT.out.below HB.out)
      go_wp2_with fail
      refine (parse_impl _ _ (by omega) HT1.out).mono ?_
      rintro e w1 ⟨rfl, hb1⟩
      rw [pv_res]
      have HB1 := vl (HB.out.trans (hb1.mono HB.out.size))
      have HO1 := vl (own_below HO.out hb1)
      have hs1 := HB1.out.size
      have e0 : (⟨f.toArray⟩ : ByteArray).data.toList = f := rfl
      rw [e0]
      generalize pv f = z at HI ⊢
      generalize parseOk f = ok
      clear hb1 cs hlen e0 HP'
      go_wp2_with (at_builtin; refine wpList_app rfl _ _ 24 rfl w.heap.size 3 i0 _ 1 8 Tryd.underlying24 hi hz0 hz1 hz2 rfl (by decide) _ _ _ rfl (HO1.out.alloc _) (some ⟨w1.heap.size, 0, none⟩) 1 1 [.int .i64 z] rfl rfl ?c1 ?c2 ?c3 ?c4 ?c5 ?_)
      case c1 => exact fun _ => ⟨_, rfl, fun j u hu => World.news_of_block (heap_alloc_new _ _) j u (by simpa using hu)⟩
      case c2 => exact oneI z
      case c3 => unfold maxLen; omega
      case c4 => omega
      case c5 => simp; omega
      intro v' w2 hown hgr
      have HOk := vl (fun k hk => HO1.out.lt k hk)
      have HB2 := vl (Below.grown (HB1.out.alloc hs1 (.cells #[.int .i64 z] 3)) hgr (by simp; omega) (fun k hk => (HOk.out k hk).1))
      have HO2 := vl (show w2.ownsRow w.heap.size 3 1 v' (k + 1) (ivs (fs.take (k + 1))) from by rw [HI.out]; exact hown)
      clear hown hgr
      go_wp2
      go_roundw
      case rel => exact ⟨k + 1, by omega, by go_num, HB2, HO2⟩
      case measure => simp [intOf]; omega
    · obtain rfl : k = fs.length := by omega
      rw [List.take_length] at HO
      go_wp2
      go_ret
      exact ⟨⟨_, rfl, HO.out⟩, HB.out⟩
set_option maxRecDepth 100000 in
set_option maxHeartbeats 2000000 in
theorem pare_impl (s : ByteArray) (w : World) (hl : s.size ≤ 1048576) (ht : Pow10 w) (ha : Ascii w) :
    Calls Tryd.prog 24 #[.string s] w fun e w' => e = .returned (parV s.data.toList) ∧ Below w.heap.size w w' := by
  have HB0 := vl ((Below.refl w.heap.size w).alloc (Nat.le_refl _) (.cells #[.int .i64 0, .int .i64 0, .int .i64 0, .int .i64 0, .int .i64 0] 36))
  have HR0 := vl (zrow w)
  have HT := vl ht
  have HA := vl ha
  clear ht ha
  go_enter Tryd.func24, Tryd.ntmps24
  go_wp2_with fail
  refine (split_impl s _ (by omega) (HA.out.below HB0.out)).mono ?_
  rintro e w1 ⟨A1, c1, rfl, ho, hb1⟩
  have HB1 := vl (HB0.out.trans (hb1.mono HB0.out.size))
  have HR1 := vl (HR0.out.below hb1)
  have HO1 := vl ho
  clear hb1 ho HB0 HR0
  by_cases hok : SplitOk s ∧ (Lib.fields s.data.toList).length = 5
  case neg =>
    have HRES := vl (parE_none hok)
    obtain ⟨z0, z1, z2, z3, z4⟩ := HR1.out.at
    obtain ⟨f0, f1, f2, f3, f4⟩ := HR1.out.free
    have hcase : okS s = false ∨ (okS s = true ∧ ((outL s).length : Int) ≠ 5) := by
      by_cases h : SplitOk s
      · refine Or.inr ⟨(ok_yes h).1, fun e => hok ⟨h, ?_⟩⟩
        rw [(ok_yes h).2] at e
        omega
      · exact Or.inl (ok_no h).1
    clear hok HO1
    generalize (outL s).length = n at hcase ⊢
    rcases hcase with hk | ⟨hk, hn⟩
    all_goals
      rw [hk]
      have HKK := vl hk
      clear hk
      go_wp2
      have HBZ := vl (below_set5 HB1.out (.int .i64 0) (.int .i64 0) (.int .i64 0) (.int .i64 0) (.int .i64 0))
      obtain ⟨r0, r1, r2, r3, r4⟩ := (show BxE (((((w1.setCell ⟨w.heap.size, 0, none⟩ (.int .i64 0)).setCell ⟨w.heap.size, 1, none⟩ (.int .i64 0)).setCell ⟨w.heap.size, 2, none⟩ (.int .i64 0)).setCell ⟨w.heap.size, 3, none⟩ (.int .i64 0)).setCell ⟨w.heap.size, 4, none⟩ (.int .i64 0)) w.heap.size zEn from set5_at HR1.out zEn)
      simp only [zEn] at r0 r1 r2 r3 r4
      change bodyPost _ _ _ _ _ (((((w1.setCell ⟨w.heap.size, 0, none⟩ (.int .i64 0)).setCell ⟨w.heap.size, 1, none⟩ (.int .i64 0)).setCell ⟨w.heap.size, 2, none⟩ (.int .i64 0)).setCell ⟨w.heap.size, 3, none⟩ (.int .i64 0)).setCell ⟨w.heap.size, 4, none⟩ (.int .i64 0))
      generalize hW9 : (((((w1.setCell ⟨w.heap.size, 0, none⟩ (.int .i64 0)).setCell ⟨w.heap.size, 1, none⟩ (.int .i64 0)).setCell ⟨w.heap.size, 2, none⟩ (.int .i64 0)).setCell ⟨w.heap.size, 3, none⟩ (.int .i64 0)).setCell ⟨w.heap.size, 4, none⟩ (.int .i64 0)) = w9 at HBZ r0 r1 r2 r3 r4 ⊢
      clear hW9
      refine bodyPost_ret (v := .tuple #[.agg #[.int .i64 zEn.f, .int .i64 zEn.t, .int .i64 zEn.a, .int .i64 zEn.m, .int .i64 zEn.y], .bool false]) (by simp [results, Tryd.results24, go_sem, r0, r1, r2, r3, r4, zEn]) rfl ?_
      exact ⟨congrArg Ending.returned (parV_of HRES.out).symm, HBZ.out⟩
  case pos =>
    obtain ⟨h1, h2⟩ := hok
    have HF := vl (parE_fields h1 h2)
    obtain ⟨k1, k2⟩ := ok_yes h1
    rw [k1]
    rw [k2] at HO1 ⊢
    have HL := vl (show ∀ f ∈ Lib.fields s.data.toList, f.length ≤ 1048576 from fun f hf => by have := fld_len _ _ _ hf; simp at this; omega)
    have HNE := vl (show s.data.toList ≠ [] from fun e => by rw [e] at h2; simp [Lib.fields, Lib.fieldsGo] at h2)
    clear k1 k2
    have h1v := vl h1
    clear h1
    generalize Lib.fields s.data.toList = fs at HF HO1 HL h2 ⊢
    have HRD := vl (reads_impl _ A1 c1 fs w1 (by omega) HL.out HO1.out (HT.out.below HB1.out))
    rw [h2] at HRD ⊢
    have H2 := vl h2
    clear h2
    go_wp2_with fail
    refine HRD.out.mono ?_
    rintro e w3 ⟨⟨v3, rfl, ho3⟩, hb3⟩
    have HB3 := vl (HB1.out.trans (hb3.mono HB1.out.size))
    have HR3 := vl (HR1.out.below hb3)
    have HO3 := vl ho3
    clear hb3 ho3 HB1 HR1 HO1 HL HRD
    obtain ⟨g, cap, hv, hg, hgl⟩ := HO3.out.form (by omega)
    subst hv
    obtain ⟨q, hq⟩ : ∃ q : En, q = mkEn (nums fs) := ⟨_, rfl⟩
    have hd : ∀ i, i < 5 → w3.cell? ⟨g, i, none⟩ = some (.int .i64 (nums fs i)) := fun i hi => by
      have := HO3.out.cellAt i (by omega)
      rw [ivs_at fs i (by rw [H2.out]; exact hi)] at this
      exact this
    have d0 : w3.cell? ⟨g, 0, none⟩ = some (.int .i64 q.f) := by rw [hq]; exact hd 0 (by decide)
    have d1 : w3.cell? ⟨g, 1, none⟩ = some (.int .i64 q.t) := by rw [hq]; exact hd 1 (by decide)
    have d2 : w3.cell? ⟨g, 2, none⟩ = some (.int .i64 q.a) := by rw [hq]; exact hd 2 (by decide)
    have d3 : w3.cell? ⟨g, 3, none⟩ = some (.int .i64 q.m) := by rw [hq]; exact hd 3 (by decide)
    have d4 : w3.cell? ⟨g, 4, none⟩ = some (.int .i64 q.y) := by rw [hq]; exact hd 4 (by decide)
    have HQ := vl hq
    clear hd hq
    have HX := vl (BxE.new w3 q 36)
    go_wp2
    refine wp_region_last2 (fun w' => w'.cell? ⟨g, 0, none⟩ = some (.int .i64 q.f) ∧ w'.cell? ⟨g, 1, none⟩ = some (.int .i64 q.t) ∧ w'.cell? ⟨g, 2, none⟩ = some (.int .i64 q.a) ∧ w'.cell? ⟨g, 3, none⟩ = some (.int .i64 q.m) ∧ w'.cell? ⟨g, 4, none⟩ = some (.int .i64 q.y) ∧ Below w3.heap.size w3 w') (by kernel_rfl) (by simp only [List.pop_toArray, List.dropLast_cons_cons, List.dropLast_singleton]; rfl) (by rfl) (by rfl) (by kernel_rfl) ⟨d0, d1, d2, d3, d4, (Below.refl _ _).drew⟩ (fun hHeld => ?_)
    try dsimp only at hHeld
    refine wpAnyH_take (i := 0) (oi := _) (v := ?_) rfl (by kernel_rfl) (by kernel_rfl) (by kernel_rfl) (fun _ _ _ h => h) (Or.inl ⟨by rfl, ?_⟩) (by assumption) ?_
    rotate_left 1
    · intro w hSw
      try dsimp only at hSw
      go_simp
      try with_reducible rfl
    try simp only [Act.put, List.getElem_toArray, List.getElem_cons_succ, List.getElem_cons_zero, List.setIfInBounds_toArray, List.set_cons_zero, List.set_cons_succ]
    refine wpAnyH_take (i := 1) (oi := _) (v := ?_) rfl (by kernel_rfl) (by kernel_rfl) (by kernel_rfl) (fun _ _ _ h => h) (Or.inl ⟨by rfl, ?_⟩) (by assumption) ?_
    rotate_left 1
    · intro w hSw
      try dsimp only at hSw
      go_simp
      try with_reducible rfl
    try simp only [Act.put, List.getElem_toArray, List.getElem_cons_succ, List.getElem_cons_zero, List.setIfInBounds_toArray, List.set_cons_zero, List.set_cons_succ]
    refine wpAnyH_take (i := 2) (oi := _) (v := ?_) rfl (by kernel_rfl) (by kernel_rfl) (by kernel_rfl) (fun _ _ _ h => h) (Or.inl ⟨by rfl, ?_⟩) (by assumption) ?_
    rotate_left 1
    · intro w hSw
      try dsimp only at hSw
      go_simp
      try with_reducible rfl
    try simp only [Act.put, List.getElem_toArray, List.getElem_cons_succ, List.getElem_cons_zero, List.setIfInBounds_toArray, List.set_cons_zero, List.set_cons_succ]
    refine wpAnyH_take (i := 3) (oi := _) (v := ?_) rfl (by kernel_rfl) (by kernel_rfl) (by kernel_rfl) (fun _ _ _ h => h) (Or.inl ⟨by rfl, ?_⟩) (by assumption) ?_
    rotate_left 1
    · intro w hSw
      try dsimp only at hSw
      go_simp
      try with_reducible rfl
    try simp only [Act.put, List.getElem_toArray, List.getElem_cons_succ, List.getElem_cons_zero, List.setIfInBounds_toArray, List.set_cons_zero, List.set_cons_succ]
    refine wpAnyH_take (i := 4) (oi := _) (v := ?_) rfl (by kernel_rfl) (by kernel_rfl) (by kernel_rfl) (fun _ _ _ h => h) (Or.inl ⟨by rfl, ?_⟩) (by assumption) ?_
    rotate_left 1
    · intro w hSw
      try dsimp only at hSw
      go_simp
      try with_reducible rfl
    try simp only [Act.put, List.getElem_toArray, List.getElem_cons_succ, List.getElem_cons_zero, List.setIfInBounds_toArray, List.set_cons_zero, List.set_cons_succ]
    refine wpAnyH_take (i := 5) (oi := _) (v := ?_) rfl (by kernel_rfl) (by kernel_rfl) (by kernel_rfl) (fun _ _ _ h => h) (Or.inl ⟨by rfl, ?_⟩) (by assumption) ?_
    rotate_left 1
    · intro w hSw
      try dsimp only at hSw
      go_simp
      try with_reducible rfl
    try simp only [Act.put, List.getElem_toArray, List.getElem_cons_succ, List.getElem_cons_zero, List.setIfInBounds_toArray, List.set_cons_zero, List.set_cons_succ]
    refine wpAnyH_take (i := 6) (oi := _) (v := ?_) rfl (by kernel_rfl) (by kernel_rfl) (by kernel_rfl) (fun _ _ _ h => h) (Or.inl ⟨by rfl, ?_⟩) (by assumption) ?_
    rotate_left 1
    · intro w hSw
      try dsimp only at hSw
      go_simp
      try with_reducible rfl
    try simp only [Act.put, List.getElem_toArray, List.getElem_cons_succ, List.getElem_cons_zero, List.setIfInBounds_toArray, List.set_cons_zero, List.set_cons_succ]
    refine wpAnyH_take (i := 7) (oi := _) (v := ?_) rfl (by kernel_rfl) (by kernel_rfl) (by kernel_rfl) (fun _ _ _ h => h) (Or.inl ⟨by rfl, ?_⟩) (by assumption) ?_
    rotate_left 1
    · intro w hSw
      try dsimp only at hSw
      go_simp
      try with_reducible rfl
    try simp only [Act.put, List.getElem_toArray, List.getElem_cons_succ, List.getElem_cons_zero, List.setIfInBounds_toArray, List.set_cons_zero, List.set_cons_succ]
    refine wpAnyH_take (i := 8) (oi := _) (v := ?_) rfl (by kernel_rfl) (by kernel_rfl) (by kernel_rfl) (fun _ _ _ h => h) (Or.inl ⟨by rfl, ?_⟩) (by assumption) ?_
    rotate_left 1
    · intro w hSw
      try dsimp only at hSw
      go_simp
      try with_reducible rfl
    try simp only [Act.put, List.getElem_toArray, List.getElem_cons_succ, List.getElem_cons_zero, List.setIfInBounds_toArray, List.set_cons_zero, List.set_cons_succ]
    refine wpAnyH_take (i := 9) (oi := _) (v := ?_) rfl (by kernel_rfl) (by kernel_rfl) (by kernel_rfl) (fun _ _ _ h => h) (Or.inl ⟨by rfl, ?_⟩) (by assumption) ?_
    rotate_left 1
    · intro w hSw
      try dsimp only at hSw
      go_simp
      try with_reducible rfl
    try simp only [Act.put, List.getElem_toArray, List.getElem_cons_succ, List.getElem_cons_zero, List.setIfInBounds_toArray, List.set_cons_zero, List.set_cons_succ]
    refine wpAnyH_take (i := 10) (oi := _) (v := ?_) rfl (by kernel_rfl) (by kernel_rfl) (by kernel_rfl) (fun _ _ _ h => h) (Or.inl ⟨by rfl, ?_⟩) (by assumption) ?_
    rotate_left 1
    · intro w hSw
      try dsimp only at hSw
      go_simp
      try with_reducible rfl
    try simp only [Act.put, List.getElem_toArray, List.getElem_cons_succ, List.getElem_cons_zero, List.setIfInBounds_toArray, List.set_cons_zero, List.set_cons_succ]
    refine wpAnyH_take (i := 11) (oi := _) (v := ?_) rfl (by kernel_rfl) (by kernel_rfl) (by kernel_rfl) (fun _ _ _ h => h) (Or.inl ⟨by rfl, ?_⟩) (by assumption) ?_
    rotate_left 1
    · intro w hSw
      try dsimp only at hSw
      go_simp
      try with_reducible rfl
    try simp only [Act.put, List.getElem_toArray, List.getElem_cons_succ, List.getElem_cons_zero, List.setIfInBounds_toArray, List.set_cons_zero, List.set_cons_succ]
    refine wpAnyH_take (i := 12) (oi := _) (v := ?_) rfl (by kernel_rfl) (by kernel_rfl) (by kernel_rfl) (fun _ _ _ h => h) (Or.inl ⟨by rfl, ?_⟩) (by assumption) ?_
    rotate_left 1
    · intro w hSw
      try dsimp only at hSw
      go_simp
      try with_reducible rfl
    try simp only [Act.put, List.getElem_toArray, List.getElem_cons_succ, List.getElem_cons_zero, List.setIfInBounds_toArray, List.set_cons_zero, List.set_cons_succ]
    refine wpAnyH_take (i := 13) (oi := _) (v := ?_) rfl (by kernel_rfl) (by kernel_rfl) (by kernel_rfl) (fun _ _ _ h => h) (Or.inl ⟨by rfl, ?_⟩) (by assumption) ?_
    rotate_left 1
    · intro w hSw
      try dsimp only at hSw
      go_simp
      try with_reducible rfl
    try simp only [Act.put, List.getElem_toArray, List.getElem_cons_succ, List.getElem_cons_zero, List.setIfInBounds_toArray, List.set_cons_zero, List.set_cons_succ]
    refine wpAnyH_take (i := 14) (oi := _) (v := ?_) rfl (by kernel_rfl) (by kernel_rfl) (by kernel_rfl) (fun _ _ _ h => h) (Or.inl ⟨by rfl, ?_⟩) (by assumption) ?_
    rotate_left 1
    · intro w hSw
      try dsimp only at hSw
      go_simp
      try with_reducible rfl
    try simp only [Act.put, List.getElem_toArray, List.getElem_cons_succ, List.getElem_cons_zero, List.setIfInBounds_toArray, List.set_cons_zero, List.set_cons_succ]
    refine wpAnyH_take (i := 15) (oi := _) (v := ?_) rfl (by kernel_rfl) (by kernel_rfl) (by kernel_rfl) (fun _ _ _ h => h) (Or.inl ⟨by rfl, ?_⟩) (by assumption) ?_
    rotate_left 1
    · intro w hSw
      try dsimp only at hSw
      go_simp
      try with_reducible rfl
    try simp only [Act.put, List.getElem_toArray, List.getElem_cons_succ, List.getElem_cons_zero, List.setIfInBounds_toArray, List.set_cons_zero, List.set_cons_succ]
    refine wpAnyH_ready (rs := [16]) (by kernel_rfl) (by simp) ?_
    refine AllReadyH.cons (o := _) rfl (fun K hK => ?_) AllReadyH.nil
    go_simp
    have hAl := (Below.refl w3.heap.size w3).drew.alloc (Nat.le_refl _) (.cells #[.int .i64 0, .int .i64 0, .int .i64 0, .int .i64 0, .int .i64 0] 36)
    refine hK.out _ _ ⟨(hAl.cell (cell_lt' d0)).trans d0, (hAl.cell (cell_lt' d1)).trans d1, (hAl.cell (cell_lt' d2)).trans d2, (hAl.cell (cell_lt' d3)).trans d3, (hAl.cell (cell_lt' d4)).trans d4, hAl⟩ (fun hHeld => ?_)
    clear hK K
    try simp only [Act.put, List.getElem_toArray, List.getElem_cons_succ, List.getElem_cons_zero, List.setIfInBounds_toArray, List.set_cons_zero, List.set_cons_succ]
    refine wpAnyH_done (by kernel_rfl) ?_ _
    unfold QL
    go_simp
    clear hHeld d0 d1 d2 d3 d4
    have HB4 := vl ((HB3.out.alloc HB3.out.size (.cells #[.int .i64 q.f, .int .i64 q.t, .int .i64 q.a, .int .i64 q.m, .int .i64 q.y] 36)).drew)
    have HX4 := vl (show BxE ((w3.alloc (.cells #[.int .i64 q.f, .int .i64 q.t, .int .i64 q.a, .int .i64 q.m, .int .i64 q.y] 36)).drew) w3.heap.size q from HX.out)
    have HR4 := vl (show ZRow ((w3.alloc (.cells #[.int .i64 q.f, .int .i64 q.t, .int .i64 q.a, .int .i64 q.m, .int .i64 q.y] 36)).drew) w.heap.size from HR3.out.below ((Below.refl _ _).alloc (Nat.le_refl _) (.cells #[.int .i64 q.f, .int .i64 q.t, .int .i64 q.a, .int .i64 q.m, .int .i64 q.y] 36)).drew)
    generalize (w3.alloc (.cells #[.int .i64 q.f, .int .i64 q.t, .int .i64 q.a, .int .i64 q.m, .int .i64 q.y] 36)).drew = w4 at HB4 HX4 HR4 ⊢
    obtain ⟨x0, x1, x2, x3, x4⟩ := HX4.out
    clear HR3 HX HO3
    go_wp2_with fail
    refine (fmte_impl q _ (HT.out.below HB4.out)).mono ?_
    rintro e w5 ⟨rfl, hb5⟩
    have HB5 := vl (HB4.out.trans (hb5.mono HB4.out.size))
    have HX5 := vl (HX4.out.below hb5)
    have HR5 := vl (HR4.out.below hb5)
    clear hb5 x0 x1 x2 x3 x4 HX4 HR4 HB4
    obtain ⟨x0, x1, x2, x3, x4⟩ := HX5.out
    obtain ⟨z0, z1, z2, z3, z4⟩ := HR5.out.at
    obtain ⟨f0, f1, f2, f3, f4⟩ := HR5.out.free
    by_cases heq : fmtE q = s.data.toList
    · have HRES := vl (show parE s.data.toList = (q, true) from by rw [← HF.out, HQ.out]; exact enRes_yes HNE.out (by rw [← HQ.out]; exact heq))
      have HE := vl heq
      clear heq
      rw [HE.out, itoa_same]
      go_wp2
      have HBZ := vl (below_set5 HB5.out (.int .i64 q.f) (.int .i64 q.t) (.int .i64 q.a) (.int .i64 q.m) (.int .i64 q.y))
      obtain ⟨r0, r1, r2, r3, r4⟩ := set5_at HR5.out q
      change bodyPost _ _ _ _ _ (((((w5.setCell ⟨w.heap.size, 0, none⟩ (.int .i64 q.f)).setCell ⟨w.heap.size, 1, none⟩ (.int .i64 q.t)).setCell ⟨w.heap.size, 2, none⟩ (.int .i64 q.a)).setCell ⟨w.heap.size, 3, none⟩ (.int .i64 q.m)).setCell ⟨w.heap.size, 4, none⟩ (.int .i64 q.y))
      generalize hW9 : (((((w5.setCell ⟨w.heap.size, 0, none⟩ (.int .i64 q.f)).setCell ⟨w.heap.size, 1, none⟩ (.int .i64 q.t)).setCell ⟨w.heap.size, 2, none⟩ (.int .i64 q.a)).setCell ⟨w.heap.size, 3, none⟩ (.int .i64 q.m)).setCell ⟨w.heap.size, 4, none⟩ (.int .i64 q.y)) = w9 at HBZ r0 r1 r2 r3 r4 ⊢
      clear hW9
      refine bodyPost_ret (v := .tuple #[.agg #[.int .i64 q.f, .int .i64 q.t, .int .i64 q.a, .int .i64 q.m, .int .i64 q.y], .bool true]) (by simp [results, Tryd.results24, go_sem, r0, r1, r2, r3, r4]) rfl ?_
      exact ⟨congrArg Ending.returned (parV_of HRES.out).symm, HBZ.out⟩
    · have HRES := vl (show parE s.data.toList = (zEn, false) from by rw [← HF.out]; exact enRes_no (Or.inr (by rw [← HQ.out]; exact heq)))
      have hne := str_ne heq
      clear heq
      go_wp2
      have HBZ := vl (below_set5 HB5.out (.int .i64 0) (.int .i64 0) (.int .i64 0) (.int .i64 0) (.int .i64 0))
      obtain ⟨r0, r1, r2, r3, r4⟩ := (show BxE (((((w5.setCell ⟨w.heap.size, 0, none⟩ (.int .i64 0)).setCell ⟨w.heap.size, 1, none⟩ (.int .i64 0)).setCell ⟨w.heap.size, 2, none⟩ (.int .i64 0)).setCell ⟨w.heap.size, 3, none⟩ (.int .i64 0)).setCell ⟨w.heap.size, 4, none⟩ (.int .i64 0)) w.heap.size zEn from set5_at HR5.out zEn)
      simp only [zEn] at r0 r1 r2 r3 r4
      change bodyPost _ _ _ _ _ (((((w5.setCell ⟨w.heap.size, 0, none⟩ (.int .i64 0)).setCell ⟨w.heap.size, 1, none⟩ (.int .i64 0)).setCell ⟨w.heap.size, 2, none⟩ (.int .i64 0)).setCell ⟨w.heap.size, 3, none⟩ (.int .i64 0)).setCell ⟨w.heap.size, 4, none⟩ (.int .i64 0))
      generalize hW9 : (((((w5.setCell ⟨w.heap.size, 0, none⟩ (.int .i64 0)).setCell ⟨w.heap.size, 1, none⟩ (.int .i64 0)).setCell ⟨w.heap.size, 2, none⟩ (.int .i64 0)).setCell ⟨w.heap.size, 3, none⟩ (.int .i64 0)).setCell ⟨w.heap.size, 4, none⟩ (.int .i64 0)) = w9 at HBZ r0 r1 r2 r3 r4 ⊢
      clear hW9
      refine bodyPost_ret (v := .tuple #[.agg #[.int .i64 zEn.f, .int .i64 zEn.t, .int .i64 zEn.a, .int .i64 zEn.m, .int .i64 zEn.y], .bool false]) (by simp [results, Tryd.results24, go_sem, r0, r1, r2, r3, r4, zEn]) rfl ?_
      exact ⟨congrArg Ending.returned (parV_of HRES.out).symm, HBZ.out⟩
end Go.Proofs.YtclofbknbfmmlaaDoor.C1
