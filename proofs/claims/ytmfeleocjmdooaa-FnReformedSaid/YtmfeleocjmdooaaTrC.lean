/- Copies of trains: of the program and of its model. -/
import Derived.Test.YtmfeleocjmdooaaOwnR
import Derived.Deep.RegionLaw
namespace Go.Proofs.Ytmfeleocjmdooaa.C1
open Go.ChangeShapes Go.WideShapes Go.ChangeAt Go.RowKit
set_option linter.unusedVariables false

set_option maxRecDepth 100000 in
theorem clone_b (A : Option Addr) (c : Nat) (L : List Bt) (w : World) (hn : L.length ≤ 1048576) (hp : Bts w A L) :
    Calls Try.prog 152 #[.slice A L.length c] w fun e w' => (∃ v, e = .returned v ∧ w'.ownsRow w.heap.size 29 6 v L.length (btl L)) ∧ Below w.heap.size w w' := by
  obtain ⟨i0, hi, hz0, hz1, hz2⟩ := info_parts infoB2
  have HP := vl (src_b hp)
  clear hp
  go_enter Try.func152, Try.ntmps152
  go_wp2_with (at_builtin; refine wpList_app rfl _ _ 30 rfl w.heap.size 29 i0 _ 6 48 Try.underlying30 hi hz0 hz1 hz2 rfl (by decide) _ _ _ rfl (own_nil _ _ _ _) A L.length c (btl L) rfl (btl_len _) HP.out btl_cell ?c3 ?c4 (Nat.le_refl _) ?_)
  case c3 => unfold maxLen; omega
  case c4 => omega
  intro v' w1 hown hgr
  have hb := below_none hgr
  have HB := vl hb
  try rw [Nat.zero_add] at hown
  try rw [List.nil_append] at hown
  have HO := vl hown
  clear hown hgr hb
  go_wp2
  go_ret
  exact ⟨⟨_, rfl, HO.out⟩, HB.out⟩
theorem infoR : (Try.prog.info? 30).map (fun i => (i.zero, i.size, i.bytes)) = some (some (.slice none 0 0), 1, 24) := by kernel_rfl
/-- A train's box that may be written. -/
structure TBoxF (w : World) (p : Nat) (up : Bool) (v : Value) : Prop where
  c0 : w.cell? ⟨p, 0, none⟩ = some (.bool up)
  c1 : w.cell? ⟨p, 1, none⟩ = some v
  f0 : w.frozen? ⟨p, 0, none⟩ = false
  f1 : w.frozen? ⟨p, 1, none⟩ = false
theorem TBoxF.lt {w : World} {p : Nat} {up : Bool} {v : Value} (h : TBoxF w p up v) : p < w.heap.size := cell_lt' h.c0
theorem TBoxF.block {w w' : World} {p : Nat} {up : Bool} {v : Value} (h : TBoxF w p up v) (hb : w'.heap[p]? = w.heap[p]?) : TBoxF w' p up v :=
  ⟨(World.cell?_of_block hb).trans h.c0, (World.cell?_of_block hb).trans h.c1, (frozen_of_block hb).trans h.f0, (frozen_of_block hb).trans h.f1⟩
theorem TBoxF.below {w w' : World} {p B : Nat} {up : Bool} {v : Value} (h : TBoxF w p up v) (hb : Below B w w') (hp : p < B) : TBoxF w' p up v := h.block (hb.block p hp)
theorem TBoxF.set {w : World} {p : Nat} {up : Bool} {v : Value} (h : TBoxF w p up v) (v' : Value) : TBoxF (w.setCell ⟨p, 1, none⟩ v') p up v' :=
  ⟨(World.cell?_setCell_other _ _ _ _ (by intro e; injection e with _ e; omega)).trans h.c0, World.cell?_setCell_same _ _ _ h.c1, by rw [World.frozen?_setCell]; exact h.f0, by rw [World.frozen?_setCell]; exact h.f1⟩
theorem TBoxF.far {w : World} {p q j : Nat} {up : Bool} {v : Value} (h : TBoxF w p up v) (u : Value) (hne : p ≠ q) : TBoxF (w.setCell ⟨q, j, none⟩ u) p up v := h.block (Below.heap_setCell w ⟨q, j, none⟩ u p hne)
theorem TBoxF.new (w : World) (up : Bool) (v : Value) (t : TypeId) : TBoxF (w.alloc (.cells #[.bool up, v] t)) w.heap.size up v := ⟨by simp, by simp, by simp, by simp⟩
theorem snoc_take {T : List (List Bt)} {k : Nat} {r : List Bt} (hr : T[k]? = some r) : T.take (k + 1) = T.take k ++ [r] := by rw [List.take_add_one, hr]; rfl
theorem step_app {P : Program} {w : World} {ops : Array Oper} {o : Oper} {a : Act} {K : Act → World → Prop} {Q : Exit → Act → World → Prop} {E : Prop} (hgd : o.guard = none) (s x : Operand) (t : TypeId)
    (ho : o.op = .call { callee := .builtin .append, args := #[s, x], argTypes := #[t, t] })
    (base : Nat) (e : TypeId) (i : TypeInfo) (z : Value) (size bytes : Nat) (ht : P.underlying t = some (.slice e)) (hi : P.info? e = some i) (hz : i.zero = some z)
    (hsize : i.size = size) (hby : i.bytes = bytes) (hzs : z.cells.size = size) (hsz : 0 < size) (v : Value) (n : Nat) (xs : List Value) (hs : a.eval s = v) (hown : w.ownsRow base e size v n xs)
    (A : Option Addr) (m c : Nat) (news : List Value) (hx : a.eval x = .slice A m c) (hl : news.length = m * size) (hA : 0 < m → ∃ ad, A = some ad ∧ ∀ j u, news[j]? = some u → w.cell? (ad.add j) = some u) (h1 : ∀ u ∈ news, u.oneCell' = true)
    (h63 : n + m ≤ maxLen) (hbytes : (n + m) * bytes ≤ 140737488355328) (hbase : base ≤ w.heap.size)
    (h : ∀ v' w', w'.ownsRow base e size v' (n + m) (xs ++ news) → w.grownBy w' v.ownBlock → K (a.put o.dst v') w') : if Region.wanted o (yielded ops a.tmps) = true then Oper.wp P o a w K Q else E := by
  have hw : Region.wanted o (yielded ops a.tmps) = true := by simp [Region.wanted, hgd]
  rw [if_pos hw]
  exact wp_app s x t ho base e i z size bytes ht hi hz hsize hby hzs hsz v n xs hs hown A m c news hx hl hA h1 h63 hbytes hbase h
set_option maxRecDepth 100000 in
set_option maxHeartbeats 2000000 in
theorem copyR_impl (A : Option Addr) (c : Nat) (T : List (List Bt)) (w : World) (hm : Mod T) (hp : Trn w A T) :
    Calls Try.prog 151 #[.func (Fn.func 152) #[] #[], .slice A T.length c] w fun e w' => (∃ v xs, e = .returned v ∧ OwnRows w' w.heap.size v T xs) ∧ Below w.heap.size w w' := by
  have HM := vl hm
  have hn := hm.rows
  have HP := vl hp
  clear hm hp
  obtain ⟨j0, hj, hy0, hy1, hy2⟩ := info_parts infoR
  go_enter Try.func151, Try.ntmps151
  go_wp2_with (at_make; refine wpList_make_own _ rfl _ _ 24 rfl w.heap.size 30 j0 (.slice none 0 0) 1 Try.underlying24 hj hy0 hy1 .i64 .i64 _ T.length rfl rfl (by rfl) (by rw [hy2]; omega) (by unfold maxLen; omega) (Nat.le_refl _) ?_; intro w0 hown0 hgr0)
  have HB0 := vl (below_none hgr0)
  have HO0 := vl (OwnRows.start hown0)
  clear hown0 hgr0
  go_wp2
  go_loopw [5, 13] (fun v i wr => ∃ k xs, k ≤ T.length ∧ i = .int .i64 k ∧ Veil (Below w.heap.size w wr) ∧ Veil (OwnRows wr w.heap.size v (T.take k) xs)) (fun _ i _ => T.length - (intOf i).toNat)
  case atStart => exact ⟨0, [], by omega, rfl, HB0, HO0⟩
  case round =>
    obtain ⟨k, xs, hk, rfl, HB, HO⟩ := hrel
    by_cases hlt : k < T.length
    · obtain ⟨r, hr⟩ := get_of hlt
      obtain ⟨g, o, rfl, hc⟩ := (HP.out.below HB.out) (by omega)
      obtain ⟨Ai, ci, c0, HS⟩ := hc k r hr
      have hrn := HM.out.row (mem_of hr)
      have HK := vl (snoc_take hr)
      have hlen : (T.take k).length = k := by rw [List.length_take]; omega
      have HL := vl hlen
      clear hc hr hlen
      go_wp2_with fail
      refine (clone_b Ai ci r _ hrn HS.out).mono ?_
      rintro e w2 ⟨⟨u, rfl, hu⟩, hb2⟩
      obtain ⟨Au, cu, rfl, _⟩ := own_src hu
      have HB2 := vl hb2
      have HU := vl hu
      have HO2 := vl (HO.out.below hb2)
      have hB2 : w.heap.size ≤ w2.heap.size := Nat.le_trans HB.out.size hb2.size
      have hB1 := HB.out.size
      clear hb2 hu c0
      go_wp2_with (at_builtin; refine wpList_app rfl _ _ 24 rfl w.heap.size 30 j0 _ 1 24 Try.underlying24 hj hy0 hy1 hy2 rfl (by decide) _ (T.take k).length xs rfl (HO2.out.own.alloc _) (some ⟨w2.heap.size, 0, none⟩) 1 1 [.slice Au r.length cu] rfl rfl (fun _ => ⟨⟨w2.heap.size, 0, none⟩, rfl, fun j x hx => World.news_of_block (heap_alloc_new _ _) j x (by simpa using hx)⟩) (fun x hx => by simp at hx; subst hx; rfl) (by rw [HL.out]; unfold maxLen; omega) (by rw [HL.out]; omega) (by simp; omega) ?_)
      intro v' w3 hown3 hgrow
      have HO3 := vl (HO.out.snoc hB1 HB2.out HU.out (by rw [HL.out]; exact hown3) hgrow)
      have hb3 := ((Below.refl w.heap.size w2).alloc hB2 (.cells #[.slice Au r.length cu] 30)).trans (below_app' (HO2.out.own.alloc (.cells #[.slice Au r.length cu] 30)) hgrow (by simp; omega))
      have HB3 := vl (HB.out.trans ((HB2.out.mono hB1).trans hb3))
      have HO4 := vl (show OwnRows w3 w.heap.size v' (T.take (k + 1)) (xs ++ [.slice Au r.length cu]) from by
        rw [HK.out]; exact HO3.out)
      clear hown3 hgrow hb3
      go_wp2
      go_roundw
      case rel => exact ⟨k + 1, _, by omega, by go_num, HB3, HO4⟩
      case measure => simp [intOf]; omega
    · obtain rfl : k = T.length := by omega
      have HT := vl (show T.take T.length = T from List.take_length)
      rw [HT.out] at HO
      go_wp2
      go_ret
      exact ⟨⟨_, xs, rfl, HO.out⟩, HB.out⟩
set_option maxRecDepth 100000 in
set_option maxHeartbeats 2000000 in
theorem trainOf_impl (up : Bool) (A : Option Addr) (c : Nat) (T : List (List Bt)) (w : World) (hm : Mod T) (hp : Trn w A T) :
    Calls Try.prog 98 #[.bool up, .slice A T.length c] w (GivesT w up T) := by
  have HM := vl hm
  have HP := vl (hp.alloc (.cells #[.bool false, .slice none 0 0] 26))
  have HX0 := vl (TBoxF.new w false (.slice none 0 0) 26)
  clear hm hp
  go_enter Try.func98, Try.ntmps98
  go_wp2_with fail
  refine (copyR_impl A c T _ HM.out HP.out).mono ?_
  rintro e w1 ⟨⟨v, xs, rfl, ho⟩, hb⟩
  obtain ⟨Av, cv, g, G, rfl, hcv, hoT⟩ := ho.ownT hb.size
  have HB := vl (((Below.refl w.heap.size w).alloc (Nat.le_refl _) (.cells #[.bool false, .slice none 0 0] 26)).trans (hb.mono (by simp)))
  have HX1 := vl (HX0.out.below hb (by simp))
  have hw1 : w.heap.size < w1.heap.size := HX1.out.lt
  have HO := vl (hoT.wide (B' := w.heap.size + 1) (by simp) (Nat.le_refl _))
  have x0 := HX1.out.c0; have x1 := HX1.out.c1; have q0 := HX1.out.f0; have q1 := HX1.out.f1
  clear ho hb hoT
  go_wp2
  refine bodyPost_ret (v := .agg #[.bool up, .slice Av T.length cv]) (by simp [results, Try.results98, go_sem, x0, x1]) rfl ?_
  have HU := vl (((Touch.refl w1 w.heap.size (w.heap.size + 1)).set w.heap.size 0 (.bool up) (Nat.le_refl _) (Nat.lt_succ_self _)).set w.heap.size 1 (.slice Av T.length cv) (Nat.le_refl _) (Nat.lt_succ_self _))
  exact ⟨⟨Av, cv, g, G, rfl, hcv, (HO.out.touch HU.out (Or.inr (Nat.le_refl _))).wide (by omega) HU.out.size⟩, HU.out.below HB.out (Nat.le_refl _)⟩
set_option maxRecDepth 100000 in
set_option maxHeartbeats 2000000 in
theorem copyOf_impl (up : Bool) (A : Option Addr) (c : Nat) (T : List (List Bt)) (w : World) (hm : Mod T) (hp : Trn w A T) :
    Calls Try.prog 185 #[.agg #[.bool up, .slice A T.length c]] w (GivesT w up T) := by
  have HM := vl hm
  have hb0 := ((Below.refl w.heap.size w).alloc (Nat.le_refl _) (.cells #[.bool up, .slice A T.length c] 26)).alloc (by simp) (.cells #[.bool false, .slice none 0 0] 26)
  have HB0 := vl hb0
  have HP := vl (hp.below hb0)
  have HX := vl ((TBox.new w up A T.length c 26).below ((Below.refl _ _).alloc (Nat.le_refl _) (.cells #[.bool false, .slice none 0 0] 26)))
  have HX0 := vl (show TBoxF ((w.alloc (.cells #[.bool up, .slice A T.length c] 26)).alloc (.cells #[.bool false, .slice none 0 0] 26)) (w.heap.size + 1) false (.slice none 0 0) from by
    have := TBoxF.new (w.alloc (.cells #[.bool up, .slice A T.length c] 26)) false (.slice none 0 0) 26
    simpa using this)
  clear hm hp hb0
  obtain ⟨z0, z1⟩ := HX.out
  go_enter Try.func185, Try.ntmps185
  go_wp2_with fail
  refine (trainOf_impl up A c T _ HM.out HP.out).mono ?_
  rintro e w1 ⟨⟨Av, cv, g, G, rfl, hcv, hoT⟩, hb⟩
  have HB := vl (HB0.out.trans (hb.mono (by simp; omega)))
  have HX1 := vl (HX0.out.below hb (by simp))
  have hw1 : w.heap.size + 1 < w1.heap.size := HX1.out.lt
  have HO := vl (hoT.wide (B' := w.heap.size + 2) (by simp) (Nat.le_refl _))
  have x0 := HX1.out.c0; have x1 := HX1.out.c1; have q0 := HX1.out.f0; have q1 := HX1.out.f1
  clear hb hoT z0 z1
  go_wp2
  refine bodyPost_ret (v := .agg #[.bool up, .slice Av T.length cv]) (by simp [results, Try.results185, go_sem, x0, x1]) rfl ?_
  have HU := vl (((Touch.refl w1 (w.heap.size + 1) (w.heap.size + 2)).set (w.heap.size + 1) 0 (.bool up) (Nat.le_refl _) (Nat.lt_succ_self _)).set (w.heap.size + 1) 1 (.slice Av T.length cv) (Nat.le_refl _) (Nat.lt_succ_self _))
  exact ⟨⟨Av, cv, g, G, rfl, hcv, (HO.out.touch HU.out (Or.inr (Nat.le_refl _))).wide (by omega) HU.out.size⟩, HU.out.below HB.out (by omega)⟩
set_option maxRecDepth 100000 in
set_option maxHeartbeats 4000000 in
theorem copy_spec (up : Bool) (A : Option Addr) (c : Nat) (T : List (List Bt)) (w : World) (hm : Mod T) (hp : Trn w A T) :
    Calls Try.prog 128 #[.agg #[.bool up, .slice A T.length c]] w (GivesT w up T) := by
  have HM := vl hm
  have hn := hm.rows
  have HP := vl hp
  clear hm hp
  have HB0 := vl ((((Below.refl w.heap.size w).alloc (Nat.le_refl _) (.cells #[.bool up, .slice A T.length c] 26)).alloc (by simp) (.cells #[.bool false, .slice none 0 0] 26)).alloc (by simp; omega) (.cells #[.bool up, .slice none 0 0] 26))
  go_enter Try.func128, Try.ntmps128
  go_wp2
  obtain ⟨j0, hj, hy0, hy1, hy2⟩ := info_parts infoR
  obtain ⟨i0, hi, hz0, hz1, hz2⟩ := info_parts infoB2
  go_loopw [4] (fun i wr => ∃ k v xs, k ≤ T.length ∧ i = .int .i64 k ∧ Veil (Below w.heap.size w wr) ∧ Veil (wr.cell? ⟨w.heap.size, 1, none⟩ = some (.slice A T.length c)) ∧ Veil (TBoxF wr (w.heap.size + 1) false (.slice none 0 0)) ∧ Veil (TBoxF wr (w.heap.size + 2) up v) ∧ Veil (OwnRows wr (w.heap.size + 3) v (T.take k) xs)) (fun i _ => T.length - (intOf i).toNat)
  case atStart =>
    refine ⟨0, .slice none 0 0, [], by omega, rfl, HB0, vl ?_, vl ?_, vl ?_, vl (OwnRows.nil _ _)⟩
    · have hb := ((Below.refl (w.alloc (.cells #[.bool up, .slice A T.length c] 26)).heap.size (w.alloc (.cells #[.bool up, .slice A T.length c] 26))).alloc (Nat.le_refl _) (.cells #[.bool false, .slice none 0 0] 26)).alloc (by simp) (.cells #[.bool up, .slice none 0 0] 26)
      exact (hb.cell (p := ⟨w.heap.size, 1, none⟩) (by simp)).trans (TBox.new w up A T.length c 26).2
    · have h := TBoxF.new (w.alloc (.cells #[.bool up, .slice A T.length c] 26)) false (.slice none 0 0) 26
      have h' : TBoxF ((w.alloc (.cells #[.bool up, .slice A T.length c] 26)).alloc (.cells #[.bool false, .slice none 0 0] 26)) (w.heap.size + 1) false (.slice none 0 0) := by simpa using h
      exact h'.block (Below.heap_alloc ((w.alloc (.cells #[.bool up, .slice A T.length c] 26)).alloc (.cells #[.bool false, .slice none 0 0] 26)) (.cells #[.bool up, .slice none 0 0] 26) (w.heap.size + 1) (by simp))
    · have := TBoxF.new ((w.alloc (.cells #[.bool up, .slice A T.length c] 26)).alloc (.cells #[.bool false, .slice none 0 0] 26)) up (.slice none 0 0) 26
      simpa using this
  case round =>
    obtain ⟨k, v, xs, hk, rfl, HB, HT1, HR0, HX, HO⟩ := hrel
    have t1 := HT1.out
    by_cases hlt : k < T.length
    · obtain ⟨r, hr⟩ := get_of hlt
      obtain ⟨g, o, rfl, hc⟩ := (HP.out.below HB.out) (by omega)
      obtain ⟨Ai, ci, c0, HS⟩ := hc k r hr
      have hrn := HM.out.row (mem_of hr)
      have HK := vl (snoc_take hr)
      have hz := HX.out.lt
      have hlen : (T.take k).length = k := by rw [List.length_take]; omega
      have x1 := HX.out.c1
      have HL := vl hlen
      have HE := vl (show (wr.drew.alloc (.cells #[] 29)).ownsRow wr.heap.size 29 6 (.slice (some ⟨wr.heap.size, 0, none⟩) 0 0) 0 [] from by
        have := World.ownsRow_lit (base := wr.heap.size) (e := 29) (size := 6) wr.drew #[] 0 (Nat.le_refl _) (by decide) rfl
        simpa using this)
      have HA := vl ((Below.refl wr.heap.size wr).drew.alloc (Nat.le_refl _) (.cells #[] 29))
      have hba := (Below.refl wr.heap.size wr).alloc (Nat.le_refl _) (.cells #[] 29)
      have s1 := (hba.cell (cell_lt' x1)).trans x1
      have s2 := (hba.cell (cell_lt' t1)).trans t1
      have s3 := (hba.cell (cell_lt' c0)).trans c0
      clear hba
      have HSS := vl (src_b (HS.out.below HA.out))
      clear hc hr hlen
      go_wp2
      go_region_law (first
          | (refine step_append_lies _ (by rfl) _ _ 24 (by rfl) (w.heap.size + 3) 30 j0 (.slice none 0 0) 1 24 Try.underlying24 hj hy0 hy1 hy2 rfl (by decide) v (T.take k).length xs (by rfl) (HO2.out.own.alloc _) ⟨w2.heap.size, 0, none⟩ 1 1 [.slice Au r.length cu] (by rfl) rfl (fun j x hx => World.news_of_block (heap_alloc_new _ _) j x (by simpa using hx)) (fun x hx => by simp at hx; subst hx; exact own_one HU.out) (by omega) (by rw [HL.out]; unfold maxLen; omega) (by rw [HL.out]; omega) (by simp; omega) _ rfl ?_
             intro g3 cap w3 hown3 hgrow hat hlt3
             have HO3 := vl (HO.out.snoc (by omega) HB2.out HU.out hown3 hgrow)
             have hb3 := ((Below.refl (w.heap.size + 3) w2).alloc (by omega) (.cells #[.slice Au r.length cu] 30)).trans (below_app' (HO2.out.own.alloc (.cells #[.slice Au r.length cu] 30)) hgrow (by simp; omega))
             have HB3 := vl (HB.out.trans ((HB2.out.mono HB.out.size).trans (hb3.mono (by omega))))
             have HX3 := vl ((HX.out.below HB2.out hz).below hb3 (by omega))
             have HR3 := vl ((HR0.out.below HB2.out (by omega)).below hb3 (by omega))
             have HT3 := vl ((hb3.cell (p := ⟨w.heap.size, 1, none⟩) (by show w.heap.size < _; omega)).trans ((HB2.out.cell (p := ⟨w.heap.size, 1, none⟩) (by show w.heap.size < _; omega)).trans t1))
             have S3 := HX3.out.c1
             have F1 := HX3.out.f1
             clear hown3 hgrow hat hlt3 hb3)
          | (refine step_app (by rfl) _ _ 30 (by rfl) wr.heap.size 29 i0 _ 6 48 Try.underlying30 hi hz0 hz1 hz2 rfl (by decide) (.slice (some ⟨wr.heap.size, 0, none⟩) 0 0) 0 [] (by rfl) HE.out Ai r.length ci (btl r) (by rfl) (btl_len _) HSS.out btl_cell (by unfold maxLen; omega) (by omega) HA.out.size ?_
             intro u w2 hu hgr
             rw [Nat.zero_add, List.nil_append] at hu
             obtain ⟨Au, cu, rfl, _⟩ := own_src hu
             have hb2' : Below wr.heap.size wr w2 := HA.out.trans (below_app' HE.out hgr HA.out.size)
             have HB2 := vl hb2'
             have HU := vl hu
             have HO2 := vl (HO.out.below hb2')
             have hz2 : w.heap.size + 2 < w2.heap.size := Nat.lt_of_lt_of_le hz hb2'.size
             have S1 := (hb2'.cell (p := ⟨w.heap.size + 2, 1, none⟩) hz).trans x1
             clear hgr hb2' hu))
      all_goals
        have HO4 := vl (show OwnRows w3 (w.heap.size + 3) (.slice (some ⟨g3, 0, none⟩) (k + 1) cap) (T.take (k + 1)) (xs ++ [.slice Au r.length cu]) from by
          have := HO3.out
          rw [HL.out] at this
          rw [HK.out]; exact this)
        clear HO3 HB2 HU HO2 S1 HSS HE HA s1 s2 s3 x1 t1 c0 HS
        go_wp2
        go_roundw
        case rel => exact ⟨k + 1, _, _, by omega, by go_num, vl (HB3.out.setCell (by show w.heap.size ≤ w.heap.size + 2; omega) _), vl ((World.cell?_setCell_other _ _ _ _ (by intro e; injection e with e; omega)).trans HT3.out), vl (HR3.out.far _ (by omega)), vl (HX3.out.set _), vl (HO4.out.set (by omega))⟩
        case measure => simp [intOf]; omega
    · obtain rfl : k = T.length := by omega
      have HT := vl (show T.take T.length = T from List.take_length)
      rw [HT.out] at HO
      have hz := HX.out.lt
      obtain ⟨Av, cv, g, G, rfl, hcv, hoT⟩ := HO.out.ownT (by omega)
      have HOT := vl hoT
      clear hoT
      have x0 := HX.out.c0; have x1 := HX.out.c1
      have y0 := HR0.out.c0; have y1 := HR0.out.c1; have q0 := HR0.out.f0; have q1 := HR0.out.f1
      go_wp2
      refine bodyPost_ret (v := .agg #[.bool up, .slice Av T.length cv]) (by simp [results, Try.results128, go_sem, y0, y1]) rfl ?_
      have HU := vl (((Touch.refl wr (w.heap.size + 1) (w.heap.size + 2)).set (w.heap.size + 1) 0 (.bool up) (Nat.le_refl _) (Nat.lt_succ_self _)).set (w.heap.size + 1) 1 (.slice Av T.length cv) (Nat.le_refl _) (Nat.lt_succ_self _))
      have hs := HU.out.size
      exact ⟨⟨Av, cv, g, G, rfl, hcv, (HOT.out.touch HU.out (Or.inr (by omega))).wide (by omega) hs⟩, HU.out.below HB.out (by omega)⟩
end Go.Proofs.Ytmfeleocjmdooaa.C1
