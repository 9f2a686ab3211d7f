/- ReformTrain of the model. -/
import Derived.Test.YtmfeleocjmdooaaOwnL
import Derived.IntWalk
import Derived.Deep.RegionHeld3
namespace Go.Proofs.Ytmfeleocjmdooaa.C1
open Go.ChangeShapes Go.WideShapes Go.ChangeAt Go.RowKit
set_option linter.unusedVariables false

theorem ref_no {u : Bool} {T : List (List Bt)} {W : Int} (h : refB T W = false) {w w' : World} (hb : Below w.heap.size w w') :
    GivesTB w (refU u T W) (refT T W) (refB T W) (.returned (.tuple #[.agg #[.bool false, .slice none 0 0], .bool false])) w' := by
  have e1 : refU u T W = false := by unfold refU; rw [h]; rfl
  have e2 : refT T W = [] := by unfold refT; rw [h]; rfl
  rw [h, e1, e2]
  exact ⟨⟨none, 0, 0, fun _ => 0, rfl, Nat.le_refl _, OwnT.nil _ _ _ _ _ _⟩, hb⟩
def lastW (M : List (List Bt)) : Int := match M.getLast? with | some r => widR r | none => 0
theorem lastW_snoc (M : List (List Bt)) (r : List Bt) : lastW (M ++ [r]) = widR r := by simp [lastW]
theorem lastW_bd {M : List (List Bt)} (h : ∀ b ∈ M.flatten, BIn b) (hn : M.flatten.length ≤ 6) : 0 ≤ lastW M ∧ lastW M ≤ 180 := by
  rcases last_row M with rfl | ⟨M', r, rfl⟩
  · exact ⟨Int.le_refl 0, by decide⟩
  · rw [lastW_snoc]
    have hr : ∀ b ∈ r, BIn b := fun b hb => h b (by simp [hb])
    have hl : r.length ≤ 6 := by simp at hn; omega
    have h1 := widR_bd hr r.length
    rw [fk_end] at h1
    have e : widR r = r.foldl (fun n b => n + b.w) 0 := rfl
    rw [e]
    exact ⟨h1.1, by omega⟩
theorem own_row1 (w : World) (b : Bt) : (w.alloc (.cells #[.int .i64 b.i, .int .i64 b.l, .int .i64 b.w, .int .i64 b.d, .int .i64 b.s, .int .i64 b.c] 29)).ownsRow w.heap.size 29 6 (.slice (some ⟨w.heap.size, 0, none⟩) 1 1) 1 (btl [b]) :=
  ⟨rfl, Or.inr ⟨w.heap.size, 1, _, rfl, Nat.le_refl _, heap_alloc_new _ _, Nat.le_refl _, by decide, rfl, rfl⟩⟩
theorem news_one (w : World) (q : Nat) (u : Value) (t : TypeId) (hq : q = w.heap.size) : ∀ j x, [u][j]? = some x → (w.alloc (.cells #[u] t)).cell? ((⟨q, 0, none⟩ : Addr).add j) = some x := fun j x hx => by
  cases j with
  | zero => simp at hx; subst hx; exact (World.cell?_alloc_at _ _ q 0 hq).trans rfl
  | succ j => simp at hx
theorem flat_len {M : List (List Bt)} (h : ∀ r ∈ M, r ≠ []) : M.length ≤ M.flatten.length := by
  induction M with
  | nil => simp
  | cons r M ih =>
    have h1 := ih fun x hx => h x (List.mem_cons_of_mem _ hx)
    have h2 : 0 < r.length := List.length_pos_iff.2 (h r (List.mem_cons_self ..))
    rw [List.flatten_cons, List.length_append, List.length_cons]; omega
theorem ref_wide {T : List (List Bt)} {W : Int} {b : Bt} (hb : b ∈ bts T) (h : W < b.w) : refB T W = false := by
  unfold refB
  have : ((bts T).all fun b => decide (b.w ≤ W)) = false := by
    rw [Bool.eq_false_iff]
    intro e
    rw [List.all_eq_true] at e
    have := e b hb
    simp at this
    omega
  rw [this, Bool.and_false]
theorem ref_all {T : List (List Bt)} {W : Int} (hk : tOk T = true) (h : ∀ b ∈ bts T, b.w ≤ W) : refB T W = true := by
  unfold refB
  rw [hk, Bool.true_and, List.all_eq_true]
  intro b hb
  simpa using h b hb
theorem ref_yes {u : Bool} {T : List (List Bt)} {W : Int} (h : refB T W = true) {w w1 w' : World} {v : Value} {xs : List Value} {B : Nat} (hb : Below w.heap.size w w1) (hB : w.heap.size + 2 ≤ B) (hs : B ≤ w1.heap.size)
    (ho : OwnRows w1 B v (reR W (bts T)) xs) (t : Touch w1 w' (w.heap.size + 1) (w.heap.size + 2)) :
    GivesTB w (refU u T W) (refT T W) (refB T W) (.returned (.tuple #[.agg #[.bool u, v], .bool true])) w' := by
  have e1 : refU u T W = u := by unfold refU; rw [if_pos h]
  have e2 : refT T W = reR W (bts T) := by unfold refT; rw [if_pos h]
  rw [h, e1, e2]
  obtain ⟨A, c, g, G, rfl, hc, hT⟩ := ho.ownT hs
  exact ⟨⟨A, c, g, G, rfl, hc, (hT.touch t (Or.inr hB)).wide (by omega) t.size⟩, t.below hb (by omega)⟩
theorem OwnRows.slot {w w2 : World} {B g0 d g cap : Nat} {M : List (List Bt)} {r r' : List Bt} {xs : List Value} {x : Value}
    (h : OwnRows w B (.slice (some ⟨g0, 0, none⟩) (M.length + 1) d) (M ++ [r]) (xs ++ [x])) (hown : w2.ownsRow B 29 6 (.slice (some ⟨g, 0, none⟩) r'.length cap) r'.length (btl r'))
    (hgr : w.grownBy w2 x.ownBlock) : w2.cell? ⟨g0, M.length, none⟩ = some x ∧ w2.frozen? ⟨g0, M.length, none⟩ = false := by
  have hl : xs.length = M.length := by have := h.len; simp at this; exact this
  have hne30 : (29 : TypeId) ≠ 30 := by decide
  obtain ⟨x', hx', hx⟩ := h.row M.length r (by simp)
  have ex : x' = x := by
    rw [List.getElem?_append_right (by omega), hl, Nat.sub_self] at hx'
    simpa using hx'.symm
  subst ex
  have hs2 : w2.ownsRow B 30 1 (.slice (some ⟨g0, 0, none⟩) (M.length + 1) d) (M.length + 1) (xs ++ [x']) := by
    have := h.own.kept hgr (by
      rcases own_ne hx h.own hne30 with h1 | h1
      · rw [h1]; exact Or.inr (by simp [Value.ownBlock])
      · exact Or.inr fun e => h1 e.symm)
    simpa using this
  exact ⟨by rw [hs2.cellAt _ (by omega)]; exact hx', hs2.frozenAt _⟩
set_option maxRecDepth 100000 in
set_option maxHeartbeats 4000000 in
theorem reform_spec (up : Bool) (A : Option Addr) (c : Nat) (T : List (List Bt)) (W : Int) (w : World) (hm : Mod T) (hp : Trn w A T) (hW : (Lit.int .i64 W).wf = true) :
    Calls Try.prog 68 #[.agg #[.bool up, .slice A T.length c], .int .i64 W] w (GivesTB w (refU up T W) (refT T W) (refB T W)) := by
  have HM := vl hm
  have HB0 := vl ((((Below.refl w.heap.size w).alloc (Nat.le_refl _) (.cells #[.bool up, .slice A T.length c] 26)).alloc (by simp) (.cells #[.bool false, .slice none 0 0] 26)).alloc (by simp; omega) (.cells #[.bool up, .slice none 0 0] 26))
  have HP1 := vl (hp.below HB0.out)
  have HXY := vl (show TBox (((w.alloc (.cells #[.bool up, .slice A T.length c] 26)).alloc (.cells #[.bool false, .slice none 0 0] 26)).alloc (.cells #[.bool up, .slice none 0 0] 26)) w.heap.size up A T.length c ∧ TBoxF (((w.alloc (.cells #[.bool up, .slice A T.length c] 26)).alloc (.cells #[.bool false, .slice none 0 0] 26)).alloc (.cells #[.bool up, .slice none 0 0] 26)) (w.heap.size + 1) false (.slice none 0 0) ∧ TBoxF (((w.alloc (.cells #[.bool up, .slice A T.length c] 26)).alloc (.cells #[.bool false, .slice none 0 0] 26)).alloc (.cells #[.bool up, .slice none 0 0] 26)) (w.heap.size + 2) up (.slice none 0 0) from by
    have h1 := ((TBox.new w up A T.length c 26).below ((Below.refl _ _).alloc (Nat.le_refl _) (.cells #[.bool false, .slice none 0 0] 26))).below ((Below.refl _ _).alloc (Nat.le_refl _) (.cells #[.bool up, .slice none 0 0] 26))
    have h2 := (TBoxF.new (w.alloc (.cells #[.bool up, .slice A T.length c] 26)) false (.slice none 0 0) 26).below ((Below.refl ((w.alloc (.cells #[.bool up, .slice A T.length c] 26)).alloc (.cells #[.bool false, .slice none 0 0] 26)).heap.size _).alloc (Nat.le_refl _) (.cells #[.bool up, .slice none 0 0] 26)) (by simp)
    have h3 := TBoxF.new ((w.alloc (.cells #[.bool up, .slice A T.length c] 26)).alloc (.cells #[.bool false, .slice none 0 0] 26)) up (.slice none 0 0) 26
    exact ⟨h1, by simpa using h2, by simpa using h3⟩)
  clear hm hp
  go_enter Try.func68, Try.ntmps68
  go_wp2_with fail
  refine (tok_spec up A c T _ HM.out HP1.out).mono ?_
  rintro e w5 ⟨rfl, hb5⟩
  have HB5 := vl (HB0.out.trans (hb5.mono HB0.out.size))
  have HX5 := vl (HXY.out.1.below hb5)
  have HR5 := vl (HXY.out.2.1.below hb5 HXY.out.2.1.lt)
  have HO5 := vl (HXY.out.2.2.below hb5 HXY.out.2.2.lt)
  have HP5 := vl (HP1.out.below hb5)
  clear hb5 HXY HB0 HP1
  have r0 := HR5.out.c0; have r1 := HR5.out.c1; have r2 := HR5.out.f0; have r3 := HR5.out.f1
  obtain ⟨x0, x1⟩ := HX5.out
  cases hok : tOk T with
  | false =>
    have HE := vl (show refB T W = false by unfold refB; rw [hok]; rfl)
    go_wp2
    refine bodyPost_ret (v := .tuple #[.agg #[.bool false, .slice none 0 0], .bool false]) (by simp [results, Try.results68, go_sem, r0, r1]) rfl ?_
    exact ref_no HE.out (by (repeat' (first | (with_reducible exact Below.refl _ _) | (with_reducible refine Below.drew ?_) | (with_reducible refine Below.alloc ?_ ?_ _) | (with_reducible refine Below.setCell ?_ ?_ _) | (with_reducible refine Below.trans ?_ (HB5.out.mono ?_)) | (first | omega | (simp; omega) | (simp; done)))))
  | true =>
    have HK := vl hok
    clear hok r0 r1 r2 r3
    go_wp2_with fail
    refine (boats_spec up A c T _ HM.out HP5.out).mono ?_
    rintro e w6 ⟨⟨A6, c6, g6, rfl, hl6, hg6⟩, hb6⟩
    have HB6 := vl (HB5.out.trans (hb6.mono HB5.out.size))
    have HR6 := vl (HR5.out.below hb6 HR5.out.lt)
    have HO6 := vl (HO5.out.below hb6 HO5.out.lt)
    have HL6 := vl hl6
    have HT6 := vl hl6.bts
    clear hb6 hl6 x0 x1
    have hn6 := (tOk_iff.1 HK.out).n1
    have hsz := HO6.out.lt
    have h56 := HO5.out.lt
    have hg56 : w.heap.size + 2 < g6 := by omega
    have hn0 := (tOk_iff.1 HK.out).n0
    have hg66 := HL6.out.lt (by omega)
    go_wp2
    go_loopw [8, 9] (fun s i wr => ∃ (k : Nat) (v : Value) (xs : List Value), k ≤ (bts T).length ∧ i = .int .i64 k ∧ s = .int .i64 (lastW (reR W ((bts T).take k))) ∧ Veil (∀ b ∈ (bts T).take k, b.w ≤ W) ∧ Veil (Below w.heap.size w wr) ∧ Veil (RowB wr A6 (bts T) g6) ∧ Veil (TBoxF wr (w.heap.size + 1) false (.slice none 0 0)) ∧ Veil (TBoxF wr (w.heap.size + 2) up v) ∧ Veil (OwnRows wr w6.heap.size v (reR W ((bts T).take k)) xs) ∧ w6.heap.size ≤ wr.heap.size) (fun _ i _ => (bts T).length - (intOf i).toNat)
    case atStart => exact ⟨0, .slice none 0 0, [], by omega, rfl, rfl, vl (by simp), HB6, HL6, HR6, HO6, vl (OwnRows.nil _ _), Nat.le_refl _⟩
    case round =>
      obtain ⟨k, v, xs, hk, rfl, rfl, HA, HB, HT, HR, HO, HM6, hw6⟩ := hrel
      have r0 := HR.out.c0; have r1 := HR.out.c1; have r2 := HR.out.f0; have r3 := HR.out.f1
      have o0 := HO.out.c0; have o1 := HO.out.c1
      have hz1 := HR.out.lt
      have hz2 := HO.out.lt
      by_cases hlt : k < (bts T).length
      · obtain ⟨b, hb⟩ := get_of hlt
        obtain rfl := HT.out.1 (by omega)
        have hgl := HT.out.lt (by omega)
        obtain ⟨b0, b1, b2, b3, b4, b5⟩ := HT.out.2 k b hb
        have HBk := vl hb
        clear hb
        by_cases hw : W < b.w
        · have HE := vl (ref_wide (T := T) (W := W) (mem_of HBk.out) hw)
          go_wp2
          refine bodyPost_ret (v := .tuple #[.agg #[.bool false, .slice none 0 0], .bool false]) (by simp [results, Try.results68, go_sem, r0, r1, hz1]) rfl ?_
          exact ref_no HE.out (by (repeat' (first | (with_reducible exact Below.refl _ _) | (with_reducible refine Below.drew ?_) | (with_reducible refine Below.alloc ?_ ?_ _) | (with_reducible refine Below.setCell ?_ ?_ _) | (with_reducible refine Below.trans ?_ (HB.out.mono ?_)) | (first | omega | (simp; omega) | (simp; done)))))
        · have hw' : b.w ≤ W := by omega
          have hin := (tOk_iff.1 HK.out).ok b (mem_of HBk.out)
          have hbw0 := hin.w0
          have hbw1 := hin.w1
          have HS := vl (show (bts T).take (k + 1) = (bts T).take k ++ [b] from by rw [List.take_add_one, HBk.out]; rfl)
          have HA2 := vl (show ∀ x ∈ (bts T).take (k + 1), x.w ≤ W from by
            rw [HS.out]
            intro x hx
            rcases List.mem_append.1 hx with h1 | h1
            · exact HA.out x h1
            · simp at h1; subst h1; exact hw')
          have HQ := vl (show reR W ((bts T).take (k + 1)) = putR W (reR W ((bts T).take k)) b from by rw [HS.out, reR_snoc])
          have HBD := lastW_bd (M := reR W ((bts T).take k)) (by rw [reR_flat]; exact fun b hb => (tOk_iff.1 HK.out).ok b (List.mem_of_mem_take hb)) (by rw [reR_flat, List.length_take]; omega)
          have hMl : (reR W ((bts T).take k)).length ≤ 6 := by have h1 := flat_len (reR_full W ((bts T).take k)); rw [reR_flat, List.length_take] at h1; omega
          obtain ⟨M, hM⟩ : ∃ M, M = reR W ((bts T).take k) := ⟨_, rfl⟩
          rw [← hM] at HM6 HQ HBD hMl ⊢
          obtain ⟨s0, hs0⟩ : ∃ s0, s0 = lastW M := ⟨_, rfl⟩
          have HV := vl (And.intro hM hs0)
          rw [← hs0] at HBD ⊢
          obtain ⟨hs1, hs2⟩ := HBD
          obtain ⟨V, d, rfl, _⟩ := own_src HM6.out.own
          clear hM hs0 hin hw
          obtain ⟨i0, hi, hz0', hz1', hz2'⟩ := info_parts infoB2
          obtain ⟨j0, hj, hy0, hy1, hy2⟩ := info_parts infoR
          have hbx := (Below.refl wr.heap.size wr).alloc (Nat.le_refl _) (.cells #[.int .i64 b.i, .int .i64 b.l, .int .i64 b.w, .int .i64 b.d, .int .i64 b.s, .int .i64 b.c] 29)
          have HM8 := vl (HM6.out.below hbx)
          by_cases hfit : 0 < M.length ∧ s0 + b.w ≤ W
          · obtain ⟨hM0, hfit⟩ := hfit
            rcases last_row M with h | ⟨M', r, h⟩
            · subst h; simp at hM0
            subst h
            have hm' : (M' ++ [r]).length = M'.length + 1 := by simp
            have e0 : s0 = widR r := by have := HV.out.2; rwa [lastW_snoc] at this
            have HQ2 := vl (show putR W (M' ++ [r]) b = M' ++ [r ++ [b]] from putR_in (by rw [← e0]; exact hfit))
            have HE0 := vl e0
            rw [hm'] at HM6 HM8 HO hMl
            obtain ⟨g0, rfl⟩ : ∃ g0, V = some ⟨g0, 0, none⟩ := by
              rcases HM6.out.own.2 with ⟨_, h0⟩ | ⟨g, cap, cur, e, _⟩
              · rw [hm'] at h0; omega
              · injection e with e1; exact ⟨g, e1⟩
            obtain ⟨xs', u, rfl⟩ : ∃ xs' u, xs = xs' ++ [u] := by
              rcases List.eq_nil_or_concat xs with h | ⟨M2, r2, h⟩
              · have := HM6.out.len; rw [hm', h] at this; simp at this
              · exact ⟨M2, r2, by simpa using h⟩
            have hxl : xs'.length = M'.length := by have := HM6.out.len; rw [hm'] at this; simpa using this
            obtain ⟨u', hu', hxo⟩ := HM6.out.row M'.length r (by simp)
            have eu : u' = u := by
              rw [List.getElem?_append_right (by omega), hxl, Nat.sub_self] at hu'
              simpa using hu'.symm
            subst eu
            obtain ⟨Au, cu, rfl, _⟩ := own_src hxo
            have hr6 : r.length ≤ 6 := by
              have h1 := reR_flat W ((bts T).take k)
              rw [← HV.out.1] at h1
              have h2 : (M' ++ [r]).flatten.length ≤ k := by rw [h1, List.length_take]; omega
              simp at h2; omega
            have c1 : wr.cell? ⟨g0, M'.length, none⟩ = some (.slice Au r.length cu) := by
              have h := HM6.out.own
              rw [hm'] at h
              rw [h.cellAt _ (by omega)]; exact hu'
            have hg0 := HM6.out.own.lt g0 rfl
            have c1a := (hbx.cell (cell_lt' c1)).trans c1
            have o1a := (hbx.cell (cell_lt' o1)).trans o1
            obtain ⟨q0, q1, q2, q3, q4, q5⟩ := BxB.new wr b 29
            have HXa := vl (own_below hxo hbx)
            have hxL := vl (fun k (hk : (Value.slice Au r.length cu).ownBlock = some k) => (hxo.lt k hk).2)
            have HBx := vl hbx
            have HTa := vl (show RowB (wr.alloc (.cells #[.int .i64 b.i, .int .i64 b.l, .int .i64 b.w, .int .i64 b.d, .int .i64 b.s, .int .i64 b.c] 29)) (some ⟨g6, 0, none⟩) (bts T) g6 from HT.out.below hbx)
            have HOa := vl (HO.out.below hbx hz2)
            have HRa := vl (HR.out.below hbx hz1)
            have hwa : wr.heap.size < (wr.alloc (.cells #[.int .i64 b.i, .int .i64 b.l, .int .i64 b.w, .int .i64 b.d, .int .i64 b.s, .int .i64 b.c] 29)).heap.size := by simp
            have hrl : (r ++ [b]).length = r.length + 1 := by simp
            have HS0 := vl e0
            clear hM0 hxo hu' hbx c1 o1 HM6 e0
            go_wp2
            generalize hWa : wr.alloc (.cells #[.int .i64 b.i, .int .i64 b.l, .int .i64 b.w, .int .i64 b.d, .int .i64 b.s, .int .i64 b.c] 29) = wa at *
            have HbW : ∀ W' : World, Below wa.heap.size wa W' → OwnRows W' w6.heap.size (.slice (some ⟨g0, 0, none⟩) (M'.length + 1) d) (M' ++ [r]) (xs' ++ [.slice Au r.length cu]) := fun W' h => HM8.out.below h
            obtain ⟨hg0a, hg0b⟩ := hg0
            have hg0c : g0 < wa.heap.size := by omega
            have hw2c : w.heap.size + 2 < wa.heap.size := by omega
            have iw1 : IntKind.i64.wrap ((M'.length : Int) + 1 - 1) = (M'.length : Int) := by rw [show (M'.length : Int) + 1 - 1 = (M'.length : Int) by omega]; exact IntWalk.i64_in _ (by omega)
            have iw4 : IntKind.i64.wrap (M'.length : Int) = (M'.length : Int) := IntWalk.i64_in _ (by omega)
            have iw2 : (0 : Int) ≤ (M'.length : Int) := by omega
            have iw3 : (M'.length : Int) < (M'.length : Int) + 1 := by omega
            go_region_law (first
                                | (refine step_append_lies _ (by rfl) _ _ 30 (by rfl) w6.heap.size 29 i0 _ 6 48 Try.underlying30 hi hz0' hz1' hz2' rfl (by decide) (.slice Au r.length cu) r.length (btl r) (by rfl) (HXa.out.alloc _) ⟨wa.heap.size, 0, none⟩ 1 1 b.cells (by rfl) rfl (fun j x hx => World.news_of_block (heap_alloc_new _ _) j x (by simpa [Bt.cells] using hx)) (by intro x hx; simp [Bt.cells] at hx; rcases hx with rfl | rfl | rfl | rfl | rfl | rfl <;> rfl) (by omega) (by unfold maxLen; omega) (by omega) (by simp; omega) _ rfl ?_
                                   intro g3 cap w4 hown hgrow hat hlt3
                                   have hown' : w4.ownsRow w6.heap.size 29 6 (.slice (some ⟨g3, 0, none⟩) (r ++ [b]).length cap) (r ++ [b]).length (btl (r ++ [b])) := by rw [hrl, btl_app, btl_one']; exact hown
                                   have hbW := HbW _ (by first | exact ((Below.refl wa.heap.size wa).drew.alloc (Nat.le_refl _) (.cells #[.int .i64 b.i, .int .i64 b.l, .int .i64 b.w, .int .i64 b.d, .int .i64 b.s, .int .i64 b.c] 29)) | exact ((Below.refl wa.heap.size wa).alloc (Nat.le_refl _) (.cells #[.int .i64 b.i, .int .i64 b.l, .int .i64 b.w, .int .i64 b.d, .int .i64 b.s, .int .i64 b.c] 29)).drew)
                                   have HG4 := vl (hbW.growLast hown' hgrow (by simpa using hat))
                                   obtain ⟨d1, d2⟩ := hbW.slot hown' hgrow
                                   have hb4 : Below w6.heap.size wa w4 := ((Below.refl w6.heap.size wa).drew.alloc (show w6.heap.size ≤ wa.heap.size by omega) (.cells #[.int .i64 b.i, .int .i64 b.l, .int .i64 b.w, .int .i64 b.d, .int .i64 b.s, .int .i64 b.c] 29)).trans (below_app' (HXa.out.alloc (.cells #[.int .i64 b.i, .int .i64 b.l, .int .i64 b.w, .int .i64 b.d, .int .i64 b.s, .int .i64 b.c] 29)) hgrow (by simp; omega))
                                   have hwx : (.slice Au r.length cu : Value).ownBlock ≠ some wr.heap.size := fun e => by have := (hxL.out wr.heap.size e); omega
                                   have hqe : ∀ j, w4.cell? ⟨wr.heap.size, j, none⟩ = wa.cell? ⟨wr.heap.size, j, none⟩ := fun j => (World.cell?_of_block (hgrow.block wr.heap.size (by simp; omega) (fun e => hwx e.symm))).trans ((((Below.refl wa.heap.size wa).drew.alloc (Nat.le_refl _) (.cells #[.int .i64 b.i, .int .i64 b.l, .int .i64 b.w, .int .i64 b.d, .int .i64 b.s, .int .i64 b.c] 29)).cell (p := ⟨wr.heap.size, j, none⟩) hwa))
                                   have Q4 : BxB w4 wr.heap.size b := ⟨(hqe 0).trans q0, (hqe 1).trans q1, (hqe 2).trans q2, (hqe 3).trans q3, (hqe 4).trans q4, (hqe 5).trans q5⟩
                                   have hq5 : ∀ (q j : Nat) (u : Value), q ≠ g0 → (w4.setCell ⟨g0, M'.length, none⟩ u).cell? ⟨q, j, none⟩ = w4.cell? ⟨q, j, none⟩ := fun q j u hq => World.cell?_of_block (Below.heap_setCell w4 ⟨g0, M'.length, none⟩ u q hq)
                                   have P5 := (hq5 (w.heap.size + 2) 1 (.slice (some ⟨g3, 0, none⟩) (r.length + 1) cap) (by omega)).trans (HOa.out.below hb4 (by omega)).c1
                                   have Q5 : BxB (w4.setCell ⟨g0, M'.length, none⟩ (.slice (some ⟨g3, 0, none⟩) (r.length + 1) cap)) wr.heap.size b := ⟨(hq5 _ 0 _ (by omega)).trans Q4.1, (hq5 _ 1 _ (by omega)).trans Q4.2.1, (hq5 _ 2 _ (by omega)).trans Q4.2.2.1, (hq5 _ 3 _ (by omega)).trans Q4.2.2.2.1, (hq5 _ 4 _ (by omega)).trans Q4.2.2.2.2.1, (hq5 _ 5 _ (by omega)).trans Q4.2.2.2.2.2⟩
                                   have HB4 := vl (HB.out.trans ((HBx.out.mono HB.out.size).trans (hb4.mono (by omega))))
                                   have HO4 := vl (HOa.out.below hb4 (by omega))
                                   have P4 := HO4.out.c1
                                   have HR4 := vl (HRa.out.below hb4 (by omega))
                                   have HT4 := vl (show RowB w4 (some ⟨g6, 0, none⟩) (bts T) g6 from HTa.out.block fun _ => hb4.block g6 hg66)
                                   have hw64 : w6.heap.size ≤ w4.heap.size := Nat.le_trans (by omega) hb4.size
                                   clear hown hown' hgrow hat hlt3 hbW hb4 hwx hqe hq5))
            all_goals
              rw [hrl] at HG4
              clear P4 P5 d1 d2 Q4 o1a c1a q0 q1 q2 q3 q4 q5 iw1 iw2 iw3 iw4
              have Q6 := Q5.2.2.1
              clear Q5
              go_wp2
              go_roundw
              case rel => exact ⟨k + 1, _, _, by omega, by go_num, congrArg (Value.int .i64) (by rw [HQ.out, HQ2.out, lastW_snoc, widR_add, ← HE0.out]), HA2, vl (HB4.out.setCell (by show w.heap.size ≤ g0; omega) _), vl (HT4.out.block fun _ => Below.heap_setCell w4 ⟨g0, M'.length, none⟩ _ g6 (by show g6 ≠ g0; omega)), vl (HR4.out.far _ (by omega)), vl (HO4.out.far _ (by omega)), vl (by rw [HQ.out, HQ2.out]; exact HG4.out), by simpa using hw64⟩
              case measure => simp [intOf]; omega
          · have hcase : (0 < (M.length : Int) ∧ W < s0 + b.w) ∨ (M.length : Int) ≤ 0 := by omega
            have HQ2 := vl (show putR W M b = M ++ [[b]] from by
              rcases last_row M with h | ⟨M', r, h⟩
              · rw [h]; rfl
              · subst h
                rw [putR_new]
                have h2 := HV.out.2
                rw [lastW_snoc] at h2
                intro h3
                exact hfit ⟨by simp, by omega⟩)
            have hb2 := (Below.refl (wr.alloc (.cells #[.int .i64 b.i, .int .i64 b.l, .int .i64 b.w, .int .i64 b.d, .int .i64 b.s, .int .i64 b.c] 29)).heap.size (wr.alloc (.cells #[.int .i64 b.i, .int .i64 b.l, .int .i64 b.w, .int .i64 b.d, .int .i64 b.s, .int .i64 b.c] 29))).alloc (Nat.le_refl _) (.cells #[.int .i64 b.i, .int .i64 b.l, .int .i64 b.w, .int .i64 b.d, .int .i64 b.s, .int .i64 b.c] 29)
            have HM9 := vl (HM8.out.below hb2)
            have HU := vl (own_row1 (wr.alloc (.cells #[.int .i64 b.i, .int .i64 b.l, .int .i64 b.w, .int .i64 b.d, .int .i64 b.s, .int .i64 b.c] 29)) b)
            have HBX := vl hbx
            have HB2' := vl hb2
            clear hbx hb2 hfit
            rcases hcase with ⟨hM0, hov⟩ | hM0
            all_goals
              go_wp2_with (at_builtin; refine wpList_app rfl _ _ 24 rfl w6.heap.size 30 j0 _ 1 24 Try.underlying24 hj hy0 hy1 hy2 rfl (by decide) (.slice V M.length d) M.length xs rfl (HM9.out.own.alloc _) (some ⟨wr.heap.size + 1 + 1, 0, none⟩) 1 1 [.slice (some ⟨wr.heap.size + 1, 0, none⟩) 1 1] rfl rfl (fun _ => ⟨⟨wr.heap.size + 1 + 1, 0, none⟩, rfl, news_one _ _ _ _ (by simp)⟩) (fun x hx => by simp at hx; subst hx; rfl) (by unfold maxLen; omega) (by omega) (by simp; omega) ?_)
              intro v' w3 hown hgr
              have hown' : w3.ownsRow w6.heap.size 30 1 v' (M.length + 1) (xs ++ [.slice (some ⟨(wr.alloc (.cells #[.int .i64 b.i, .int .i64 b.l, .int .i64 b.w, .int .i64 b.d, .int .i64 b.s, .int .i64 b.c] 29)).heap.size, 0, none⟩) 1 1]) := by simpa using hown
              have HM10 := vl (HM8.out.snoc (by simp; omega) HB2'.out HU.out hown' hgr)
              have hb3 : Below w6.heap.size wr w3 := (HBX.out.mono hw6).trans ((HB2'.out.mono (by simp; omega)).trans (((Below.refl w6.heap.size _).alloc (by simp; omega) _).trans (below_app' (HM9.out.own.alloc _) hgr (by simp; omega))))
              have hcb : w3.cell? ⟨wr.heap.size, 2, none⟩ = some (.int .i64 b.w) := by
                rw [World.cell?_of_block (hgr.block wr.heap.size (by simp; omega) (by
                  intro e
                  have := (HM6.out.own.lt wr.heap.size (by first | exact e | exact e.symm)).2
                  omega))]
                rw [World.cell?_alloc_past _ _ _ (by simp; omega), World.cell?_alloc_past _ _ _ (by simp), World.cell?_alloc_at _ _ _ _ rfl]
                rfl
              have HO3 := vl (HO.out.below hb3 (by omega))
              have HR3 := vl (HR.out.below hb3 (by omega))
              have HT3 := vl (show RowB w3 _ (bts T) g6 from HT.out.block fun _ => hb3.block g6 (by omega))
              have HB3 := vl (HB.out.trans (hb3.mono (by have := HB.out.size; omega)))
              have hw63 : w6.heap.size ≤ w3.heap.size := Nat.le_trans hw6 hb3.size
              have p0 := HO3.out.c0; have p1 := HO3.out.c1; have p2 := HO3.out.f0; have p3 := HO3.out.f1
              obtain ⟨V', d', rfl, _⟩ := own_src HM10.out.own
              rw [show (M ++ [[b]]).length = M.length + 1 from by simp] at HM10
              clear hown hown' hgr hb3
              go_wp2
              go_roundw
              case rel => exact ⟨k + 1, _, _, by omega, by go_num, congrArg (Value.int .i64) (by rw [HQ.out, HQ2.out, lastW_snoc, widR_one]), HA2, vl (HB3.out.setCell (by show w.heap.size ≤ w.heap.size + 2; omega) _), vl (HT3.out.block fun _ => Below.heap_setCell w3 ⟨w.heap.size + 2, 1, none⟩ _ g6 (by show g6 ≠ w.heap.size + 2; omega)), vl (HR3.out.far _ (by omega)), vl (HO3.out.set _), vl (by rw [HQ.out, HQ2.out]; exact HM10.out.set (by omega)), by simpa using hw63⟩
              case measure => simp [intOf]; omega
      · obtain rfl : k = (bts T).length := by omega
        have HE := vl (ref_all (T := T) (W := W) HK.out (by have := HA.out; rwa [List.take_length] at this))
        have HM7 := vl (show OwnRows wr w6.heap.size v (reR W (bts T)) xs from by have := HM6.out; rwa [List.take_length] at this)
        have hz := HO.out.lt
        clear HA HM6 HT
        obtain ⟨V, d, rfl, _⟩ := own_src HM7.out.own
        generalize lastW (reR W ((bts T).take (bts T).length)) = lw
        go_wp2
        refine bodyPost_ret (v := .tuple #[.agg #[.bool up, .slice V (reR W (bts T)).length d], .bool true]) (by simp [results, Try.results68, go_sem, r0, r1]) rfl ?_
        exact ref_yes HE.out HB.out (by omega) (by omega) HM7.out (((Touch.refl wr (w.heap.size + 1) (w.heap.size + 2)).set (w.heap.size + 1) 0 (.bool up) (by omega) (by omega)).set (w.heap.size + 1) 1 (.slice V (reR W (bts T)).length d) (by omega) (by omega))
end Go.Proofs.Ytmfeleocjmdooaa.C1
