/- FlowIn, of the program and of its model. -/
import Derived.Test.YtkaddacflblghaaRchK
import Derived.Deep.RegionWith
namespace Go.Proofs.Ytkaddacflblghaa.C1
open Go.ChangeShapes Go.WideShapes Go.ChangeAt Go.RowKit
set_option linter.unusedVariables false

def upZ (r : Rc) : Nat → Int := fun i => if i = r.m - 1 then 0 else r.Z (i + 1)
theorem itl_up (r : Rc) (h : 0 < r.m) : itl (r.m - 1) (fun i => r.Z (i + 1)) ++ [.int .i64 0] = itl r.m (upZ r) := by
  obtain ⟨k, hk⟩ : ∃ k, r.m = k + 1 := ⟨r.m - 1, by omega⟩
  have e : itl k (fun i => r.Z (i + 1)) = itl k (upZ r) := itl_congr fun i hi => by unfold upZ; rw [if_neg (by omega)]
  have e2 : (Value.int .i64 0) = .int .i64 (upZ r k) := by unfold upZ; rw [if_pos (by omega)]
  rw [hk, show k + 1 - 1 = k by omega, e, e2, itl_snoc]
theorem flowC_yes {r : Rc} (h : 0 < r.m) : flowC r = { r with v := r.v + r.Z 0, Z := upZ r } := by unfold flowC upZ; rw [if_neg (by omega)]
theorem flow_cases (r : Rc) : (rOk r = false ∧ flowR r = r) ∨ (rOk r = true ∧ r.m = 0 ∧ flowR r = r) ∨ (rOk r = true ∧ 0 < r.m ∧ flowR r = { r with v := r.v + r.Z 0, Z := upZ r }) := by
  unfold flowR
  cases h : rOk r with
  | false => exact .inl ⟨rfl, rfl⟩
  | true =>
    rw [if_pos rfl]
    rcases Nat.eq_zero_or_pos r.m with h0 | h0
    · exact .inr (.inl ⟨rfl, h0, by unfold flowC; rw [if_pos h0]⟩)
    · exact .inr (.inr ⟨rfl, h0, flowC_yes h0⟩)
theorem flowR_n (r : Rc) : (flowR r).n = r.n ∧ (flowR r).m = r.m := by
  rcases flow_cases r with ⟨_, h⟩ | ⟨_, _, h⟩ | ⟨_, _, h⟩ <;> rw [h] <;> exact ⟨rfl, rfl⟩
theorem Owned.drew {w : World} {B L g1 g2 : Nat} {A D : Option Addr} {r : Rc} (h : Owned w B L A D r g1 g2) : Owned w.drew B L A D r g1 g2 := h
theorem Owned.putI {w w' : World} {B L g1 g2 : Nat} {A D : Option Addr} {r : Rc} {Z : Nat → Int} (h : Owned w B L A D r g1 g2) (hm : 0 < r.m) (t : ∀ B L, B ≤ g2 → g2 < L → Touch w w' B L) (hr : RowI w' D r.m g2 Z) (hf : Free w' r.m g2) (v : Int) :
    Owned w' B L A D { r with v := v, Z := Z } g1 g2 := by
  obtain ⟨h1, h2, h3, h4, h5, h6, h7⟩ := h
  have t' := t g2 (g2 + 1) (Nat.le_refl _) (Nat.lt_succ_self _)
  have o1 : 0 < r.n → g1 < g2 ∨ g2 + 1 ≤ g1 := fun hn => by have := h7 hn hm; omega
  have t1 := t'.row h1 o1
  have t2 := t'.free h2 (fun hn => h1.lt (by omega)) (fun hn => o1 (by omega))
  exact ⟨t1, t2, hr, hf, h5, h6, h7⟩
/- FLOW of the model. -/
set_option maxRecDepth 100000 in
set_option maxHeartbeats 8000000 in
theorem flow_spec (r : Rc) (A D : Option Addr) (c d : Nat) (w : World) (hn : r.n ≤ 1048576) (hm : r.m ≤ 1048576) (hcd0 : r.m ≤ d) (hp : Pts w A r.n r.X r.Y) (hd : Ints w D r.m r.Z) :
    Calls Try.prog 59 #[.agg #[.slice A r.n c, .int .i64 r.v, .slice D r.m d]] w (GivesR w (flowR r)) := by
  have HP := Lib.hid hp
  have HD := Lib.hid hd
  have HC := Lib.hid (flow_cases r)
  clear hp hd
  have HB0 := Lib.hid (((Below.refl w.heap.size w).alloc (Nat.le_refl _) (.cells #[.slice A r.n c, .int .i64 r.v, .slice D r.m d] 29)).alloc (by simp) (.cells #[.slice none 0 0, .int .i64 0, .slice none 0 0] 29))
  have hx0 := (Box.new w (.slice A r.n c) (.int .i64 r.v) (.slice D r.m d) 29).alloc (.cells #[.slice none 0 0, .int .i64 0, .slice none 0 0] 29)
  have hr0 := Box.new (w.alloc (.cells #[.slice A r.n c, .int .i64 r.v, .slice D r.m d] 29)) (.slice none 0 0) (.int .i64 0) (.slice none 0 0) 29
  simp at hr0
  have HX0 := Lib.hid hx0
  have HR0 := Lib.hid hr0
  clear hx0 hr0
  go_enter Try.func59, Try.ntmps59
  go_wp2_with fail
  refine (copy_spec r _ _ _ _ _ hn hm (HP.out.below HB0.out) (HD.out.below HB0.out)).mono ?_
  rintro e w1 ⟨⟨A1, c1, D1, d1, g1, g2, rfl, hcd, ho1⟩, hb1⟩
  have q1 : w.heap.size + 1 + 1 ≤ w1.heap.size := by have := hb1.size; simpa using this
  simp only [World.size_alloc] at ho1
  have HO1 := Lib.hid ho1
  have HB1 := Lib.hid (HB0.out.trans (hb1.mono (by simp; omega)))
  have HX1 := Lib.hid (HX0.out.below hb1)
  have HR1 := Lib.hid (HR0.out.below hb1)
  clear ho1 hb1
  obtain ⟨x0, x1, x2⟩ := HX1.out.at
  have hwl : w.heap.size < w1.heap.size := by omega
  go_wp2_with fail
  refine (ok_spec r _ _ _ _ _ hn hm ((HP.out.below HB1.out).alloc _) ((HD.out.below HB1.out).alloc _)).mono ?_
  rintro e w3 ⟨rfl, hb3⟩
  have hb3' := ((Below.refl w1.heap.size w1).alloc (Nat.le_refl _) (.cells #[.slice A1 r.n c1, .int .i64 r.v, .slice D1 r.m d1] 29)).trans (hb3.mono (by simp))
  have q3 : w1.heap.size < w3.heap.size := by have := hb3.size; simp at this; omega
  have HG3 := Lib.hid ((Box.new w1 (.slice A1 r.n c1) (.int .i64 r.v) (.slice D1 r.m d1) 29).below hb3)
  have HO3 := Lib.hid (HO1.out.below hb3')
  have HB3 := Lib.hid (HB1.out.trans (hb3'.mono (by omega)))
  have HX3 := Lib.hid (HX1.out.below hb3')
  have HR3 := Lib.hid (HR1.out.below hb3')
  clear hb3 hb3' x0 x1 x2 HO1 HX1 HR1
  rcases HC.out with ⟨h, hs⟩ | ⟨h, h0, hs⟩ | ⟨h, h0, hs⟩
  · have HS := Lib.hid hs
    rw [h]
    clear h hs
    obtain ⟨x0, x1, x2⟩ := HG3.out.at
    have hgl := HG3.out.lt
    obtain ⟨y0, y1, y2⟩ := HR3.out.at
    obtain ⟨s0, s1, s2⟩ := HR3.out.free
    go_wp2
    refine bodyPost_ret (v := .agg #[.slice A1 r.n c1, .int .i64 (r.v), .slice D1 r.m d1]) (by simp [results, Try.results59, go_sem, y0, y1, y2]) rfl ?_
    rw [HS.out]
    exact give_end HB3.out HO3.out (by omega) (by omega) (by omega) rfl rfl rfl hcd
  · have HS := Lib.hid hs
    have b0 : ((r.m : Int) == 0) = true := by simp [h0]
    rw [h]
    clear h hs h0
    obtain ⟨x0, x1, x2⟩ := HG3.out.at
    obtain ⟨u0, u1, u2⟩ := HX3.out.at
    have hgl := HG3.out.lt
    obtain ⟨y0, y1, y2⟩ := HR3.out.at
    obtain ⟨s0, s1, s2⟩ := HR3.out.free
    go_wp2
    refine bodyPost_ret (v := .agg #[.slice A1 r.n c1, .int .i64 (r.v), .slice D1 r.m d1]) (by simp [results, Try.results59, go_sem, y0, y1, y2]) rfl ?_
    rw [HS.out]
    exact give_end HB3.out HO3.out (by omega) (by omega) (by omega) rfl rfl rfl hcd
  · have HS := Lib.hid hs
    have v0 := (rOk_iff.1 h).v0
    have v1 := (rOk_iff.1 h).v1
    have zz := (rOk_iff.1 h).z 0 h0
    obtain ⟨g, o, rfl, hcw⟩ := HD.out (by omega)
    have hc : ∀ i, i < r.m → w3.cell? ⟨g, o + i, none⟩ = some (.int .i64 (r.Z i)) := fun i hi => (HB3.out.cell (World.block_lt_of_cell? _ _ (hcw i hi))).trans (hcw i hi)
    have i0 := hc 0 h0
    rw [Nat.add_zero] at i0
    have HC3 := Lib.hid hc
    have b0 : ((r.m : Int) == 0) = false := by simp; omega
    have hv : IntKind.i64.wrap (r.v + r.Z 0) = r.v + r.Z 0 := IntWalk.i64_in _ (by omega)
    have hne : w.heap.size + 1 ≠ w1.heap.size := by omega
    rw [h]
    clear h hs hc
    have HCW := Lib.hid hcw
    clear hcw
    have hwl3 : w.heap.size < w3.heap.size := by omega
    have hne1 : w.heap.size ≠ w1.heap.size := by omega
    have ho := (World.ownsRow_made (size := 1) (e := 3) (w3.setCell ⟨w1.heap.size, 1, none⟩ (.int .i64 (r.v + r.Z 0))) #[] 0 (Nat.le_refl _) (by decide) rfl)
    simp at ho
    have HO := Lib.hid ho
    have HZL := Lib.hid (itl_up r h0)
    clear ho
    have HS0 : ∀ sp, (d ≠ 1 → sp = some (⟨g, o + 1, none⟩ : Addr)) → Hid (0 < r.m - 1 → ∃ ad, sp = some ad ∧ ∀ j u, (itl (r.m - 1) (fun i => r.Z (i + 1)))[j]? = some u → ((w3.setCell ⟨w1.heap.size, 1, none⟩ (.int .i64 (r.v + r.Z 0))).alloc (.cells #[] 3)).cell? (ad.add j) = some u) := fun sp hsp => Lib.hid fun h1 => by
      rw [hsp (by omega)]
      refine ⟨_, rfl, fun j u hu => ?_⟩
      have hj : j < r.m - 1 := by have := (List.getElem?_eq_some_iff.1 hu).1; rwa [itl_len] at this
      rw [itl_at hj] at hu
      injection hu with hu
      have e' : (⟨g, o + 1, none⟩ : Addr).add j = ⟨g, o + 1 + j, none⟩ := by unfold Addr.add; split <;> simp_all
      have hcj := HC3.out (j + 1) (by omega)
      have hgw : g < w.heap.size := World.block_lt_of_cell? _ _ (HCW.out (j + 1) (by omega))
      rw [e', ← hu, show o + 1 + j = o + (j + 1) by omega]
      rw [World.cell?_alloc_lt _ _ _ (by simp; omega)]
      exact (World.cell?_setCell_other _ _ _ _ (by intro h; injection h with h; omega)).trans hcj
    obtain ⟨j0, hj, hy0, hy1, hy2⟩ := info_parts infoI
    obtain ⟨x0, x1, x2⟩ := HG3.out.at
    obtain ⟨z0, z1, z2⟩ := HG3.out.free
    obtain ⟨u0, u1, u2⟩ := HX3.out.at
    have hgl := HG3.out.lt
    by_cases hd1 : d = 1
    · obtain rfl := hd1
      have HS1 := HS0 (some ⟨g, o, none⟩) (fun h => absurd rfl h)
      clear hcd0
      clear HS0
      go_wp2
      go_still_tail 8, (by kernel_rfl)
      change wpList _ _ _ _ _ w3.drew
      go_wp2_with (at_builtin; refine wpList_app (o := ⟨some 28, _, _, _, _, _⟩) rfl _ _ 27 rfl _ 3 j0 _ 1 8 Try.underlying27 hj hy0 hy1 hy2 rfl (by decide) _ _ _ rfl HO.out (some ⟨g, o, none⟩) (r.m - 1) _ (itl (r.m - 1) (fun i => r.Z (i + 1))) rfl (by rw [itl_len]; omega) HS1.out itl_one ?c3 ?c4 (by simp) ?_)
      case c3 => unfold maxLen; omega
      case c4 => omega
      intro v1 w4 hown1 hgr1
      have hgr1' : ((w3.setCell ⟨w1.heap.size, 1, none⟩ (.int .i64 (r.v + r.Z 0))).alloc (.cells #[] 3)).grownBy w4 (some w3.heap.size) := ⟨hgr1.os, hgr1.tape, hgr1.output, hgr1.size, hgr1.block⟩
      have hb4 := below_app hgr1' (by simp)
      have q4 : w3.heap.size ≤ w4.heap.size := by have := hb4.size; simpa using this
      have q5 : w.heap.size < w4.heap.size := by omega
      have q6 : w1.heap.size < w4.heap.size := by omega
      have q7 : w.heap.size + 1 < w4.heap.size := by omega
      have HG4 := Lib.hid ((HG3.out.set1 (.int .i64 (r.v + r.Z 0))).below hb4)
      have HR4 := Lib.hid ((HR3.out.far (g := w1.heap.size) (j := 1) (.int .i64 (r.v + r.Z 0)) hne).below hb4)
      have HB4 := Lib.hid (hb4.mono (show w3.heap.size ≤ _ by simp))
      have HOW := Lib.hid hown1
      clear hgr1 hgr1' hb4 x0 x1 x2 z0 z1 z2 u0 u1 u2 HS1 HO
      obtain ⟨x0, x1, x2⟩ := HG4.out.at
      obtain ⟨z0, z1, z2⟩ := HG4.out.free
      go_wp2_with (at_builtin; refine wpList_append_own (o := ⟨some 30, _, _, _, _, _⟩) _ rfl _ _ 27 rfl w3.heap.size 3 j0 _ 1 8 Try.underlying27 hj hy0 hy1 hy2 rfl (by decide) _ _ _ rfl (HOW.out.alloc _) ⟨w4.heap.size, 0, none⟩ 1 1 [.int .i64 0] rfl rfl ?pA ?pB ?pC ?pD ?pE ?_)
      case pA =>
        intro j u hu
        have hj : j < 1 := by have := (List.getElem?_eq_some_iff.1 hu).1; simpa using this
        obtain rfl : j = 0 := by omega
        simp at hu; subst hu; exact cell_new rfl
      case pB => intro u hu; simp at hu; subst hu; rfl
      case pC => unfold maxLen; omega
      case pD => omega
      case pE => simp; omega
      intro v2 w5 hown2 hgr2 _
      rw [HZL.out, show r.m - 1 + 1 = r.m by omega] at hown2
      have hb5 := (HB4.out.alloc q4 (.cells #[.int .i64 0] 3)).grown hgr2 (by simp; omega) (fun k hk => (HOW.out.lt k hk).1)
      have q8 : w4.heap.size < w5.heap.size := by have := hgr2.size; simp at this; omega
      obtain ⟨D2, d2, g3, rfl, hcd2, k1, k2, k3, k4⟩ := rowI_of_own hown2 (by omega)
      have hb5' := hb5.mono (show (w3.setCell ⟨w1.heap.size, 1, none⟩ (.int .i64 (r.v + r.Z 0))).heap.size ≤ w3.heap.size by simp)
      have HG5 := Lib.hid ((HG3.out.set1 (.int .i64 (r.v + r.Z 0))).below hb5')
      have HR5 := Lib.hid ((HR3.out.far (g := w1.heap.size) (j := 1) (.int .i64 (r.v + r.Z 0)) hne).below hb5')
      have hto := (Touch.refl w3 w1.heap.size (w1.heap.size + 1)).set w1.heap.size 1 (.int .i64 (r.v + r.Z 0)) (Nat.le_refl _) (Nat.lt_succ_self _)
      have hO5 := (HO3.out.touch hto (Or.inl (Nat.le_refl _))).below hb5'
      have HO5 := Lib.hid (show Owned w5 (w.heap.size + 1 + 1) w5.heap.size A1 D2 { r with v := r.v + r.Z 0, Z := upZ r } g1 g3 from
        ⟨hO5.1, hO5.2.1, k1, k2, fun hn => by have := hO5.2.2.2.2.1 hn; omega, fun hm => ⟨by omega, k4 hm⟩, fun hn hm => by have := hO5.2.2.2.2.1 hn; omega⟩)
      have HB5 := Lib.hid ((HB3.out.setCell (p := ⟨w1.heap.size, 1, none⟩) (by show w.heap.size ≤ w1.heap.size; omega) (.int .i64 (r.v + r.Z 0))).trans (hb5.mono (by omega)))
      have HK3 := Lib.hid k3
      clear hb5 hb5' hto hO5 hown1 hown2 hgr2 k1 k2 k3 k4 x0 x1 x2 z0 z1 z2 hj hy0 hy1 hy2
      have n1 : 0 < r.n → g1 < w1.heap.size := fun h => (HO3.out.2.2.2.2.1 h).2
      have n2 : 0 < r.m → w3.heap.size ≤ g3 := fun h => HK3.out
      have N := Lib.hid (And.intro n1 n2)
      clear n1 n2
      obtain ⟨x0, x1, x2⟩ := HG5.out.at
      obtain ⟨z0, z1, z2⟩ := HG5.out.free
      obtain ⟨y0, y1, y2⟩ := HR5.out.at
      obtain ⟨s0, s1, s2⟩ := HR5.out.free
      go_wp2
      refine bodyPost_ret (v := .agg #[.slice A1 r.n c1, .int .i64 (r.v + r.Z 0), .slice D2 r.m d2]) (by simp [results, Try.results59, go_sem, y0, y1, y2]) rfl ?_
      clear x0 x1 x2 z0 z1 z2 y0 y1 y2 s0 s1 s2
      have t := (Touch.refl w5 w1.heap.size (w1.heap.size + 1)).set w1.heap.size 2 (.slice D2 r.m d2) (Nat.le_refl _) (Nat.lt_succ_self _)
      obtain ⟨p1, p2, p3, p4, p5, p6, p7⟩ := HO5.out
      have n1 : 0 < r.n → g1 < w1.heap.size ∨ w1.heap.size + 1 ≤ g1 := fun h => Or.inl (N.out.1 h)
      have n2 : 0 < r.m → g3 < w1.heap.size ∨ w1.heap.size + 1 ≤ g3 := fun h => Or.inr (by have := N.out.2 h; omega)
      have HO6 : Owned (w5.setCell ⟨w1.heap.size, 2, none⟩ (.slice D2 r.m d2)) (w.heap.size + 1 + 1) w5.heap.size A1 D2 { r with v := r.v + r.Z 0, Z := upZ r } g1 g3 :=
        ⟨t.row p1 n1, t.free p2 (fun h => p1.lt (by have h' : 0 < r.n * 2 := h; show 0 < r.n; omega)) (fun h => n1 (by have h' : 0 < r.n * 2 := h; omega)), t.rowI p3 n2, t.free p4 (fun h => p3.lt h) n2, p5, p6, p7⟩
      have hs6 := t.size
      rw [HS.out]
      exact give_end (HB5.out.setCell (p := ⟨w1.heap.size, 2, none⟩) (by show w.heap.size ≤ w1.heap.size; omega) _) HO6 (by omega) (by omega) hs6 rfl rfl rfl hcd2
    · have HS1 := HS0 (some ⟨g, o + 1, none⟩) (fun _ => rfl)
      clear HS0
      go_wp2
      go_still_tail 8, (by kernel_rfl)
      change wpList _ _ _ _ _ w3.drew
      go_wp2_with (at_builtin; refine wpList_app (o := ⟨some 28, _, _, _, _, _⟩) rfl _ _ 27 rfl _ 3 j0 _ 1 8 Try.underlying27 hj hy0 hy1 hy2 rfl (by decide) _ _ _ rfl HO.out (some ⟨g, o + 1, none⟩) (r.m - 1) _ (itl (r.m - 1) (fun i => r.Z (i + 1))) rfl (by rw [itl_len]; omega) HS1.out itl_one ?c5 ?c6 (by simp) ?_)
      case c5 => unfold maxLen; omega
      case c6 => omega
      intro v1 w4 hown1 hgr1
      have hgr1' : ((w3.setCell ⟨w1.heap.size, 1, none⟩ (.int .i64 (r.v + r.Z 0))).alloc (.cells #[] 3)).grownBy w4 (some w3.heap.size) := ⟨hgr1.os, hgr1.tape, hgr1.output, hgr1.size, hgr1.block⟩
      have hb4 := below_app hgr1' (by simp)
      have q4 : w3.heap.size ≤ w4.heap.size := by have := hb4.size; simpa using this
      have q5 : w.heap.size < w4.heap.size := by omega
      have q6 : w1.heap.size < w4.heap.size := by omega
      have q7 : w.heap.size + 1 < w4.heap.size := by omega
      have HG4 := Lib.hid ((HG3.out.set1 (.int .i64 (r.v + r.Z 0))).below hb4)
      have HR4 := Lib.hid ((HR3.out.far (g := w1.heap.size) (j := 1) (.int .i64 (r.v + r.Z 0)) hne).below hb4)
      have HB4 := Lib.hid (hb4.mono (show w3.heap.size ≤ _ by simp))
      have HOW := Lib.hid hown1
      clear hgr1 hgr1' hb4 x0 x1 x2 z0 z1 z2 u0 u1 u2 HS1 HO
      obtain ⟨x0, x1, x2⟩ := HG4.out.at
      obtain ⟨z0, z1, z2⟩ := HG4.out.free
      go_wp2_with (at_builtin; refine wpList_append_own (o := ⟨some 30, _, _, _, _, _⟩) _ rfl _ _ 27 rfl w3.heap.size 3 j0 _ 1 8 Try.underlying27 hj hy0 hy1 hy2 rfl (by decide) _ _ _ rfl (HOW.out.alloc _) ⟨w4.heap.size, 0, none⟩ 1 1 [.int .i64 0] rfl rfl ?qA ?qB ?qC ?qD ?qE ?_)
      case qA =>
        intro j u hu
        have hj : j < 1 := by have := (List.getElem?_eq_some_iff.1 hu).1; simpa using this
        obtain rfl : j = 0 := by omega
        simp at hu; subst hu; exact cell_new rfl
      case qB => intro u hu; simp at hu; subst hu; rfl
      case qC => unfold maxLen; omega
      case qD => omega
      case qE => simp; omega
      intro v2 w5 hown2 hgr2 _
      rw [HZL.out, show r.m - 1 + 1 = r.m by omega] at hown2
      have hb5 := (HB4.out.alloc q4 (.cells #[.int .i64 0] 3)).grown hgr2 (by simp; omega) (fun k hk => (HOW.out.lt k hk).1)
      have q8 : w4.heap.size < w5.heap.size := by have := hgr2.size; simp at this; omega
      obtain ⟨D2, d2, g3, rfl, hcd2, k1, k2, k3, k4⟩ := rowI_of_own hown2 (by omega)
      have hb5' := hb5.mono (show (w3.setCell ⟨w1.heap.size, 1, none⟩ (.int .i64 (r.v + r.Z 0))).heap.size ≤ w3.heap.size by simp)
      have HG5 := Lib.hid ((HG3.out.set1 (.int .i64 (r.v + r.Z 0))).below hb5')
      have HR5 := Lib.hid ((HR3.out.far (g := w1.heap.size) (j := 1) (.int .i64 (r.v + r.Z 0)) hne).below hb5')
      have hto := (Touch.refl w3 w1.heap.size (w1.heap.size + 1)).set w1.heap.size 1 (.int .i64 (r.v + r.Z 0)) (Nat.le_refl _) (Nat.lt_succ_self _)
      have hO5 := (HO3.out.touch hto (Or.inl (Nat.le_refl _))).below hb5'
      have HO5 := Lib.hid (show Owned w5 (w.heap.size + 1 + 1) w5.heap.size A1 D2 { r with v := r.v + r.Z 0, Z := upZ r } g1 g3 from
        ⟨hO5.1, hO5.2.1, k1, k2, fun hn => by have := hO5.2.2.2.2.1 hn; omega, fun hm => ⟨by omega, k4 hm⟩, fun hn hm => by have := hO5.2.2.2.2.1 hn; omega⟩)
      have HB5 := Lib.hid ((HB3.out.setCell (p := ⟨w1.heap.size, 1, none⟩) (by show w.heap.size ≤ w1.heap.size; omega) (.int .i64 (r.v + r.Z 0))).trans (hb5.mono (by omega)))
      have HK3 := Lib.hid k3
      clear hb5 hb5' hto hO5 hown1 hown2 hgr2 k1 k2 k3 k4 x0 x1 x2 z0 z1 z2 hj hy0 hy1 hy2
      have n1 : 0 < r.n → g1 < w1.heap.size := fun h => (HO3.out.2.2.2.2.1 h).2
      have n2 : 0 < r.m → w3.heap.size ≤ g3 := fun h => HK3.out
      have N := Lib.hid (And.intro n1 n2)
      clear n1 n2
      obtain ⟨x0, x1, x2⟩ := HG5.out.at
      obtain ⟨z0, z1, z2⟩ := HG5.out.free
      obtain ⟨y0, y1, y2⟩ := HR5.out.at
      obtain ⟨s0, s1, s2⟩ := HR5.out.free
      go_wp2
      refine bodyPost_ret (v := .agg #[.slice A1 r.n c1, .int .i64 (r.v + r.Z 0), .slice D2 r.m d2]) (by simp [results, Try.results59, go_sem, y0, y1, y2]) rfl ?_
      clear x0 x1 x2 z0 z1 z2 y0 y1 y2 s0 s1 s2
      have t := (Touch.refl w5 w1.heap.size (w1.heap.size + 1)).set w1.heap.size 2 (.slice D2 r.m d2) (Nat.le_refl _) (Nat.lt_succ_self _)
      obtain ⟨p1, p2, p3, p4, p5, p6, p7⟩ := HO5.out
      have n1 : 0 < r.n → g1 < w1.heap.size ∨ w1.heap.size + 1 ≤ g1 := fun h => Or.inl (N.out.1 h)
      have n2 : 0 < r.m → g3 < w1.heap.size ∨ w1.heap.size + 1 ≤ g3 := fun h => Or.inr (by have := N.out.2 h; omega)
      have HO6 : Owned (w5.setCell ⟨w1.heap.size, 2, none⟩ (.slice D2 r.m d2)) (w.heap.size + 1 + 1) w5.heap.size A1 D2 { r with v := r.v + r.Z 0, Z := upZ r } g1 g3 :=
        ⟨t.row p1 n1, t.free p2 (fun h => p1.lt (by have h' : 0 < r.n * 2 := h; show 0 < r.n; omega)) (fun h => n1 (by have h' : 0 < r.n * 2 := h; omega)), t.rowI p3 n2, t.free p4 (fun h => p3.lt h) n2, p5, p6, p7⟩
      have hs6 := t.size
      rw [HS.out]
      exact give_end (HB5.out.setCell (p := ⟨w1.heap.size, 2, none⟩) (by show w.heap.size ≤ w1.heap.size; omega) _) HO6 (by omega) (by omega) hs6 rfl rfl rfl hcd2
end Go.Proofs.Ytkaddacflblghaa.C1
