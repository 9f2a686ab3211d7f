/- SendTo, of the program and of its model. -/
import Derived.Test.YtlaffdfnmpkocaaRchW
namespace Go.Proofs.Ytlaffdfnmpkocaa.C1
open Go.ChangeShapes Go.WideShapes Go.ChangeAt Go.RowKit
set_option linter.unusedVariables false

theorem give_end {w w5 : World} {res : Nat} {r : Rc} {A D : Option Addr} {n m c d g1 g2 B L : Nat} {v : Int} {u0 u1 u2 : Value} (hB : Below w.heap.size w w5) (hO : Owned w5 B L A D r g1 g2) (h1 : w.heap.size ≤ res) (h2 : res < B) (hL : L ≤ w5.heap.size) (hn : r.n = n) (hm : r.m = m) (hv : r.v = v) (hcd : m ≤ d) :
    GivesR w r (.returned (.agg #[.slice A n c, .int .i64 v, .slice D m d])) (((w5.setCell ⟨res, 0, none⟩ u0).setCell ⟨res, 1, none⟩ u1).setCell ⟨res, 2, none⟩ u2) := by
  subst hn; subst hm; subst hv
  have HU := (((Touch.refl w5 res (res + 1)).set res 0 u0 (Nat.le_refl _) (Nat.lt_succ_self _)).set res 1 u1 (Nat.le_refl _) (Nat.lt_succ_self _)).set res 2 u2 (Nat.le_refl _) (Nat.lt_succ_self _)
  have hs := HU.size
  exact ⟨⟨A, c, D, d, g1, g2, rfl, hcd, (hO.touch HU (Or.inr (by omega))).wide (by omega) (by omega)⟩, HU.below hB h1⟩
theorem GivesR.drew {w w' : World} {r : Rc} {e : Ending} (h : GivesR w r e w') : GivesR w r e w'.drew := ⟨h.1, h.2.drew⟩
theorem addL_n (r : Rc) (a : Int) : (addL r a).n = r.n ∧ (addL r a).m = r.m := by unfold addL; split <;> exact ⟨rfl, rfl⟩
theorem sendR_n (r : Rc) (a : Int) : (sendR r a).n = r.n ∧ (sendR r a).m = r.m := by unfold sendR; split; · exact addL_n r a
                                                                                     · exact ⟨rfl, rfl⟩
theorem send_cases (r : Rc) (a : Int) : (rOk r = false ∧ sendR r a = r) ∨ (rOk r = true ∧ a < 0 ∧ sendR r a = r) ∨ (rOk r = true ∧ 0 ≤ a ∧ spaceR r < a ∧ sendR r a = r) ∨ (rOk r = true ∧ 0 ≤ a ∧ a ≤ spaceR r ∧ sendR r a = addL r a) := by
  cases h : rOk r with
  | false => exact .inl ⟨rfl, sendR_no (by unfold sendB; rw [h]; rfl)⟩
  | true =>
    by_cases h0 : a < 0
    · exact .inr (.inl ⟨rfl, h0, sendR_no (by unfold sendB; rw [h, inB_no (Or.inl h0)]; rfl)⟩)
    by_cases h1 : spaceR r < a
    · exact .inr (.inr (.inl ⟨rfl, by omega, h1, sendR_no (by unfold sendB; rw [h, inB_no (Or.inr h1)]; rfl)⟩))
    · exact .inr (.inr (.inr ⟨rfl, by omega, by omega, sendR_yes (by unfold sendB; rw [h, inB_yes (by omega) (by omega)]; rfl)⟩))
theorem send_bds {r : Rc} {a : Int} (h : rOk r = true) (h0 : 0 ≤ a) (h1 : a ≤ spaceR r) :
    0 ≤ r.v + a ∧ r.v + a ≤ 9223372036854775807 ∧ (0 < r.m → 0 ≤ r.Z (r.m - 1) + a ∧ r.Z (r.m - 1) + a ≤ 9223372036854775807) := by
  have H := rOk_iff.1 h
  have := H.v0
  have := H.v1
  have := (spaceR_bd r).2
  refine ⟨by omega, by omega, fun hm => ?_⟩
  have := H.z (r.m - 1) (by omega)
  omega
set_option maxRecDepth 100000 in
set_option maxHeartbeats 4000000 in
theorem send_impl (r : Rc) (A D : Option Addr) (c d : Nat) (a : Int) (w : World) (hn : r.n ≤ 1048576) (hm : r.m ≤ 1048576) (hp : Pts w A r.n r.X r.Y) (hd : Ints w D r.m r.Z) :
    Calls Try.prog 22 #[.agg #[.slice A r.n c, .int .i64 r.v, .slice D r.m d], .int .i64 a] w (GivesR w (sendR r a)) := by
  have HP := Lib.hid hp
  have HD := Lib.hid hd
  have HC := Lib.hid (send_cases r a)
  clear hp hd
  have HB0 := Lib.hid (((Below.refl w.heap.size w).alloc (Nat.le_refl _) (.cells #[.slice A r.n c, .int .i64 r.v, .slice D r.m d] 29)).alloc (by simp) (.cells #[.slice none 0 0, .int .i64 0, .slice none 0 0] 29))
  have hx0 := (Box.new w (.slice A r.n c) (.int .i64 r.v) (.slice D r.m d) 29).alloc (.cells #[.slice none 0 0, .int .i64 0, .slice none 0 0] 29)
  have hr0 := Box.new (w.alloc (.cells #[.slice A r.n c, .int .i64 r.v, .slice D r.m d] 29)) (.slice none 0 0) (.int .i64 0) (.slice none 0 0) 29
  simp at hr0
  have HX0 := Lib.hid hx0
  have HR0 := Lib.hid hr0
  clear hx0 hr0
  go_enter Try.func22, Try.ntmps22
  go_wp2_with fail
  refine (copy_impl r _ _ _ _ _ hn hm (HP.out.below HB0.out) (HD.out.below HB0.out)).mono ?_
  rintro e w1 ⟨⟨A1, c1, D1, d1, g1, g2, rfl, hcd, ho1⟩, hb1⟩
  have q1 : w.heap.size + 1 + 1 ≤ w1.heap.size := by have := hb1.size; simpa using this
  simp only [World.size_alloc] at ho1
  have HO1 := Lib.hid ho1
  have HB1 := Lib.hid (HB0.out.trans (hb1.mono (by simp; omega)))
  have HX1 := Lib.hid (HX0.out.below hb1)
  have HR1 := Lib.hid (HR0.out.below hb1)
  clear ho1 hb1
  go_wp2_with fail
  refine (basin_impl _ _ _ _ rfl rfl rfl _ _ _ _ _ _ _ rfl rfl rfl).mono ?_
  rintro e w2 ⟨rfl, hb2⟩
  have q2 : w1.heap.size ≤ w2.heap.size := hb2.size
  have HO2 := Lib.hid (HO1.out.below hb2)
  have HB2 := Lib.hid (HB1.out.trans (hb2.mono (by omega)))
  have HX2 := Lib.hid (HX1.out.below hb2)
  have HR2 := Lib.hid (HR1.out.below hb2)
  have hwl : w.heap.size < w2.heap.size := by omega
  obtain ⟨x0, x1, x2⟩ := HX2.out.at
  clear hb2
  go_wp2_with fail
  refine (ok_impl r _ _ _ _ _ hn hm ((HP.out.below HB2.out).alloc _) ((HD.out.below HB2.out).alloc _)).mono ?_
  rintro e w3 ⟨rfl, hb3⟩
  have hb3' := ((Below.refl w2.heap.size w2).alloc (Nat.le_refl _) (.cells #[.slice D1 r.m d1, .slice A1 r.n c1, .int .i64 r.v] 57)).trans (hb3.mono (by simp))
  have q3 : w2.heap.size < w3.heap.size := by have := hb3.size; simp at this; omega
  have HG3 := Lib.hid ((Box.new w2 (.slice D1 r.m d1) (.slice A1 r.n c1) (.int .i64 r.v) 57).below hb3)
  have HO3 := Lib.hid (HO2.out.below hb3')
  have HB3 := Lib.hid (HB2.out.trans (hb3'.mono (by omega)))
  have HX3 := Lib.hid (HX2.out.below hb3')
  have HR3 := Lib.hid (HR2.out.below hb3')
  clear hb3 hb3' x0 x1 x2 HO1 HO2 HX1 HX2 HR1 HR2
  rcases HC.out with ⟨h, hs⟩ | ⟨h, ha, hs⟩ | ⟨h, ha, ha', hs⟩ | ⟨h, ha, ha', hs⟩
  · have HS := Lib.hid hs
    rw [h]
    clear h hs
    obtain ⟨y0, y1, y2⟩ := HG3.out.at
    go_wp2_with fail
    refine (reach_of r _ _ _ _ _).mono ?_
    rintro e w4 ⟨rfl, hb4⟩
    have HR4 := Lib.hid (HR3.out.below hb4)
    have HO4 := Lib.hid (HO3.out.below hb4)
    have HB4 := Lib.hid (HB3.out.trans (hb4.mono (by omega)))
    have q4 := hb4.size
    clear y0 y1 y2 hb4
    obtain ⟨y0, y1, y2⟩ := HR4.out.at
    obtain ⟨s0, s1, s2⟩ := HR4.out.free
    go_wp2
    refine bodyPost_ret (v := .agg #[.slice A1 r.n c1, .int .i64 r.v, .slice D1 r.m d1]) (by simp [results, Try.results22, go_sem, y0, y1, y2]) rfl ?_
    rw [HS.out]
    exact give_end HB4.out HO4.out (by omega) (by omega) (by omega) rfl rfl rfl hcd
  · have HS := Lib.hid hs
    have a0 : decide (0 ≤ a) = false := decide_eq_false (by omega)
    rw [h]
    clear h hs
    obtain ⟨y0, y1, y2⟩ := HG3.out.at
    go_wp2_with fail
    refine (reach_of r _ _ _ _ _).mono ?_
    rintro e w4 ⟨rfl, hb4⟩
    have HR4 := Lib.hid (HR3.out.below hb4)
    have HO4 := Lib.hid (HO3.out.below hb4)
    have HB4 := Lib.hid (HB3.out.trans (hb4.mono (by omega)))
    have q4 := hb4.size
    clear y0 y1 y2 hb4
    obtain ⟨y0, y1, y2⟩ := HR4.out.at
    obtain ⟨s0, s1, s2⟩ := HR4.out.free
    go_wp2
    refine bodyPost_ret (v := .agg #[.slice A1 r.n c1, .int .i64 r.v, .slice D1 r.m d1]) (by simp [results, Try.results22, go_sem, y0, y1, y2]) rfl ?_
    rw [HS.out]
    exact give_end HB4.out HO4.out (by omega) (by omega) (by omega) rfl rfl rfl hcd
  · have HS := Lib.hid hs
    rw [h]
    clear h hs
    obtain ⟨x0, x1, x2⟩ := HX3.out.at
    go_wp2_with fail
    refine (space_impl r _ _ _ _ _ hn hm (HP.out.below HB3.out) (HD.out.below HB3.out)).mono ?_
    rintro e w4 ⟨rfl, hb4⟩
    have HR4 := Lib.hid (HR3.out.below hb4)
    have HO4 := Lib.hid (HO3.out.below hb4)
    have HG4 := Lib.hid (HG3.out.below hb4)
    have HB4 := Lib.hid (HB3.out.trans (hb4.mono (by omega)))
    have q4 := hb4.size
    clear x0 x1 x2 hb4
    obtain ⟨y0, y1, y2⟩ := HG4.out.at
    go_wp2_with fail
    refine (reach_of r _ _ _ _ _).mono ?_
    rintro e w5 ⟨rfl, hb5⟩
    have HR5 := Lib.hid (HR4.out.below hb5)
    have HO5 := Lib.hid (HO4.out.below hb5)
    have HB5 := Lib.hid (HB4.out.trans (hb5.mono (by omega)))
    have q5 := hb5.size
    clear y0 y1 y2 hb5
    obtain ⟨y0, y1, y2⟩ := HR5.out.at
    obtain ⟨s0, s1, s2⟩ := HR5.out.free
    go_wp2
    refine bodyPost_ret (v := .agg #[.slice A1 r.n c1, .int .i64 r.v, .slice D1 r.m d1]) (by simp [results, Try.results22, go_sem, y0, y1, y2]) rfl ?_
    rw [HS.out]
    exact give_end HB5.out HO5.out (by omega) (by omega) (by omega) rfl rfl rfl hcd
  · have HS := Lib.hid hs
    obtain ⟨e0, e1, e2⟩ := send_bds h ha ha'
    obtain ⟨en, em⟩ := addL_n r a
    have EN := Lib.hid en
    have EM := Lib.hid em
    have E2 := Lib.hid e2
    rw [h]
    clear h hs en em e2
    obtain ⟨x0, x1, x2⟩ := HX3.out.at
    go_wp2_with fail
    refine (space_impl r _ _ _ _ _ hn hm (HP.out.below HB3.out) (HD.out.below HB3.out)).mono ?_
    rintro e w4 ⟨rfl, hb4⟩
    have HR4 := Lib.hid (HR3.out.below hb4)
    have HO4 := Lib.hid (HO3.out.below hb4)
    have HG4 := Lib.hid (HG3.out.below hb4)
    have HB4 := Lib.hid (HB3.out.trans (hb4.mono (by omega)))
    have q4 := hb4.size
    clear x0 x1 x2 hb4
    go_wp2_with fail
    refine (receive r _ _ _ _ _ _ _ hm HG4.out HO4.out (by omega) (by omega) e0 e1 E2.out).mono ?_
    rintro e w5 ⟨rfl, hg5, ho5, ht5⟩
    have HR5 := Lib.hid (HR4.out.touch ht5 (Or.inl (by omega)))
    have HO5 := Lib.hid ho5
    have HG5 := Lib.hid hg5
    have HB5 := Lib.hid (ht5.below HB4.out (by omega))
    have q5 := ht5.size
    clear ho5 hg5 ht5
    obtain ⟨y0, y1, y2⟩ := HG5.out.at
    go_wp2_with fail
    have hre := reach_of { r with v := (addL r a).v } A1 D1 c1 d1 w5
    refine hre.mono ?_
    rintro e w6 ⟨rfl, hb6⟩
    have HR6 := Lib.hid (HR5.out.below hb6)
    have HO6 := Lib.hid (HO5.out.below hb6)
    have HB6 := Lib.hid (HB5.out.trans (hb6.mono (by omega)))
    have q6 := hb6.size
    clear y0 y1 y2 hb6 hre
    obtain ⟨y0, y1, y2⟩ := HR6.out.at
    obtain ⟨s0, s1, s2⟩ := HR6.out.free
    go_wp2
    refine bodyPost_ret (v := .agg #[.slice A1 r.n c1, .int .i64 (addL r a).v, .slice D1 r.m d1]) (by simp [results, Try.results22, go_sem, y0, y1, y2]) rfl ?_
    rw [HS.out]
    exact give_end HB6.out HO6.out (by omega) (by omega) (by omega) EN.out EM.out rfl hcd
set_option maxRecDepth 100000 in
set_option maxHeartbeats 4000000 in
theorem send_spec (r : Rc) (A D : Option Addr) (c d : Nat) (a : Int) (w : World) (hn : r.n ≤ 1048576) (hm : r.m ≤ 1048576) (hp : Pts w A r.n r.X r.Y) (hd : Ints w D r.m r.Z) :
    Calls Try.prog 17 #[.agg #[.slice A r.n c, .int .i64 r.v, .slice D r.m d], .int .i64 a] w (GivesR w (sendR r a)) := by
  have HP := Lib.hid hp
  have HD := Lib.hid hd
  have HC := Lib.hid (send_cases r a)
  clear hp hd
  have HB0 := Lib.hid (((Below.refl w.heap.size w).alloc (Nat.le_refl _) (.cells #[.slice A r.n c, .int .i64 r.v, .slice D r.m d] 29)).alloc (by simp) (.cells #[.slice none 0 0, .int .i64 0, .slice none 0 0] 29))
  have hx0 := (Box.new w (.slice A r.n c) (.int .i64 r.v) (.slice D r.m d) 29).alloc (.cells #[.slice none 0 0, .int .i64 0, .slice none 0 0] 29)
  have hr0 := Box.new (w.alloc (.cells #[.slice A r.n c, .int .i64 r.v, .slice D r.m d] 29)) (.slice none 0 0) (.int .i64 0) (.slice none 0 0) 29
  simp at hr0
  have HX0 := Lib.hid hx0
  have HR0 := Lib.hid hr0
  clear hx0 hr0
  go_enter Try.func17, Try.ntmps17
  go_wp2_with fail
  refine (copy_spec r _ _ _ _ _ hn hm (HP.out.below HB0.out) (HD.out.below HB0.out)).mono ?_
  rintro e w1 ⟨⟨A1, c1, D1, d1, g1, g2, rfl, hcd, ho1⟩, hb1⟩
  have q1 : w.heap.size + 1 + 1 ≤ w1.heap.size := by have := hb1.size; simpa using this
  simp only [World.size_alloc] at ho1
  have HO1 := Lib.hid ho1
  have HB1 := Lib.hid (HB0.out.trans (hb1.mono (by simp; omega)))
  have HX1 := Lib.hid (HX0.out.below hb1)
  have HR1 := Lib.hid (HR0.out.below hb1)
  clear ho1 hb1
  obtain ⟨x0, x1, x2⟩ := HX1.out.at
  have hwl : w.heap.size < w1.heap.size := by omega
  go_wp2_with fail
  refine (ok_spec r _ _ _ _ _ hn hm ((HP.out.below HB1.out).alloc _) ((HD.out.below HB1.out).alloc _)).mono ?_
  rintro e w3 ⟨rfl, hb3⟩
  have hb3' := ((Below.refl w1.heap.size w1).alloc (Nat.le_refl _) (.cells #[.slice A1 r.n c1, .int .i64 r.v, .slice D1 r.m d1] 29)).trans (hb3.mono (by simp))
  have q3 : w1.heap.size < w3.heap.size := by have := hb3.size; simp at this; omega
  have HG3 := Lib.hid ((Box.new w1 (.slice A1 r.n c1) (.int .i64 r.v) (.slice D1 r.m d1) 29).below hb3)
  have HO3 := Lib.hid (HO1.out.below hb3')
  have HB3 := Lib.hid (HB1.out.trans (hb3'.mono (by omega)))
  have HX3 := Lib.hid (HX1.out.below hb3')
  have HR3 := Lib.hid (HR1.out.below hb3')
  clear hb3 hb3' x0 x1 x2 HO1 HX1 HR1
  rcases HC.out with ⟨h, hs⟩ | ⟨h, ha, hs⟩ | ⟨h, ha, ha', hs⟩ | ⟨h, ha, ha', hs⟩
  · have HS := Lib.hid hs
    rw [h]
    clear h hs
    obtain ⟨x0, x1, x2⟩ := HG3.out.at
    have hgl := HG3.out.lt
    obtain ⟨y0, y1, y2⟩ := HR3.out.at
    obtain ⟨s0, s1, s2⟩ := HR3.out.free
    go_wp2
    refine bodyPost_ret (v := .agg #[.slice A1 r.n c1, .int .i64 (r.v), .slice D1 r.m d1]) (by simp [results, Try.results17, go_sem, y0, y1, y2]) rfl ?_
    rw [HS.out]
    exact give_end HB3.out HO3.out (by omega) (by omega) (by omega) rfl rfl rfl hcd
  · have HS := Lib.hid hs
    have HI := Lib.hid (inB_no (h := spaceR r) (Or.inl ha))
    rw [h]
    clear h hs
    obtain ⟨x0, x1, x2⟩ := HX3.out.at
    go_wp2_with fail
    refine (space_spec r _ _ _ _ _ hn hm (HP.out.below HB3.out) (HD.out.below HB3.out)).mono ?_
    rintro e w4 ⟨rfl, hb4⟩
    have HR4 := Lib.hid (HR3.out.below hb4)
    have HO4 := Lib.hid (HO3.out.below hb4)
    have HG4 := Lib.hid (HG3.out.below hb4)
    have HB4 := Lib.hid (HB3.out.trans (hb4.mono (by omega)))
    have q4 := hb4.size
    clear x0 x1 x2 hb4
    go_wp2_with fail
    refine (in_spec _ _ _ _).mono ?_
    rintro e w' ⟨rfl, rfl⟩
    rw [HI.out]
    obtain ⟨x0, x1, x2⟩ := HG4.out.at
    have hgl := HG4.out.lt
    obtain ⟨y0, y1, y2⟩ := HR4.out.at
    obtain ⟨s0, s1, s2⟩ := HR4.out.free
    go_wp2
    refine bodyPost_ret (v := .agg #[.slice A1 r.n c1, .int .i64 (r.v), .slice D1 r.m d1]) (by simp [results, Try.results17, go_sem, y0, y1, y2]) rfl ?_
    rw [HS.out]
    exact give_end HB4.out HO4.out (by omega) (by omega) (by omega) rfl rfl rfl hcd
  · have HS := Lib.hid hs
    have HI := Lib.hid (inB_no (l := 0) (Or.inr ha'))
    rw [h]
    clear h hs
    obtain ⟨x0, x1, x2⟩ := HX3.out.at
    go_wp2_with fail
    refine (space_spec r _ _ _ _ _ hn hm (HP.out.below HB3.out) (HD.out.below HB3.out)).mono ?_
    rintro e w4 ⟨rfl, hb4⟩
    have HR4 := Lib.hid (HR3.out.below hb4)
    have HO4 := Lib.hid (HO3.out.below hb4)
    have HG4 := Lib.hid (HG3.out.below hb4)
    have HB4 := Lib.hid (HB3.out.trans (hb4.mono (by omega)))
    have q4 := hb4.size
    clear x0 x1 x2 hb4
    go_wp2_with fail
    refine (in_spec _ _ _ _).mono ?_
    rintro e w' ⟨rfl, rfl⟩
    rw [HI.out]
    obtain ⟨x0, x1, x2⟩ := HG4.out.at
    have hgl := HG4.out.lt
    obtain ⟨y0, y1, y2⟩ := HR4.out.at
    obtain ⟨s0, s1, s2⟩ := HR4.out.free
    go_wp2
    refine bodyPost_ret (v := .agg #[.slice A1 r.n c1, .int .i64 (r.v), .slice D1 r.m d1]) (by simp [results, Try.results17, go_sem, y0, y1, y2]) rfl ?_
    rw [HS.out]
    exact give_end HB4.out HO4.out (by omega) (by omega) (by omega) rfl rfl rfl hcd
  · have HS := Lib.hid hs
    have HI := Lib.hid (inB_yes ha ha')
    obtain ⟨e0, e1, e2⟩ := send_bds h ha ha'
    have E2 := Lib.hid e2
    rw [h]
    clear h hs e2
    obtain ⟨x0, x1, x2⟩ := HX3.out.at
    go_wp2_with fail
    refine (space_spec r _ _ _ _ _ hn hm (HP.out.below HB3.out) (HD.out.below HB3.out)).mono ?_
    rintro e w4 ⟨rfl, hb4⟩
    have HR4 := Lib.hid (HR3.out.below hb4)
    have HO4 := Lib.hid (HO3.out.below hb4)
    have HG4 := Lib.hid (HG3.out.below hb4)
    have HB4 := Lib.hid (HB3.out.trans (hb4.mono (by omega)))
    have q4 := hb4.size
    clear x0 x1 x2 hb4
    go_wp2_with fail
    refine (in_spec _ _ _ _).mono ?_
    rintro e w' ⟨rfl, rfl⟩
    rw [HI.out]
    have hgl := HG4.out.lt
    by_cases hm0 : r.m = 0
    · have HM := Lib.hid hm0
      have b0 : ((r.m : Int) == 0) = true := by simp [hm0]
      have hne : w.heap.size + 1 ≠ w1.heap.size := by omega
      have HR5 := Lib.hid (HR4.out.far (g := w1.heap.size) (j := 1) (.int .i64 (r.v + a)) hne)
      have HO5 := Lib.hid (HO4.out.touch ((Touch.refl w4 w1.heap.size (w1.heap.size + 1)).set w1.heap.size 1 (.int .i64 (r.v + a)) (Nat.le_refl _) (Nat.lt_succ_self _)) (Or.inl (Nat.le_refl _)))
      have HB5 := Lib.hid (HB4.out.setCell (p := ⟨w1.heap.size, 1, none⟩) (by show w.heap.size ≤ w1.heap.size; omega) (.int .i64 (r.v + a)))
      clear hm0
      obtain ⟨x0, x1, x2⟩ := HG4.out.at
      obtain ⟨z0, z1, z2⟩ := HG4.out.free
      obtain ⟨y0, y1, y2⟩ := HR4.out.at
      obtain ⟨s0, s1, s2⟩ := HR4.out.free
      go_wp2
      refine bodyPost_ret (v := .agg #[.slice A1 r.n c1, .int .i64 (r.v + a), .slice D1 r.m d1]) (by simp [results, Try.results17, go_sem, y0, y1, y2]) rfl ?_
      rw [HS.out, addL_v HM.out]
      exact give_end HB5.out HO5.out (by omega) (by omega) (by simp; omega) rfl rfl rfl hcd
    · have hp : 0 < r.m := by omega
      obtain ⟨p1, p2⟩ := E2.out hp
      obtain ⟨p3, p4⟩ := HO4.out.2.2.2.2.2.1 hp
      obtain rfl := HO4.out.2.2.1.1 hp
      have i0 := HO4.out.2.2.1.2 (r.m - 1) (by omega)
      have i1 := HO4.out.2.2.2.1 (r.m - 1) (by omega)
      have a1 : IntKind.i64.wrap ((r.m : Int) - 1) = (r.m : Int) - 1 := IntWalk.i64_in _ (by omega)
      have a2 : ((r.m : Int) - 1).toNat = r.m - 1 := by omega
      have a3 : 1 ≤ (r.m : Int) := by omega
      have a4 : (r.m : Int) - 1 < (r.m : Int) := by omega
      have a5 : IntKind.i64.wrap (r.Z (r.m - 1) + a) = r.Z (r.m - 1) + a := IntWalk.i64_in _ (by omega)
      have b0 : ((r.m : Int) == 0) = false := by simp; omega
      have n1 : w.heap.size + 1 ≠ g2 := by omega
      have n2 : w1.heap.size ≠ g2 := by omega
      have HO5 := Lib.hid (HO4.out.setI (k := r.m - 1) (by omega) (r.Z (r.m - 1) + a))
      have HB5 := Lib.hid (HB4.out.setCell (p := ⟨g2, r.m - 1, none⟩) (by show w.heap.size ≤ g2; omega) (.int .i64 (r.Z (r.m - 1) + a)))
      have HZ := Lib.hid (addL_z' (a := a) hp)
      clear hm0
      obtain ⟨x0, x1, x2⟩ := HG4.out.at
      obtain ⟨y0, y1, y2⟩ := HR4.out.at
      obtain ⟨s0, s1, s2⟩ := HR4.out.free
      go_wp2
      go_still_tail 17, (by kernel_rfl)
      change wpList _ _ _ _ _ w4.drew
      go_wp2
      refine bodyPost_ret (v := .agg #[.slice A1 r.n c1, .int .i64 r.v, .slice (some ⟨g2, 0, none⟩) r.m d1]) (by simp [results, Try.results17, go_sem, y0, y1, y2]) rfl ?_
      rw [HS.out, HZ.out]
      exact (give_end HB5.out HO5.out (by omega) (by omega) (by simp; omega) rfl rfl rfl hcd).drew
end Go.Proofs.Ytlaffdfnmpkocaa.C1
