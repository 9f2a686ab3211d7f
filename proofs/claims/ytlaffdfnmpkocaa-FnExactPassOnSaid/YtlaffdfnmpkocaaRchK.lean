/- TakeOff, of the program and of its model. -/
import Derived.Test.YtlaffdfnmpkocaaRchT
namespace Go.Proofs.Ytlaffdfnmpkocaa.C1
open Go.ChangeShapes Go.WideShapes Go.ChangeAt Go.RowKit
set_option linter.unusedVariables false

/-- What a function that gives a reach and a number leaves. -/
def GivesRI (w : World) (r : Rc) (k : Int) (e : Ending) (w' : World) : Prop :=
  (∃ A c D d g1 g2, e = .returned (.tuple #[.agg #[.slice A r.n c, .int .i64 r.v, .slice D r.m d], .int .i64 k]) ∧ r.m ≤ d ∧ Owned w' w.heap.size w'.heap.size A D r g1 g2) ∧ Below w.heap.size w w'
theorem give_end2 {w w5 : World} {res : Nat} {r : Rc} {A D : Option Addr} {n m c d g1 g2 B L : Nat} {v k k' : Int} {u0 u1 u2 : Value} (hB : Below w.heap.size w w5) (hO : Owned w5 B L A D r g1 g2) (h1 : w.heap.size ≤ res) (h2 : res < B) (hL : L ≤ w5.heap.size) (hn : r.n = n) (hm : r.m = m) (hv : r.v = v) (hcd : m ≤ d) (hk : k = k') :
    GivesRI w r k (.returned (.tuple #[.agg #[.slice A n c, .int .i64 v, .slice D m d], .int .i64 k'])) (((w5.setCell ⟨res, 0, none⟩ u0).setCell ⟨res, 1, none⟩ u1).setCell ⟨res, 2, none⟩ u2) := by
  subst hn; subst hm; subst hv; subst hk
  have HU := (((Touch.refl w5 res (res + 1)).set res 0 u0 (Nat.le_refl _) (Nat.lt_succ_self _)).set res 1 u1 (Nat.le_refl _) (Nat.lt_succ_self _)).set res 2 u2 (Nat.le_refl _) (Nat.lt_succ_self _)
  have hs := HU.size
  exact ⟨⟨A, c, D, d, g1, g2, rfl, hcd, (hO.touch HU (Or.inr (by omega))).wide (by omega) (by omega)⟩, HU.below hB h1⟩
theorem take_cases (r : Rc) (a k : Int) : (rOk r = false ∧ takeR r a k = r ∧ takeA r a k = 0) ∨ (rOk r = true ∧ a < 0 ∧ takeR r a k = r ∧ takeA r a k = 0) ∨ (rOk r = true ∧ 0 ≤ a ∧ k < 0 ∧ takeR r a k = r ∧ takeA r a k = 0) ∨
    (rOk r = true ∧ 0 ≤ a ∧ 0 ≤ k ∧ takeB r a k = true) := by
  cases h : rOk r with
  | false =>
    have hb : takeB r a k = false := by unfold takeB; rw [h]; rfl
    exact .inl ⟨rfl, takeR_no hb, takeA_no hb⟩
  | true =>
    by_cases h0 : a < 0
    · have hb : takeB r a k = false := by unfold takeB; rw [h, show decide (0 ≤ a) = false from decide_eq_false (by omega)]; rfl
      exact .inr (.inl ⟨rfl, h0, takeR_no hb, takeA_no hb⟩)
    by_cases h1 : k < 0
    · have hb : takeB r a k = false := by unfold takeB; rw [h, show decide (0 ≤ k) = false from decide_eq_false (by omega), Bool.and_false]; rfl
      exact .inr (.inr (.inl ⟨rfl, by omega, h1, takeR_no hb, takeA_no hb⟩))
    · exact .inr (.inr (.inr ⟨rfl, by omega, by omega, by unfold takeB; rw [h, show decide (0 ≤ a) = true from decide_eq_true (by omega), show decide (0 ≤ k) = true from decide_eq_true (by omega)]; rfl⟩))
theorem take_min {r : Rc} {a k : Int} (h : takeB r a k = true) : takeA r a k = max 0 (min a (r.v - k)) := by
  have := (show 0 ≤ a from by unfold takeB at h; simp only [Bool.and_eq_true, decide_eq_true_eq] at h; exact h.2.1)
  rw [takeA_yes h]; omega
theorem reach_raw (A D : Option Addr) (c d n m : Nat) (v : Int) (w : World) :
    Calls Try.prog 36 #[.agg #[.slice D m d, .slice A n c, .int .i64 v]] w fun e w' => e = .returned (.agg #[.slice A n c, .int .i64 v, .slice D m d]) ∧ Below w.heap.size w w' := reach_of ⟨n, fun _ => 0, fun _ => 0, v, m, fun _ => 0⟩ A D c d w
set_option maxRecDepth 100000 in
set_option maxHeartbeats 4000000 in
theorem take_impl (r : Rc) (A D : Option Addr) (c d : Nat) (a k : Int) (w : World) (hn : r.n ≤ 1048576) (hm : r.m ≤ 1048576) (hk : k ≤ 9223372036854775807) (hp : Pts w A r.n r.X r.Y) (hd : Ints w D r.m r.Z) :
    Calls Try.prog 20 #[.agg #[.slice A r.n c, .int .i64 r.v, .slice D r.m d], .int .i64 a, .int .i64 k] w (GivesRI w (takeR r a k) (takeA r a k)) := by
  have HP := Lib.hid hp
  have HD := Lib.hid hd
  have HC := Lib.hid (take_cases r a k)
  clear hp hd
  have HB0 := Lib.hid (((Below.refl w.heap.size w).alloc (Nat.le_refl _) (.cells #[.slice A r.n c, .int .i64 r.v, .slice D r.m d] 29)).alloc (by simp) (.cells #[.slice none 0 0, .int .i64 0, .slice none 0 0] 29))
  have hx0 := (Box.new w (.slice A r.n c) (.int .i64 r.v) (.slice D r.m d) 29).alloc (.cells #[.slice none 0 0, .int .i64 0, .slice none 0 0] 29)
  have hr0 := Box.new (w.alloc (.cells #[.slice A r.n c, .int .i64 r.v, .slice D r.m d] 29)) (.slice none 0 0) (.int .i64 0) (.slice none 0 0) 29
  simp at hr0
  have HX0 := Lib.hid hx0
  have HR0 := Lib.hid hr0
  clear hx0 hr0
  go_enter Try.func20, Try.ntmps20
  go_wp2_with fail
  refine (copy_impl r _ _ _ _ _ hn hm (HP.out.below HB0.out) (HD.out.below HB0.out)).mono ?_
  rintro e w1 ⟨⟨A1, c1, D1, d1, g1, g2, rfl, hcd, ho1⟩, hb1⟩
  have q1 : w.heap.size + 1 + 1 ≤ w1.heap.size := by have := hb1.size; simpa using this
  simp only [World.size_alloc] at ho1
  have HO1 := Lib.hid ho1
  have HB1 := Lib.hid (HB0.out.trans (hb1.mono (by simp; omega)))
  have HX1 := Lib.hid (HX0.out.below hb1)
  have HR1 := Lib.hid (HR0.out.below hb1)
  clear ho1 hb1
  go_wp2_with fail
  refine (basin_impl _ _ _ _ rfl rfl rfl _ _ _ _ _ _ _ rfl rfl rfl).mono ?_
  rintro e w2 ⟨rfl, hb2⟩
  have q2 : w1.heap.size ≤ w2.heap.size := hb2.size
  have HO2 := Lib.hid (HO1.out.below hb2)
  have HB2 := Lib.hid (HB1.out.trans (hb2.mono (by omega)))
  have HX2 := Lib.hid (HX1.out.below hb2)
  have HR2 := Lib.hid (HR1.out.below hb2)
  have hwl : w.heap.size < w2.heap.size := by omega
  obtain ⟨x0, x1, x2⟩ := HX2.out.at
  clear hb2 HO1 HX1 HR1
  go_wp2_with fail
  refine (ok_impl r _ _ _ _ _ hn hm ((HP.out.below HB2.out).alloc _) ((HD.out.below HB2.out).alloc _)).mono ?_
  rintro e w3 ⟨rfl, hb3⟩
  have hb3' := ((Below.refl w2.heap.size w2).alloc (Nat.le_refl _) (.cells #[.slice D1 r.m d1, .slice A1 r.n c1, .int .i64 r.v] 57)).trans (hb3.mono (by simp))
  have q3 : w2.heap.size < w3.heap.size := by have := hb3.size; simp at this; omega
  have HG3 := Lib.hid ((Box.new w2 (.slice D1 r.m d1) (.slice A1 r.n c1) (.int .i64 r.v) 57).below hb3)
  have HO3 := Lib.hid (HO2.out.below hb3')
  have HB3 := Lib.hid (HB2.out.trans (hb3'.mono (by omega)))
  have HX3 := Lib.hid (HX2.out.below hb3')
  have HR3 := Lib.hid (HR2.out.below hb3')
  clear hb3 hb3' x0 x1 x2 HO2 HX2 HR2
  rcases HC.out with ⟨h, hs, ht⟩ | ⟨h, ha, hs, ht⟩ | ⟨h, ha, hk0, hs, ht⟩ | ⟨h, ha, hk0, hs⟩
  · have HS := Lib.hid (And.intro hs ht)
    rw [h]
    clear h hs ht
    obtain ⟨x0, x1, x2⟩ := HG3.out.at
    have hgl := HG3.out.lt
    go_wp2_with fail
    refine (reach_of r _ _ _ _ _).mono ?_
    rintro e w4 ⟨rfl, hb4⟩
    have HR4 := Lib.hid (HR3.out.below hb4)
    have HO4 := Lib.hid (HO3.out.below hb4)
    have HB4 := Lib.hid (HB3.out.trans (hb4.mono (by omega)))
    have q4 := hb4.size
    clear x0 x1 x2 hb4
    obtain ⟨y0, y1, y2⟩ := HR4.out.at
    obtain ⟨s0, s1, s2⟩ := HR4.out.free
    go_wp2
    refine bodyPost_ret (v := .tuple #[.agg #[.slice A1 r.n c1, .int .i64 (r.v), .slice D1 r.m d1], .int .i64 (0)]) (by simp [results, Try.results20, go_sem, y0, y1, y2]) rfl ?_
    rw [HS.out.1, HS.out.2]
    exact give_end2 HB4.out HO4.out (by omega) (by omega) (by omega) rfl rfl rfl hcd rfl
  · have HS := Lib.hid (And.intro hs ht)
    rw [h]
    clear h hs ht
    obtain ⟨x0, x1, x2⟩ := HG3.out.at
    have hgl := HG3.out.lt
    go_wp2_with fail
    refine (reach_of r _ _ _ _ _).mono ?_
    rintro e w4 ⟨rfl, hb4⟩
    have HR4 := Lib.hid (HR3.out.below hb4)
    have HO4 := Lib.hid (HO3.out.below hb4)
    have HB4 := Lib.hid (HB3.out.trans (hb4.mono (by omega)))
    have q4 := hb4.size
    clear x0 x1 x2 hb4
    obtain ⟨y0, y1, y2⟩ := HR4.out.at
    obtain ⟨s0, s1, s2⟩ := HR4.out.free
    go_wp2
    refine bodyPost_ret (v := .tuple #[.agg #[.slice A1 r.n c1, .int .i64 (r.v), .slice D1 r.m d1], .int .i64 (0)]) (by simp [results, Try.results20, go_sem, y0, y1, y2]) rfl ?_
    rw [HS.out.1, HS.out.2]
    exact give_end2 HB4.out HO4.out (by omega) (by omega) (by omega) rfl rfl rfl hcd rfl
  · have HS := Lib.hid (And.intro hs ht)
    rw [h]
    clear h hs ht
    obtain ⟨x0, x1, x2⟩ := HG3.out.at
    have hgl := HG3.out.lt
    go_wp2_with fail
    refine (reach_of r _ _ _ _ _).mono ?_
    rintro e w4 ⟨rfl, hb4⟩
    have HR4 := Lib.hid (HR3.out.below hb4)
    have HO4 := Lib.hid (HO3.out.below hb4)
    have HB4 := Lib.hid (HB3.out.trans (hb4.mono (by omega)))
    have q4 := hb4.size
    clear x0 x1 x2 hb4
    obtain ⟨y0, y1, y2⟩ := HR4.out.at
    obtain ⟨s0, s1, s2⟩ := HR4.out.free
    go_wp2
    refine bodyPost_ret (v := .tuple #[.agg #[.slice A1 r.n c1, .int .i64 (r.v), .slice D1 r.m d1], .int .i64 (0)]) (by simp [results, Try.results20, go_sem, y0, y1, y2]) rfl ?_
    rw [HS.out.1, HS.out.2]
    exact give_end2 HB4.out HO4.out (by omega) (by omega) (by omega) rfl rfl rfl hcd rfl
  · have HT := Lib.hid (take_min hs)
    have v0 := (rOk_iff.1 h).v0
    have v1 := (rOk_iff.1 h).v1
    rw [h]
    clear h hs
    have hne : w.heap.size + 1 ≠ w2.heap.size := by omega
    obtain ⟨z0, z1, z2⟩ := HG3.out.free
    obtain ⟨x0, x1, x2⟩ := HG3.out.at
    have hgl := HG3.out.lt
    obtain ⟨u0, u1, u2⟩ := HX3.out.at
    go_wp2_with fail
    all_goals
      refine (reach_raw _ _ _ _ _ _ _ _).mono ?_
      rintro e w5 ⟨rfl, hb5⟩
      have HR5 := Lib.hid ((HR3.out.far (g := w2.heap.size) (j := 2) _ hne).below hb5)
      have ht := (Touch.refl w3 w2.heap.size (w2.heap.size + 1)).set w2.heap.size 2
      have HO5 := Lib.hid ((HO3.out.touch (ht _ (Nat.le_refl _) (Nat.lt_succ_self _)) (Or.inl (by omega))).below hb5)
      have HB5 := Lib.hid ((HB3.out.setCell (p := ⟨w2.heap.size, 2, none⟩) (by show w.heap.size ≤ w2.heap.size; omega) _).trans (hb5.mono (by simp; omega)))
      have q5 : w3.heap.size ≤ w5.heap.size := by have := hb5.size; simpa using this
      clear hb5 ht x0 x1 x2 u0 u1 u2 z0 z1 z2
      obtain ⟨y0, y1, y2⟩ := HR5.out.at
      obtain ⟨s0, s1, s2⟩ := HR5.out.free
      go_wp2
      refine bodyPost_ret (v := .tuple #[.agg #[.slice A1 r.n c1, .int .i64 _, .slice D1 r.m d1], .int .i64 _]) (by simp [results, Try.results20, go_sem, y0, y1, y2]; exact ⟨rfl, rfl⟩) rfl ?_
      exact give_end2 HB5.out (r := takeR r a k) HO5.out (by omega) (by omega) (by omega) rfl rfl (by show r.v - takeA r a k = _; rw [HT.out]; omega) hcd (by rw [HT.out]; omega)
set_option maxRecDepth 100000 in
set_option maxHeartbeats 4000000 in
theorem take_spec (r : Rc) (A D : Option Addr) (c d : Nat) (a k : Int) (w : World) (hn : r.n ≤ 1048576) (hm : r.m ≤ 1048576) (hk : k ≤ 9223372036854775807) (hp : Pts w A r.n r.X r.Y) (hd : Ints w D r.m r.Z) :
    Calls Try.prog 15 #[.agg #[.slice A r.n c, .int .i64 r.v, .slice D r.m d], .int .i64 a, .int .i64 k] w (GivesRI w (takeR r a k) (takeA r a k)) := by
  have HP := Lib.hid hp
  have HD := Lib.hid hd
  have HC := Lib.hid (take_cases r a k)
  clear hp hd
  have HB0 := Lib.hid (((Below.refl w.heap.size w).alloc (Nat.le_refl _) (.cells #[.slice A r.n c, .int .i64 r.v, .slice D r.m d] 29)).alloc (by simp) (.cells #[.slice none 0 0, .int .i64 0, .slice none 0 0] 29))
  have hx0 := (Box.new w (.slice A r.n c) (.int .i64 r.v) (.slice D r.m d) 29).alloc (.cells #[.slice none 0 0, .int .i64 0, .slice none 0 0] 29)
  have hr0 := Box.new (w.alloc (.cells #[.slice A r.n c, .int .i64 r.v, .slice D r.m d] 29)) (.slice none 0 0) (.int .i64 0) (.slice none 0 0) 29
  simp at hr0
  have HX0 := Lib.hid hx0
  have HR0 := Lib.hid hr0
  clear hx0 hr0
  go_enter Try.func15, Try.ntmps15
  go_wp2_with fail
  refine (copy_spec r _ _ _ _ _ hn hm (HP.out.below HB0.out) (HD.out.below HB0.out)).mono ?_
  rintro e w1 ⟨⟨A1, c1, D1, d1, g1, g2, rfl, hcd, ho1⟩, hb1⟩
  have q1 : w.heap.size + 1 + 1 ≤ w1.heap.size := by have := hb1.size; simpa using this
  simp only [World.size_alloc] at ho1
  have HO1 := Lib.hid ho1
  have HB1 := Lib.hid (HB0.out.trans (hb1.mono (by simp; omega)))
  have HX1 := Lib.hid (HX0.out.below hb1)
  have HR1 := Lib.hid (HR0.out.below hb1)
  clear ho1 hb1
  obtain ⟨x0, x1, x2⟩ := HX1.out.at
  have hwl : w.heap.size < w1.heap.size := by omega
  go_wp2_with fail
  refine (ok_spec r _ _ _ _ _ hn hm ((HP.out.below HB1.out).alloc _) ((HD.out.below HB1.out).alloc _)).mono ?_
  rintro e w3 ⟨rfl, hb3⟩
  have hb3' := ((Below.refl w1.heap.size w1).alloc (Nat.le_refl _) (.cells #[.slice A1 r.n c1, .int .i64 r.v, .slice D1 r.m d1] 29)).trans (hb3.mono (by simp))
  have q3 : w1.heap.size < w3.heap.size := by have := hb3.size; simp at this; omega
  have HG3 := Lib.hid ((Box.new w1 (.slice A1 r.n c1) (.int .i64 r.v) (.slice D1 r.m d1) 29).below hb3)
  have HO3 := Lib.hid (HO1.out.below hb3')
  have HB3 := Lib.hid (HB1.out.trans (hb3'.mono (by omega)))
  have HX3 := Lib.hid (HX1.out.below hb3')
  have HR3 := Lib.hid (HR1.out.below hb3')
  clear hb3 hb3' x0 x1 x2 HO1 HX1 HR1
  rcases HC.out with ⟨h, hs, ht⟩ | ⟨h, ha, hs, ht⟩ | ⟨h, ha, hk0, hs, ht⟩ | ⟨h, ha, hk0, hs⟩
  · have HS := Lib.hid (And.intro hs ht)
    rw [h]
    clear h hs ht
    obtain ⟨x0, x1, x2⟩ := HG3.out.at
    have hgl := HG3.out.lt
    obtain ⟨y0, y1, y2⟩ := HR3.out.at
    obtain ⟨s0, s1, s2⟩ := HR3.out.free
    go_wp2
    refine bodyPost_ret (v := .tuple #[.agg #[.slice A1 r.n c1, .int .i64 (r.v), .slice D1 r.m d1], .int .i64 (0)]) (by simp [results, Try.results15, go_sem, y0, y1, y2]) rfl ?_
    rw [HS.out.1, HS.out.2]
    exact give_end2 HB3.out HO3.out (by omega) (by omega) (by omega) rfl rfl rfl hcd rfl
  · have HS := Lib.hid (And.intro hs ht)
    rw [h]
    clear h hs ht
    obtain ⟨x0, x1, x2⟩ := HG3.out.at
    have hgl := HG3.out.lt
    obtain ⟨y0, y1, y2⟩ := HR3.out.at
    obtain ⟨s0, s1, s2⟩ := HR3.out.free
    go_wp2
    refine bodyPost_ret (v := .tuple #[.agg #[.slice A1 r.n c1, .int .i64 (r.v), .slice D1 r.m d1], .int .i64 (0)]) (by simp [results, Try.results15, go_sem, y0, y1, y2]) rfl ?_
    rw [HS.out.1, HS.out.2]
    exact give_end2 HB3.out HO3.out (by omega) (by omega) (by omega) rfl rfl rfl hcd rfl
  · have HS := Lib.hid (And.intro hs ht)
    rw [h]
    clear h hs ht
    obtain ⟨x0, x1, x2⟩ := HG3.out.at
    have hgl := HG3.out.lt
    obtain ⟨y0, y1, y2⟩ := HR3.out.at
    obtain ⟨s0, s1, s2⟩ := HR3.out.free
    go_wp2
    refine bodyPost_ret (v := .tuple #[.agg #[.slice A1 r.n c1, .int .i64 (r.v), .slice D1 r.m d1], .int .i64 (0)]) (by simp [results, Try.results15, go_sem, y0, y1, y2]) rfl ?_
    rw [HS.out.1, HS.out.2]
    exact give_end2 HB3.out HO3.out (by omega) (by omega) (by omega) rfl rfl rfl hcd rfl
  · have HT := Lib.hid (take_min hs)
    have v0 := (rOk_iff.1 h).v0
    have v1 := (rOk_iff.1 h).v1
    rw [h]
    clear h hs
    have hne : w.heap.size + 1 ≠ w1.heap.size := by omega
    obtain ⟨z0, z1, z2⟩ := HG3.out.free
    obtain ⟨x0, x1, x2⟩ := HG3.out.at
    have hgl := HG3.out.lt
    obtain ⟨u0, u1, u2⟩ := HX3.out.at
    obtain ⟨y0, y1, y2⟩ := HR3.out.at
    obtain ⟨s0, s1, s2⟩ := HR3.out.free
    go_wp2
    all_goals
      have ht := (Touch.refl w3 w1.heap.size (w1.heap.size + 1)).set w1.heap.size 1
      refine bodyPost_ret (v := .tuple #[.agg #[.slice A1 r.n c1, .int .i64 _, .slice D1 r.m d1], .int .i64 _]) (by simp [results, Try.results15, go_sem, y0, y1, y2]; exact ⟨rfl, rfl⟩) rfl ?_
      exact give_end2 (HB3.out.setCell (p := ⟨w1.heap.size, 1, none⟩) (by show w.heap.size ≤ w1.heap.size; omega) _) (r := takeR r a k) (HO3.out.touch (ht _ (Nat.le_refl _) (Nat.lt_succ_self _)) (Or.inl (by omega))) (by omega) (by omega) (by simp; omega) rfl rfl (by show r.v - takeA r a k = _; rw [HT.out]; omega) hcd (by rw [HT.out]; omega)
end Go.Proofs.Ytlaffdfnmpkocaa.C1
