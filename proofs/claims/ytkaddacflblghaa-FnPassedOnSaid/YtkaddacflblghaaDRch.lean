/- The drawn reach. -/
import Derived.Test.YtkaddacflblghaaDTab
import Derived.Test.YtkaddacflblghaaNewS
import Derived.Test.YtkaddacflblghaaRchF
import Derived.Test.YtkaddacflblghaaPassM
namespace Go.Proofs.Ytkaddacflblghaa.C1
open Go.ChangeShapes Go.WideShapes Go.ChangeAt Go.RowKit
set_option linter.unusedVariables false

theorem Drawn.touch {p : Nat} {a b : World} (h : Drawn p a b) : Touch a b p (p + 1) := ⟨h.1.os, h.1.tape, h.1.output, h.2.2.1, fun k hk ho => by
  rcases ho with ho | ho
  · exact h.1.block k ho
  · exact h.2.1 k (by omega) hk⟩
theorem Drawn.of_below {p : Nat} {a b c : World} (h : Drawn p a b) (hb : Below b.heap.size b c) : Drawn p a c :=
  ⟨⟨hb.os.trans h.1.os, hb.tape.trans h.1.tape, hb.output.trans h.1.output, Nat.le_trans h.1.size hb.size, fun k hk => (hb.block k (by have := h.2.2.2.lt; omega)).trans (h.1.block k hk)⟩,
    fun k h1 h2 => (hb.block k (Nat.lt_of_lt_of_le h2 h.2.2.1)).trans (h.2.1 k h1 h2), Nat.le_trans h.2.2.1 hb.size, h.2.2.2.below hb⟩
theorem Drawn.fill {p : Nat} {a b : World} {g : Nat} {u0 u1 u2 : Value} (h : Drawn p a b) (hg : a.heap.size ≤ g) (hp : p < a.heap.size) : Drawn p a (((b.setCell ⟨g, 0, none⟩ u0).setCell ⟨g, 1, none⟩ u1).setCell ⟨g, 2, none⟩ u2) := by
  have hs : ∀ {x : World} {j : Nat} {u : Value}, Drawn p a x → Drawn p a (x.setCell ⟨g, j, none⟩ u) := fun h => by
    have hne : ∀ k, k < a.heap.size → k ≠ g := fun k hk => by omega
    refine ⟨⟨h.1.os, h.1.tape, h.1.output, by simpa using h.1.size, fun k hk => (heap_other (hne k (by omega))).trans (h.1.block k hk)⟩, fun k h1 h2 => (heap_other (hne k h2)).trans (h.2.1 k h1 h2), by simpa using h.2.2.1, h.2.2.2.keep fun k hk => heap_other (hne k (by omega))⟩
  exact hs (hs (hs h))
theorem Owned.drawn {p : Nat} {a b : World} {B L g1 g2 : Nat} {A D : Option Addr} {r : Rc} (h : Owned a B L A D r g1 g2) (hd : Drawn p a b) (hp : p < B) : Owned b B L A D r g1 g2 := h.touch hd.touch (Or.inr (by omega))
theorem BoxR.drawn {w w' : World} {b p : Nat} {x y z : Value} {t : TypeId} (h : Box w b x y z t) (hd : Drawn p w w') (hb : b ≠ p) : Box w' b x y z t := (hd.heap hb h.lt).trans h
theorem Drawn.left {p : Nat} {a b : World} (h : Drawn p a.drew b) : Drawn p a b := ⟨⟨h.1.os, h.1.tape, h.1.output, h.1.size, h.1.block⟩, h.2.1, h.2.2.1, h.2.2.2⟩
theorem below_left {B : Nat} {a b : World} (h : Below B a.drew b) : Below B a b := ⟨h.os, h.tape, h.output, h.size, h.block⟩
theorem pts_touch {w w' : World} {A : Option Addr} {n g B L : Nat} {X Y : Nat → Int} (h : Pts w A n X Y) (t : Touch w w' B L) (e : A = some ⟨g, 0, none⟩) (ho : g < B ∨ L ≤ g) : Pts w' A n X Y := fun hn => by
  obtain ⟨g', o, e', hc⟩ := h hn
  have eg : g = g' := by rw [e] at e'; injection e' with e'; injection e' with e1
  subst eg
  have hl : g < w.heap.size := World.block_lt_of_cell? _ _ (hc 0 hn).1
  exact ⟨g, o, e', fun i hi => ⟨(World.cell?_of_block (t.block g hl ho)).trans (hc i hi).1, (World.cell?_of_block (t.block g hl ho)).trans (hc i hi).2⟩⟩
/-- What is known of a drawn reach. -/
structure RD (r : Rc) (M : Int) : Prop where
  ok : rOk r = true
  n : r.n ≤ 20
  m : r.m ≤ 3
  t : totZ r ≤ M
theorem newC_ok {n d : Nat} {X Y : Nat → Int} {level : Int} (ht : tabOk n X Y = true) (hd : d ≤ 3) (hy : Y (n - 1) ≤ 100000) : RD (newC n X Y level d) 100000 := by
  have T := tabP_of ht
  have t2 := T.two
  have hz : ∀ k, sumZ (fun _ => (0 : Int)) k = 0 := fun k => by induction k with
    | zero => rfl
    | succ k ih => show sumZ (fun _ => (0 : Int)) k + 0 = 0; omega
  have hv : 0 ≤ valZ n X Y level ∧ valZ n X Y level ≤ Y (n - 1) := by
    have y0 := T.y 0 (by omega)
    have hm := valZ_mono ht (u := X 0) (v := X (n - 1)) (Int.le_refl _) (by have := T.x_lt (i := 0) (j := n - 1) (by omega) (by omega); omega) (Int.le_refl _)
    rw [valZ_at ht (by omega), valZ_at ht (by omega)] at hm
    by_cases h1 : level ≤ X 0
    · rw [valZ_low ht h1]; omega
    · by_cases h2 : X (n - 1) ≤ level
      · rw [valZ_high ht (by omega) h2]; omega
      · have m1 := valZ_mono ht (u := X 0) (v := level) (Int.le_refl _) (by omega) (by omega)
        have m2 := valZ_mono ht (u := level) (v := X (n - 1)) (by omega) (by omega) (Int.le_refl _)
        rw [valZ_at ht (by omega)] at m1 m2
        omega
  have ht0 : totZ (newC n X Y level d) = valZ n X Y level := by show valZ n X Y level + sumZ (fun _ => (0 : Int)) d = _; rw [hz]; omega
  exact ⟨rOk_iff.2 ⟨ht, hv.1, by show valZ n X Y level ≤ _; omega, by show d ≤ 12; omega, fun i hi => ⟨Int.le_refl _, by show (0 : Int) ≤ 1000000000; omega⟩, by rw [ht0]; omega⟩, T.most, hd, by rw [ht0]; omega⟩
theorem send_d {r : Rc} {a m : Int} (h : RD r m) (h0 : 0 ≤ a) (h1 : a ≤ 299) (hm : m ≤ 1000000) : RD (sendR r a) (m + 299) := by
  have H := rOk_iff.1 h.ok
  have hs : a ≤ spaceR r := by rw [spaceR_of h.ok]; have := h.t; omega
  have e : sendR r a = addL r a := sendR_yes (by unfold sendB; rw [h.ok, inB_yes h0 hs]; rfl)
  rw [e]
  exact ⟨addL_ok h.ok h0 hs, by rw [(addL_n r a).1]; exact h.n, by rw [(addL_n r a).2]; exact h.m, by rw [addL_tot]; have := h.t; omega⟩
theorem flow_d {r : Rc} {m : Int} (h : RD r m) : RD (flowR r) m := by
  have e : flowR r = flowC r := by unfold flowR; rw [if_pos h.ok]
  have n1 := flowR_n r
  exact ⟨by rw [e]; exact flowC_ok h.ok, by rw [n1.1]; exact h.n, by rw [n1.2]; exact h.m, by rw [e, flowC_tot]; exact h.t⟩
def ReachDrawn (p : Nat) (w : World) (e : Ending) (w' : World) : Prop :=
  ∃ (r : Rc) (A : Option Addr) (c : Nat) (D : Option Addr) (d g1 g2 : Nat), e = .returned (.agg #[.slice A r.n c, .int .i64 r.v, .slice D r.m d]) ∧ RD r 101000 ∧ r.m ≤ d ∧ Owned w' w.heap.size w'.heap.size A D r g1 g2 ∧ Drawn p w w'
/-- A reach in a box of the call's own. -/
def Kept1 (w wr : World) (b : Nat) (r : Rc) : Prop := ∃ A c D d g1 g2 B L, Box wr b (.slice A r.n c) (.int .i64 r.v) (.slice D r.m d) 29 ∧ r.m ≤ d ∧ Owned wr B L A D r g1 g2 ∧ w.heap.size + 1 ≤ B ∧ L ≤ wr.heap.size ∧ (b < B ∨ L ≤ b)
theorem Kept1.drawn {w wr w' : World} {b p : Nat} {r : Rc} (h : Kept1 w wr b r) (hd : Drawn p wr w') (hb : p < b) (hp : p < w.heap.size) : Kept1 w w' b r := by
  obtain ⟨A, c, D, d, g1, g2, B, L, h1, h2, h3, h4, h5, h6⟩ := h
  exact ⟨A, c, D, d, g1, g2, B, L, BoxR.drawn h1 hd (by omega), h2, h3.drawn hd (by omega), h4, Nat.le_trans h5 hd.2.2.1, h6⟩
theorem kept_fill {w w7 : World} {b : Nat} {r : Rc} {A D : Option Addr} {n m c d g1 g2 B L : Nat} {v : Int} {x y z : Value} (hx : Box w7 b x y z 29) (hO : Owned w7 B L A D r g1 g2) (hB : w.heap.size + 1 ≤ B) (hL : L ≤ w7.heap.size) (hb : b < B ∨ L ≤ b) (hcd : m ≤ d) (en : r.n = n) (em : r.m = m) (ev : r.v = v) :
    Kept1 w (((w7.setCell ⟨b, 0, none⟩ (.slice A n c)).setCell ⟨b, 1, none⟩ (.int .i64 v)).setCell ⟨b, 2, none⟩ (.slice D m d)) b r := by
  subst en; subst em; subst ev
  exact ⟨A, c, D, d, g1, g2, B, L, Box.fill hx, hcd, hO.fill hb, hB, by simpa using hL, hb⟩
set_option maxRecDepth 100000 in
set_option maxHeartbeats 4000000 in
theorem reach_draw (p : Nat) (w : World) (hc : Cur w p) : Calls Try.prog 42 #[.pointer (some ⟨p, 0, none⟩)] w (ReachDrawn p w) := by
  have HC := vl hc
  have hpw := hc.lt
  have HR0 := vl (Box.new w (.slice none 0 0) (.int .i64 0) (.slice none 0 0) 29)
  have hne : w.heap.size ≠ p := by omega
  have HN := vl hne
  clear hc hne
  go_enter Try.func42, Try.ntmps42
  go_wp2_with fail
  refine (table_draw p _ (HC.out.below ((Below.refl _ _).alloc (Nat.le_refl _) _))).mono ?_
  rintro e w1 ⟨g, n, cap, X, Y, rfl, hg, hgl, hp, ht, ⟨hx, hy⟩, hd1⟩
  have HR1 := vl (BoxR.drawn HR0.out hd1 HN.out)
  have HD1 := vl (((Drawn.refl HC.out).alloc _).trans hd1)
  have T := tabP_of ht
  obtain ⟨t2, t20⟩ : 2 ≤ n ∧ n ≤ 20 := ⟨T.two, T.most⟩
  simp at hg
  have HP1 := vl hp
  have HT := vl ht
  clear hd1 hp ht T
  go_wp2_with fail
  refine (below_draw p 200 _ HD1.out.cur (by omega) (by omega)).mono ?_
  rintro e w2 ⟨x, x0, x1, rfl, hd2⟩
  have HR2 := vl (BoxR.drawn HR1.out hd2 HN.out)
  have HD2 := vl (HD1.out.trans hd2)
  have HP2 := vl (pts_touch HP1.out hd2.touch (g := g) rfl (Or.inr (by omega)))
  clear hd2
  go_wp2_with fail
  refine (below_draw p 4 _ HD2.out.cur (by omega) (by omega)).mono ?_
  rintro e w3 ⟨y, y0, y1, rfl, hd3⟩
  have HR3 := vl (BoxR.drawn HR2.out hd3 HN.out)
  have HD3 := vl (HD2.out.trans hd3)
  have HP3 := vl (pts_touch HP2.out hd3.touch (g := g) rfl (Or.inr (by omega)))
  clear hd3
  obtain ⟨d, rfl⟩ := Int.eq_ofNat_of_zero_le y0
  have hd3 : d ≤ 3 := by omega
  have HNC := vl (newC_ok (level := x) HT.out hd3 hy)
  have HNY := vl (new_yes (level := x) (by omega : d ≤ 12) HNC.out.ok)
  go_wp2_with fail
  have hnew := fun (W : World) (hP : Pts W (some ⟨g, 0, none⟩) n X Y) => new_spec (some ⟨g, 0, none⟩) n cap X Y x (d : Int) W (by omega) hP
  simp only [HNY.out.1, HNY.out.2] at hnew
  refine (hnew _ HP3.out).mono ?_
  rintro e w4 ⟨⟨A4, c4, D4, d4, g1, g2, rfl, hcd, ho⟩, hb4⟩
  have HD4 := vl (HD3.out.of_below hb4)
  have HR4 := vl (HR3.out.below hb4)
  have HB4 := vl (HD4.out.alloc (.cells #[.slice A4 (newC n X Y x d).n c4, .int .i64 (newC n X Y x d).v, .slice D4 (newC n X Y x d).m d4] 29))
  have HR5 := vl (HR4.out.alloc (.cells #[.slice A4 (newC n X Y x d).n c4, .int .i64 (newC n X Y x d).v, .slice D4 (newC n X Y x d).m d4] 29))
  have hs4 : w.heap.size ≤ w3.heap.size := HD3.out.2.2.1
  have hs5 : w3.heap.size ≤ w4.heap.size := hb4.size
  have HK5 : Veil (Kept1 w (w4.alloc (.cells #[.slice A4 (newC n X Y x d).n c4, .int .i64 (newC n X Y x d).v, .slice D4 (newC n X Y x d).m d4] 29)) w4.heap.size (newC n X Y x d)) :=
    vl ⟨A4, c4, D4, d4, g1, g2, _, _, Box.new _ _ _ _ _, hcd, ho.below ((Below.refl _ _).alloc (Nat.le_refl _) _), HR3.out.lt, by simp, Or.inr (Nat.le_refl _)⟩
  obtain ⟨b, hbb⟩ : ∃ b, b = w4.heap.size := ⟨_, rfl⟩
  obtain ⟨r0, hr0⟩ : ∃ r0, r0 = newC n X Y x d := ⟨_, rfl⟩
  have HRD : Veil (RD r0 100000) := by rw [hr0]; exact HNC
  have hwb : w.heap.size ≤ b := by omega
  have hwr : w.heap.size < b := by have := HR4.out.lt; omega
  clear hb4 ho hnew HNY HNC HP1 HP2 HP3 HT HD1 HD2 HD3 HR0 HR1 HR2 HR3
  go_wp2_with fail
  refine (below_draw p 4 _ HB4.out.cur (by omega) (by omega)).mono ?_
  rintro e w5 ⟨z, z0, z1, rfl, hd5⟩
  have HD5 := vl (HB4.out.trans hd5)
  have HR6 := vl (BoxR.drawn HR5.out hd5 HN.out)
  have HK6 : Veil (Kept1 w w5 b r0) := by
    rw [hbb, hr0]
    exact vl (HK5.out.drawn hd5 (by omega) hpw)
  rw [← hbb]
  clear hd5 HB4 HD4 HR4 HR5 HK5 hr0 hs4 hs5 hbb
  go_wp2
  go_loopw [5] (fun s wr => ∃ (k : Nat) (r : Rc), s = .int .i64 k ∧ k ≤ 3 ∧ Veil (RD r (100000 + 299 * (3 - k))) ∧ Veil (Kept1 w wr b r) ∧ Veil (Box wr w.heap.size (.slice none 0 0) (.int .i64 0) (.slice none 0 0) 29) ∧ Veil (Drawn p w wr)) (fun s _ => (intOf s).toNat)
  case atStart =>
    obtain ⟨k, rfl⟩ := Int.eq_ofNat_of_zero_le z0
    exact ⟨k, r0, rfl, by omega, vl ⟨HRD.out.ok, HRD.out.n, HRD.out.m, by have := HRD.out.t; omega⟩, HK6, HR6, HD5⟩
  case round =>
    obtain ⟨k, r, rfl, hk, HRD, HK, HR, HD⟩ := hrel
    by_cases hlt : 0 < k
    · obtain ⟨k', rfl⟩ : ∃ k', k = k' + 1 := ⟨k - 1, by omega⟩
      go_upto_region 5 with fail
      go_cut [25] (fun s25 wx => ∃ r' : Rc, Veil (RD r' (100000 + 299 * (3 - k'))) ∧ Veil (Kept1 w wx b r') ∧ Veil (Box wx w.heap.size (.slice none 0 0) (.int .i64 0) (.slice none 0 0) 29) ∧ Veil (Drawn p w wx))
      case first =>
        obtain ⟨A, c, D, d', h1, h2, B, L, hbx, hcd, ho, hB, hL, hbB⟩ := HK.out
        have HBX := vl hbx
        have HO := vl ho
        have hn : r.n ≤ 20 := HRD.out.n
        have hm : r.m ≤ 3 := HRD.out.m
        obtain ⟨x0, x1, x2⟩ := hbx.at
        clear hbx ho HK
        go_region_with (first
          | (go_at_call 41; refine (below_draw p 300 _ (by exact HD.out.cur) (by omega) (by omega)).mono ?_; rintro e w6 ⟨a, a0, a1, rfl, hd6⟩; have hd6' : Drawn p wr w6 := (by first | exact hd6 | exact hd6.left); have HX6 := vl (BoxR.drawn HBX.out hd6' (by omega)); obtain ⟨v0, v1, v2⟩ := HX6.out.at; have HO6 := vl (HO.out.drawn hd6' (by omega)); have HD6 := vl (HD.out.trans hd6'); have HR6 := vl (BoxR.drawn HR.out hd6' HN.out); have HV6 := vl hd6'; clear hd6 hd6')
          | (go_at_call 32; refine (send_spec r _ _ _ _ a _ (by omega) (by omega) (by exact HO6.out.pts) (by exact HO6.out.ints)).mono ?_; rintro e w7 ⟨⟨A7, c7, D7, d7, h3, h4, rfl, hcd7, ho7⟩, hb7⟩; have hb7' : Below w6.heap.size w6 w7 := (by first | exact hb7 | exact below_left hb7); have HX7 := vl (HX6.out.below hb7'); obtain ⟨u0, u1, u2⟩ := HX7.out.at; obtain ⟨f0, f1, f2⟩ := HX7.out.free; have HO7 := vl ho7; have HD7 := vl (HD6.out.of_below hb7'); have HR7 := vl (HR6.out.below hb7'); have hs7 := hb7'.size; have hs6 := HV6.out.2.2.1; clear hb7 hb7' ho7))
        all_goals
          go_wp2_with fail
          go_meet
          have hsd := send_d HRD.out a0 (by omega) (by push_cast; omega)
          have hbl := HBX.out.lt
          have hnb : w.heap.size ≠ b := by omega
          refine ⟨sendR r a, vl ⟨hsd.ok, hsd.n, hsd.m, by have := hsd.t; push_cast at this; omega⟩, vl ?_, vl ?_, vl ?_⟩
          · exact kept_fill HX7.out HO7.out (by omega) (Nat.le_refl _) (Or.inl (by omega)) hcd7 rfl rfl rfl
          · exact ((HR7.out.far _ hnb).far _ hnb).far _ hnb
          · exact HD7.out.fill hwb hpw
      case rest =>
        obtain ⟨r', HRD', HK', HR', HD'⟩ := hcut
        clear HRD HK HR HD
        go_wp2_with fail
        refine (once_draw p 3 _ HD'.out.cur (by omega) (by omega)).mono ?_
        rintro e w6 ⟨bb, rfl, hd6⟩
        have HK6 := vl (HK'.out.drawn hd6 (by omega) hpw)
        have HR6 := vl (BoxR.drawn HR'.out hd6 HN.out)
        have HD6 := vl (HD'.out.trans hd6)
        clear hd6 HK' HR' HD'
        cases bb with
        | false =>
          go_wp2
          go_roundw
          case rel => exact ⟨k', r', by show Value.int _ _ = _; congr 1; (try push_cast); (try omega), by omega, HRD', HK6, HR6, HD6⟩
          case measure => simp [intOf]; (try omega)
        | true =>
          obtain ⟨A, c, D, d', h1, h2, B, L, hbx, hcd, ho, hB, hL, hbB⟩ := HK6.out
          have HBX := vl hbx
          have HO := vl ho
          have hn : r'.n ≤ 20 := HRD'.out.n
          have hm : r'.m ≤ 3 := HRD'.out.m
          obtain ⟨x0, x1, x2⟩ := hbx.at
          clear hbx ho HK6
          go_wp2_with fail
          refine (flow_spec r' _ _ _ _ _ (by omega) (by omega) hcd HO.out.pts HO.out.ints).mono ?_
          rintro e w7 ⟨⟨A7, c7, D7, d7, h3, h4, rfl, hcd7, ho7⟩, hb7⟩
          have HX7 := vl (HBX.out.below hb7)
          have HO7 := vl ho7
          have HD7 := vl (HD6.out.of_below hb7)
          have HR7 := vl (HR6.out.below hb7)
          have hbl := HBX.out.lt
          have hnb : w.heap.size ≠ b := by omega
          have HK8 := vl (kept_fill (w := w) (n := (flowR r').n) (m := (flowR r').m) (c := c7) HX7.out HO7.out (by omega) (Nat.le_refl _) (Or.inl (by omega)) hcd7 rfl rfl rfl)
          have HR8 := vl (((HR7.out.far (g := b) (j := 0) (.slice A7 (flowR r').n c7) hnb).far (g := b) (j := 1) (.int .i64 (flowR r').v) hnb).far (g := b) (j := 2) (.slice D7 (flowR r').m d7) hnb)
          have HD8 := vl (HD7.out.fill (g := b) (u0 := .slice A7 (flowR r').n c7) (u1 := .int .i64 (flowR r').v) (u2 := .slice D7 (flowR r').m d7) hwb hpw)
          obtain ⟨u0, u1, u2⟩ := HX7.out.at
          obtain ⟨f0, f1, f2⟩ := HX7.out.free
          clear hb7 ho7 x0 x1 x2
          go_wp2
          go_roundw
          case rel => exact ⟨k', flowR r', by show Value.int _ _ = _; congr 1; (try push_cast); (try omega), by omega, vl (flow_d HRD'.out), HK8, HR8, HD8⟩
          case measure => simp [intOf]; (try omega)
    · obtain rfl : k = 0 := by omega
      obtain ⟨A, c, D, d', h1, h2, B, L, hbx, hcd, ho, hB, hL, hbB⟩ := HK.out
      have HBX := vl hbx
      have HO := vl ho
      have hn : r.n ≤ 20 := HRD.out.n
      obtain ⟨x0, x1, x2⟩ := hbx.at
      obtain ⟨y0, y1, y2⟩ := HR.out.at
      obtain ⟨s0, s1, s2⟩ := HR.out.free
      clear hbx ho
      go_wp2
      refine bodyPost_ret (v := .agg #[.slice A r.n c, .int .i64 r.v, .slice D r.m d']) (by simp [results, Try.results42, go_sem, y0, y1, y2]) rfl ?_
      refine ⟨r, A, c, D, d', h1, h2, rfl, ⟨HRD.out.ok, HRD.out.n, HRD.out.m, by have := HRD.out.t; omega⟩, hcd, (HO.out.fill (Or.inl (by omega))).wide (by omega) (by simpa using hL), HD.out.fill (Nat.le_refl _) hpw⟩
end Go.Proofs.Ytkaddacflblghaa.C1
