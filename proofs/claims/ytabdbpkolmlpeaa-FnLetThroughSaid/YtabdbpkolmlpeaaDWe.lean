/- The drawn weir and the drawn rule. -/
import Derived.Test.YtabdbpkolmlpeaaCur
import Derived.Test.YtabdbpkolmlpeaaWr5
namespace Go.Proofs.Ytabdbpkolmlpeaa.C1
open Go.ChangeShapes Go.WideShapes Go.ChangeAt Go.RowKit
set_option linter.unusedVariables false

theorem Drawn.set {p : Nat} {a b : World} (h : Drawn p a b) {g j : Nat} {u : Value} (hg : a.heap.size ≤ g) (hp : p < a.heap.size) : Drawn p a (b.setCell ⟨g, j, none⟩ u) := by
  have hne : ∀ k, k < a.heap.size → k ≠ g := fun k hk => by omega
  refine ⟨⟨h.1.os, h.1.tape, h.1.output, by simpa using h.1.size, fun k hk => (heap_other (hne k (by omega))).trans (h.1.block k hk)⟩, fun k h1 h2 => (heap_other (hne k h2)).trans (h.2.1 k h1 h2), by simpa using h.2.2.1, h.2.2.2.keep fun k hk => heap_other (hne k (by omega))⟩
theorem Box5.drawn {w w' : World} {b p : Nat} {x y z u v : Value} {t : TypeId} (h : Box5 w b x y z u v t) (hd : Drawn p w w') (hb : b ≠ p) : Box5 w' b x y z u v t := (hd.heap hb h.lt).trans h
theorem Box.drawn {w w' : World} {b p : Nat} {x y z : Value} {t : TypeId} (h : Box w b x y z t) (hd : Drawn p w w') (hb : b ≠ p) : Box w' b x y z t := (hd.heap hb h.lt).trans h
/-- What is known of a drawn weir, of a drawn rule. -/
structure WD (W : Wr) : Prop where
  ok : WP W
  g : W.g ≤ 4
  s : W.s ≤ 12
  k : W.k ≤ 119
  w : W.w ≤ 60
structure UD (U : Ru) : Prop where
  l : 0 ≤ U.l
  l1 : U.l ≤ 99
  h : U.l < U.h
  h1 : U.h ≤ 159
  f : U.h ≤ U.f
  f1 : U.f ≤ 218
def WeirDrawn (p : Nat) (w : World) (e : Ending) (w' : World) : Prop := ∃ W : Wr, e = .returned (.agg #[.int .i64 W.g, .int .i64 W.o, .int .i64 W.s, .int .i64 W.k, .int .i64 W.w]) ∧ WD W ∧ Drawn p w w'
def RuleDrawn (p : Nat) (w : World) (e : Ending) (w' : World) : Prop := ∃ U : Ru, e = .returned (.agg #[.int .i64 U.l, .int .i64 U.h, .int .i64 U.f]) ∧ UD U ∧ Drawn p w w'
set_option maxHeartbeats 1000000 in
theorem weir_draw (p : Nat) (w : World) (hc : Cur w p) : Calls Try.prog 40 #[.pointer (some ⟨p, 0, none⟩)] w (WeirDrawn p w) := by
  have HC := Lib.hid hc
  have hpw := hc.lt
  have HR0 := Lib.hid (Box5.new w (.int .i64 0) (.int .i64 0) (.int .i64 0) (.int .i64 0) (.int .i64 0) 39)
  have hne : w.heap.size ≠ p := by omega
  have HN := Lib.hid hne
  clear hc hne
  go_enter Try.func40, Try.ntmps40
  go_wp2_with fail
  refine (below_draw p 4 _ (HC.out.below ((Below.refl _ _).alloc (Nat.le_refl _) _)) (by omega) (by omega)).mono ?_
  rintro e w1 ⟨x1, a1, b1, rfl, hd1⟩
  have HR1 := Lib.hid (HR0.out.drawn hd1 HN.out)
  have HD1 := Lib.hid (((Drawn.refl HC.out).alloc _).trans hd1)
  clear hd1
  go_wp2_with fail
  refine (below_draw p _ _ HD1.out.cur (by omega) (by omega)).mono ?_
  rintro e w2 ⟨x2, a2, b2, rfl, hd2⟩
  have HR2 := Lib.hid (HR1.out.drawn hd2 HN.out)
  have HD2 := Lib.hid (HD1.out.trans hd2)
  clear hd2
  go_wp2_with fail
  refine (below_draw p 12 _ HD2.out.cur (by omega) (by omega)).mono ?_
  rintro e w3 ⟨x3, a3, b3, rfl, hd3⟩
  have HR3 := Lib.hid (HR2.out.drawn hd3 HN.out)
  have HD3 := Lib.hid (HD2.out.trans hd3)
  clear hd3
  go_wp2_with fail
  refine (below_draw p 120 _ HD3.out.cur (by omega) (by omega)).mono ?_
  rintro e w4 ⟨x4, a4, b4, rfl, hd4⟩
  have HR4 := Lib.hid (HR3.out.drawn hd4 HN.out)
  have HD4 := Lib.hid (HD3.out.trans hd4)
  clear hd4
  go_wp2_with fail
  refine (below_draw p 60 _ HD4.out.cur (by omega) (by omega)).mono ?_
  rintro e w5 ⟨x5, a5, b5, rfl, hd5⟩
  have HR5 := Lib.hid (HR4.out.drawn hd5 HN.out)
  have HD5 := Lib.hid (HD4.out.trans hd5)
  clear hd5
  obtain ⟨y0, y1, y2, y3, y4⟩ := HR5.out.at
  obtain ⟨s0, s1, s2, s3, s4⟩ := HR5.out.free
  go_wp2
  refine bodyPost_ret (v := .agg #[.int .i64 (1 + x1), .int .i64 x2, .int .i64 (1 + x3), .int .i64 x4, .int .i64 (1 + x5)]) (by simp [results, Try.results40, go_sem, y0, y1, y2, y3, y4]) rfl ?_
  exact ⟨⟨1 + x1, x2, 1 + x3, x4, 1 + x5⟩, rfl, ⟨⟨by show 1 ≤ 1 + x1; omega, by show 1 + x1 ≤ 8; omega, a2, by show x2 ≤ 10 * (1 + x1); omega, by show 1 ≤ 1 + x3; omega, by show 1 + x3 ≤ 80; omega, a4, by show x4 ≤ 100000; omega, by show 1 ≤ 1 + x5; omega, by show 1 + x5 ≤ 1000; omega⟩,
    by show 1 + x1 ≤ 4; omega, by show 1 + x3 ≤ 12; omega, by show x4 ≤ 119; omega, by show 1 + x5 ≤ 60; omega⟩, ((((HD5.out.set (Nat.le_refl _) hpw).set (Nat.le_refl _) hpw).set (Nat.le_refl _) hpw).set (Nat.le_refl _) hpw).set (Nat.le_refl _) hpw⟩
theorem drawweir (A : Option Addr) (n cap : Nat) (f : Nat → Int) (w : World) (hn : n ≤ 1048576) (hs : SrcB w A n f) :
    Calls Try.prog 14 #[.slice A n cap] w fun e w' => ∃ W : Wr, e = .returned (.agg #[.int .i64 W.g, .int .i64 W.o, .int .i64 W.s, .int .i64 W.k, .int .i64 W.w]) ∧ WD W ∧ Below w.heap.size w w' := by
  have HS := Lib.hid hs
  clear hs
  go_enter Try.func14, Try.ntmps14
  go_wp2_with fail
  have HR0 := Lib.hid (Box5.new w (.int .i64 0) (.int .i64 0) (.int .i64 0) (.int .i64 0) (.int .i64 0) 39)
  refine (new_draw _ _ _ f _ hn (HS.out.below ((Below.refl _ _).alloc (Nat.le_refl _) _))).mono ?_
  rintro e w1 ⟨rfl, hb1, _, hc1⟩
  have HR1 := Lib.hid (HR0.out.below hb1)
  have HB1 := Lib.hid (((Below.refl w.heap.size w).alloc (Nat.le_refl _) (.cells #[.int .i64 0, .int .i64 0, .int .i64 0, .int .i64 0, .int .i64 0] 39)).trans (hb1.mono (by simp)))
  simp only [World.size_alloc] at hc1
  have HC1 := Lib.hid hc1
  clear hb1 hc1
  go_wp2_with fail
  refine (weir_draw _ _ HC1.out).mono ?_
  rintro e w2 ⟨W, rfl, hW, hd⟩
  have HW := Lib.hid hW
  have HR2 := Lib.hid (HR1.out.drawn hd (by omega))
  have HB2 := Lib.hid (HB1.out.trans (hd.below (by omega)))
  clear hd hW
  obtain ⟨y0, y1, y2, y3, y4⟩ := HR2.out.at
  obtain ⟨s0, s1, s2, s3, s4⟩ := HR2.out.free
  go_wp2
  refine bodyPost_ret (v := .agg #[.int .i64 W.g, .int .i64 W.o, .int .i64 W.s, .int .i64 W.k, .int .i64 W.w]) (by simp [results, Try.results14, go_sem, y0, y1, y2, y3, y4]) rfl ?_
  exact ⟨W, rfl, HW.out, by (repeat' (first | (with_reducible exact Below.refl _ _) | (with_reducible refine Below.drew ?_) | (with_reducible refine Below.alloc ?_ ?_ _) | (with_reducible refine Below.setCell ?_ ?_ _) | (with_reducible refine Below.trans ?_ (HB2.out.mono ?_)) | (first | omega | (simp; omega) | (simp; done))))⟩
end Go.Proofs.Ytabdbpkolmlpeaa.C1
