/- The drawn entry and the drawn book. -/
import Derived.Test.YtclofbknbfmmlaaDoorCur
import Derived.Test.YtclofbknbfmmlaaDoorPosu
namespace Go.Proofs.YtclofbknbfmmlaaDoor.C1
open Go.ChangeShapes Go.WideShapes Go.ChangeAt Go.RowKit Go.Proofs.YtclofbknbfmmlaaDoor.Lift
set_option linter.unusedVariables false

theorem enOk_of {b : En} (h0 : b.f ≠ b.t) (h1 : 0 ≤ b.f ∧ b.f ≤ 11) (h2 : 0 ≤ b.t ∧ b.t ≤ 11) (h3 : 1 ≤ b.a ∧ b.a ≤ 1000000000) (h4 : 0 ≤ b.m ∧ b.m ≤ 1000000) (h5 : 0 ≤ b.y ∧ b.y ≤ 9999) : enOk b = true := by
  unfold enOk
  rw [decide_eq_false h0, inB_yes h1.1 h1.2, inB_yes h2.1 h2.2, inB_yes h3.1 h3.2, inB_yes h4.1 h4.2, inB_yes h5.1 h5.2]
  rfl
theorem Drawn.set1 {p : Nat} {a b : World} (h : Drawn p a b) {g j : Nat} {u : Value} (hg : a.heap.size ≤ g) (hp : p < a.heap.size) : Drawn p a (b.setCell ⟨g, j, none⟩ u) := by
  have hne : ∀ k, k < a.heap.size → k ≠ g := fun k hk => by omega
  refine ⟨⟨h.1.os, h.1.tape, h.1.output, by simpa using h.1.size, fun k hk => (heap_other (hne k (by omega))).trans (h.1.block k hk)⟩, fun k h1 h2 => (heap_other (hne k h2)).trans (h.2.1 k h1 h2), by simpa using h.2.2.1, h.2.2.2.keep fun k hk => heap_other (hne k (by omega))⟩
/-- The result's cells. -/
def ZR (w : World) (b : Nat) : Prop := w.rowIs b 36 5 (fun _ => .int .i64 0)
theorem zr (w : World) : ZR (w.alloc (.cells #[.int .i64 0, .int .i64 0, .int .i64 0, .int .i64 0, .int .i64 0] 36)) w.heap.size := World.rowIs_alloc w #[.int .i64 0, .int .i64 0, .int .i64 0, .int .i64 0, .int .i64 0] 36 (fun _ => .int .i64 0) (fun i hi => by
  have hi' : i < 5 := hi
  match i, hi' with
  | 0, _ => rfl
  | 1, _ => rfl
  | 2, _ => rfl
  | 3, _ => rfl
  | 4, _ => rfl)
theorem ZR.drawn {w w' : World} {b p : Nat} (h : ZR w b) (hd : Drawn p w w') (hb : b ≠ p) : ZR w' b := World.rowIs.of_block h (hd.heap hb (World.rowIs.lt h))
theorem ZR.at {w : World} {b : Nat} (h : ZR w b) : w.cell? ⟨b, 0, none⟩ = some (.int .i64 0) ∧ w.cell? ⟨b, 1, none⟩ = some (.int .i64 0) ∧ w.cell? ⟨b, 2, none⟩ = some (.int .i64 0) ∧ w.cell? ⟨b, 3, none⟩ = some (.int .i64 0) ∧ w.cell? ⟨b, 4, none⟩ = some (.int .i64 0) :=
  ⟨World.rowIs.cell h (by decide), World.rowIs.cell h (by decide), World.rowIs.cell h (by decide), World.rowIs.cell h (by decide), World.rowIs.cell h (by decide)⟩
theorem ZR.free {w : World} {b : Nat} (h : ZR w b) : w.frozen? ⟨b, 0, none⟩ = false ∧ w.frozen? ⟨b, 1, none⟩ = false ∧ w.frozen? ⟨b, 2, none⟩ = false ∧ w.frozen? ⟨b, 3, none⟩ = false ∧ w.frozen? ⟨b, 4, none⟩ = false :=
  ⟨World.rowIs.frozen h 0, World.rowIs.frozen h 1, World.rowIs.frozen h 2, World.rowIs.frozen h 3, World.rowIs.frozen h 4⟩
theorem zset5 {w : World} {b : Nat} (h : ZR w b) (x0 x1 x2 x3 x4 : Int) : BxE (((((w.setCell ⟨b, 0, none⟩ (.int .i64 x0)).setCell ⟨b, 1, none⟩ (.int .i64 x1)).setCell ⟨b, 2, none⟩ (.int .i64 x2)).setCell ⟨b, 3, none⟩ (.int .i64 x3)).setCell ⟨b, 4, none⟩ (.int .i64 x4)) b ⟨x0, x1, x2, x3, x4⟩ := by
  have h5 := World.rowIs.set (World.rowIs.set (World.rowIs.set (World.rowIs.set (World.rowIs.set h 0 (.int .i64 x0)) 1 (.int .i64 x1)) 2 (.int .i64 x2)) 3 (.int .i64 x3)) 4 (.int .i64 x4)
  exact ⟨World.rowIs.cell h5 (by decide), World.rowIs.cell h5 (by decide), World.rowIs.cell h5 (by decide), World.rowIs.cell h5 (by decide), World.rowIs.cell h5 (by decide)⟩
def EntryDrawn (p : Nat) (w : World) (e : Ending) (w' : World) : Prop := ∃ b : En, e = .returned (.agg #[.int .i64 b.f, .int .i64 b.t, .int .i64 b.a, .int .i64 b.m, .int .i64 b.y]) ∧ enOk b = true ∧ Drawn p w w'
set_option maxHeartbeats 2000000 in
theorem entry_draw (p : Nat) (w : World) (hc : Cur w p) : Calls Tryd.prog 89 #[.pointer (some ⟨p, 0, none⟩)] w (EntryDrawn p w) := by
  have HC := vl hc
  have hpw := hc.lt
  have HR0 := vl (zr w)
  have hne : w.heap.size ≠ p := by omega
  have HN := vl hne
  clear hc hne
  go_enter Tryd.func89, Tryd.ntmps89
  go_wp2_with fail
  refine (below_draw p 12 _ (HC.out.below ((Below.refl _ _).alloc (Nat.le_refl _) _)) (by omega) (by omega)).mono ?_
  rintro e w1 ⟨x1, a1, b1, rfl, hd1⟩
  have HR1 := vl (HR0.out.drawn hd1 HN.out)
  have HD1 := vl (((Drawn.refl HC.out).alloc _).trans hd1)
  clear hd1
  go_wp2_with fail
  refine (below_draw p 5 _ HD1.out.cur (by omega) (by omega)).mono ?_
  rintro e w2 ⟨x2, a2, b2, rfl, hd2⟩
  have HR2 := vl (HR1.out.drawn hd2 HN.out)
  have HD2 := vl (HD1.out.trans hd2)
  clear hd2
  go_wp2_with fail
  refine (below_draw p 500 _ HD2.out.cur (by omega) (by omega)).mono ?_
  rintro e w3 ⟨x3, a3, b3, rfl, hd3⟩
  have HR3 := vl (HR2.out.drawn hd3 HN.out)
  have HD3 := vl (HD2.out.trans hd3)
  clear hd3
  go_wp2_with fail
  refine (below_draw p 90 _ HD3.out.cur (by omega) (by omega)).mono ?_
  rintro e w4 ⟨x4, a4, b4, rfl, hd4⟩
  have HR4 := vl (HR3.out.drawn hd4 HN.out)
  have HD4 := vl (HD3.out.trans hd4)
  clear hd4
  go_wp2_with fail
  refine (below_draw p 90 _ HD4.out.cur (by omega) (by omega)).mono ?_
  rintro e w5 ⟨x5, a5, b5, rfl, hd5⟩
  have HR5 := vl (HR4.out.drawn hd5 HN.out)
  have HD5 := vl (HD4.out.trans hd5)
  clear hd5
  obtain ⟨z0, z1, z2, z3, z4⟩ := HR5.out.at
  obtain ⟨f0, f1, f2, f3, f4⟩ := HR5.out.free
  obtain ⟨r0, r1⟩ := pos_rem (x1 + 1 + x2) 12 (by omega) (by omega)
  go_wp2
  have HD := vl (((((HD5.out.set1 (j := 0) (u := .int .i64 x1) (Nat.le_refl _) hpw).set1 (j := 1) (u := .int .i64 ((x1 + 1 + x2) % 12)) (Nat.le_refl _) hpw).set1 (j := 2) (u := .int .i64 (1 + x3)) (Nat.le_refl _) hpw).set1 (j := 3) (u := .int .i64 x4) (Nat.le_refl _) hpw).set1 (j := 4) (u := .int .i64 x5) (Nat.le_refl _) hpw)
  obtain ⟨y0, y1, y2, y3, y4⟩ := zset5 HR5.out x1 ((x1 + 1 + x2) % 12) (1 + x3) x4 x5
  generalize hW : (((((w5.setCell ⟨w.heap.size, 0, none⟩ (.int .i64 x1)).setCell ⟨w.heap.size, 1, none⟩ (.int .i64 ((x1 + 1 + x2) % 12))).setCell ⟨w.heap.size, 2, none⟩ (.int .i64 (1 + x3))).setCell ⟨w.heap.size, 3, none⟩ (.int .i64 x4)).setCell ⟨w.heap.size, 4, none⟩ (.int .i64 x5)) = w9 at HD y0 y1 y2 y3 y4 ⊢
  clear hW
  simp only at y0 y1 y2 y3 y4
  have hv := enOk_of (b := ⟨x1, (x1 + 1 + x2) % 12, 1 + x3, x4, x5⟩) (by show x1 ≠ (x1 + 1 + x2) % 12; omega) (by show 0 ≤ x1 ∧ x1 ≤ 11; omega) (by show 0 ≤ (x1 + 1 + x2) % 12 ∧ (x1 + 1 + x2) % 12 ≤ 11; omega) (by show 1 ≤ 1 + x3 ∧ 1 + x3 ≤ 1000000000; omega) (by show 0 ≤ x4 ∧ x4 ≤ 1000000; omega) (by show 0 ≤ x5 ∧ x5 ≤ 9999; omega)
  have HV := vl hv
  clear hv
  refine bodyPost_ret (v := .agg #[.int .i64 x1, .int .i64 ((x1 + 1 + x2) % 12), .int .i64 (1 + x3), .int .i64 x4, .int .i64 x5]) (by simp [results, Tryd.results89, go_sem, y0, y1, y2, y3, y4]) rfl ?_
  exact ⟨⟨x1, (x1 + 1 + x2) % 12, 1 + x3, x4, x5⟩, rfl, HV.out, HD.out⟩
def BookTo (p : Nat) (w : World) (e : Ending) (w' : World) : Prop := ∃ (v : Value) (L : List En), e = .returned v ∧ L.all enOk = true ∧ L.length ≤ 8 ∧ w'.ownsRow w.heap.size 36 5 v L.length (enl L) ∧ Drawn p w w'
set_option maxHeartbeats 2000000 in
theorem book_draw (p : Nat) (w : World) (hc : Cur w p) : Calls Tryd.prog 50 #[.pointer (some ⟨p, 0, none⟩)] w (BookTo p w) := by
  obtain ⟨i0, hi, hz0, hz1, hz2⟩ := info_parts infoE
  have HC := vl hc
  have hpw := hc.lt
  clear hc
  have HO0 := vl (World.ownsRow_made (size := 5) (e := 36) w #[] 0 (Nat.le_refl _) (by decide) rfl)
  go_enter Tryd.func50, Tryd.ntmps50
  go_wp2_with fail
  refine (below_draw p 9 _ (HC.out.below ((Below.refl _ _).alloc (Nat.le_refl _) _)) (by omega) (by omega)).mono ?_
  rintro e w2 ⟨t, t0, t1, rfl, hd2⟩
  have HO2 := vl (own_drawn hd2 hpw HO0.out)
  have HD2 := vl (((Drawn.refl HC.out).alloc _).trans hd2)
  clear hd2 HO0
  go_wp2
  go_loopw [3, 4] (fun v s4 wr => ∃ (L : List En) (m : Int), s4 = .int .i64 m ∧ 0 ≤ m ∧ L.length + m ≤ 8 ∧ Veil (L.all enOk = true) ∧ Veil (Drawn p w wr) ∧ Veil (wr.ownsRow w.heap.size 36 5 v L.length (enl L))) (fun _ s4 _ => (intOf s4).toNat)
  case atStart => exact ⟨[], t, rfl, by omega, by simp; omega, vl rfl, HD2, HO2⟩
  case round =>
    obtain ⟨L, m, rfl, hm0, hm8, HA, HD, HO⟩ := hrel
    by_cases hm : 0 < m
    · have hlen : (L.length : Int) ≤ 7 := by omega
      go_wp2_with fail
      refine (entry_draw p _ HD.out.cur).mono ?_
      rintro e w4 ⟨b, rfl, hb, hd4⟩
      have HO4 := vl (own_drawn hd4 hpw HO.out)
      have HD5 := vl ((HD.out.trans hd4).alloc (.cells #[.int .i64 b.f, .int .i64 b.t, .int .i64 b.a, .int .i64 b.m, .int .i64 b.y] 36))
      have hs4 := (HD.out.trans hd4).2.2.1
      have HA4 := vl (show (L ++ [b]).all enOk = true from by rw [List.all_append, HA.out]; simp [hb])
      clear hb hd4 HD HO
      go_wp2_with (at_builtin; refine wpList_append_own _ rfl _ _ 32 rfl w.heap.size 36 i0 _ 5 40 Tryd.underlying32 hi hz0 hz1 hz2 rfl (by decide) _ _ _ rfl (HO4.out.alloc _) ⟨w4.heap.size, 0, none⟩ 1 1 b.cells rfl rfl ?c1 ?c2 ?c3 ?c4 ?c5 ?_)
      case c1 => exact newsE w4 w4.heap.size b 36 rfl
      case c2 => exact enOne b
      case c3 => unfold maxLen; omega
      case c4 => omega
      case c5 => simp; omega
      intro v' w6 hown6 hgrow _
      have HD6 := vl (HD5.out.app hpw hgrow (fun k hk => (HO4.out.lt k hk).1))
      have HO6 := vl (show w6.ownsRow w.heap.size 36 5 v' (L ++ [b]).length (enl (L ++ [b])) from by rw [enl_app, enl_one', List.length_append, List.length_singleton]; exact hown6)
      clear hown6 hgrow HO4 HD5
      go_wp2
      go_roundw
      case rel => exact ⟨L ++ [b], m - 1, by go_num, by omega, by simp; omega, HA4, HD6, HO6⟩
      case measure => simp [intOf]; omega
    · go_wp2
      go_ret
      exact ⟨_, L, rfl, HA.out, by omega, HO.out, HD.out⟩
set_option maxHeartbeats 1000000 in
theorem drawbook (A : Option Addr) (n cap : Nat) (f : Nat → Int) (w : World) (hn : n ≤ 1048576) (hs : SrcB w A n f) :
    Calls Tryd.prog 17 #[.slice A n cap] w fun e w' => (∃ A' c' g L, e = .returned (.slice A' (List.length L) c') ∧ L.all enOk = true ∧ L.length ≤ 8 ∧ RowE w' A' L g ∧ w.heap.size ≤ g ∧ (0 < L.length → g < w'.heap.size)) ∧ Below w.heap.size w w' := by
  have HS := vl hs
  clear hs
  go_enter Tryd.func17, Tryd.ntmps17
  go_wp2_with fail
  refine (new_draw _ _ _ f _ hn HS.out).mono ?_
  rintro e w1 ⟨rfl, hb1, hs1, hc1⟩
  have HB1 := vl hb1
  have HC1 := vl hc1
  clear hb1 hc1
  go_wp2_with fail
  refine (book_draw _ _ HC1.out).mono ?_
  rintro e w2 ⟨v, L, rfl, hA, hl, ho, hd⟩
  have HB2 := vl (HB1.out.trans (hd.below (Nat.le_refl _)))
  have hs2 := hd.2.2.1
  obtain ⟨A', c', g, rfl, _, h1, _, h3, h4⟩ := rowE_of_own ho hs2
  have HX := vl (show (∃ A' c' g L, Ending.returned (.slice _ _ _) = .returned (.slice A' (List.length L) c') ∧ L.all enOk = true ∧ L.length ≤ 8 ∧ RowE w2 A' L g ∧ w.heap.size ≤ g ∧ (0 < L.length → g < w2.heap.size)) from ⟨A', c', g, L, rfl, hA, hl, h1, by omega, h4⟩)
  clear hA hl ho hd h1 h3 h4
  go_wp2
  go_ret
  exact ⟨HX.out, HB2.out⟩
end Go.Proofs.YtclofbknbfmmlaaDoor.C1
