/- The drawn table: valid, in memory of its own. -/
import Derived.Test.YtkaddacflblghaaCur
import Derived.Test.YtkaddacflblghaaVal
import Derived.Laws.AppendOwn
import Derived.Laws.OwnMore
import Derived.OwnWalk
namespace Go.Proofs.Ytkaddacflblghaa.C1
open Go.ChangeShapes Go.WideShapes Go.ChangeAt Go.RowKit
set_option linter.unusedVariables false

def pcells (ps : List (Int × Int)) : List Value := ps.flatMap fun p => [.int .i64 p.1, .int .i64 p.2]
def px (ps : List (Int × Int)) (i : Nat) : Int := (ps.getD i (0, 0)).1
def py (ps : List (Int × Int)) (i : Nat) : Int := (ps.getD i (0, 0)).2
theorem pcells_snoc (ps : List (Int × Int)) (x y : Int) : pcells ps ++ [.int .i64 x, .int .i64 y] = pcells (ps ++ [(x, y)]) := by simp [pcells]
theorem pcells_at (ps : List (Int × Int)) : ∀ i, i < ps.length → (pcells ps)[i * 2]? = some (.int .i64 (px ps i)) ∧ (pcells ps)[i * 2 + 1]? = some (.int .i64 (py ps i)) := by
  induction ps with
  | nil => intro i hi; simp at hi
  | cons p ps ih =>
    intro i hi
    cases i with
    | zero => simp [pcells, px, py]
    | succ i =>
      have h := ih i (by simpa using hi)
      have e : pcells (p :: ps) = .int .i64 p.1 :: .int .i64 p.2 :: pcells ps := by simp [pcells]
      rw [e, show (i + 1) * 2 = i * 2 + 1 + 1 by omega]
      simp only [List.getElem?_cons_succ]
      simpa [px, py] using h
theorem px_snoc {ps : List (Int × Int)} {q : Int × Int} {i : Nat} (h : i < ps.length) : px (ps ++ [q]) i = px ps i ∧ py (ps ++ [q]) i = py ps i := by
  unfold px py; simp [List.getD_eq_getElem?_getD, List.getElem?_append_left h]
theorem px_last {ps : List (Int × Int)} {q : Int × Int} : px (ps ++ [q]) ps.length = q.1 ∧ py (ps ++ [q]) ps.length = q.2 := by
  unfold px py; simp [List.getD_eq_getElem?_getD]
theorem okAt_same {X Y X' Y' : Nat → Int} {n : Nat} (h : ∀ i, i < n → X' i = X i ∧ Y' i = Y i) {i : Nat} (hi : i < n) : okAt X' Y' i = okAt X Y i := by
  unfold okAt
  rw [(h i hi).1, (h i hi).2, (h (i - 1) (by omega)).1, (h (i - 1) (by omega)).2]
theorem ok_snoc {ps : List (Int × Int)} {x y : Int} (h : okTo (px ps) (py ps) ps.length = true) (hx : 0 ≤ x ∧ x ≤ 1000000000) (hy : 0 ≤ y ∧ y ≤ 1000000000)
    (hl : 0 < ps.length → px ps (ps.length - 1) < x ∧ py ps (ps.length - 1) ≤ y) : okTo (px (ps ++ [(x, y)])) (py (ps ++ [(x, y)])) (ps ++ [(x, y)]).length = true := by
  rw [List.length_append, List.length_singleton, okTo_iff]
  intro i hi
  rcases Nat.lt_or_ge i ps.length with h1 | h1
  · rw [okAt_same (n := ps.length) (fun j hj => px_snoc hj) h1]
    exact okTo_iff.1 h i h1
  · obtain rfl : i = ps.length := by omega
    unfold okAt
    rw [px_last.1, px_last.2, inB_yes hx.1 hx.2, inB_yes hy.1 hy.2]
    rcases Nat.eq_zero_or_pos ps.length with h2 | h2
    · simp [h2]
    · rw [(px_snoc (by omega : ps.length - 1 < ps.length)).1, (px_snoc (by omega : ps.length - 1 < ps.length)).2]
      have := hl h2
      simp [this.1, this.2]
/-- A valid table was drawn. -/
def TabDrawn (p : Nat) (w : World) (e : Ending) (w' : World) : Prop :=
  ∃ (g n cap : Nat) (X Y : Nat → Int), e = .returned (.slice (some ⟨g, 0, none⟩) n cap) ∧ w.heap.size ≤ g ∧ g < w'.heap.size ∧ Pts w' (some ⟨g, 0, none⟩) n X Y ∧ tabOk n X Y = true ∧ (X (n - 1) ≤ 100000 ∧ Y (n - 1) ≤ 100000) ∧ Drawn p w w'
theorem infoPt' : (Try.prog.info? 70).map (fun i => (i.zero, i.size, i.bytes)) = some (some (.agg #[.int .i64 0, .int .i64 0]), 2, 16) := by kernel_rfl
set_option maxHeartbeats 2000000 in
theorem table_draw (p : Nat) (w : World) (hc : Cur w p) : Calls Try.prog 57 #[.pointer (some ⟨p, 0, none⟩)] w (TabDrawn p w) := by
  obtain ⟨i0, hi, hz0, hz1, hz2⟩ := info_parts infoPt'
  have HC := Lib.hid hc
  have hpw := hc.lt
  clear hc
  go_enter Try.func57, Try.ntmps57
  go_wp2_with fail
  have HO0 := Lib.hid (World.ownsRow_made (size := 2) (e := 70) w #[] 0 (Nat.le_refl _) (by decide) rfl)
  refine (below_draw p 50 _ (HC.out.below ((Below.refl _ _).alloc (Nat.le_refl _) _)) (by omega) (by omega)).mono ?_
  rintro e w1 ⟨x, x0, x1, rfl, hd1⟩
  have HO1 := Lib.hid (own_drawn hd1 hpw HO0.out)
  have HD1 := Lib.hid (((Drawn.refl HC.out).alloc _).trans hd1)
  clear hd1 HO0
  go_wp2_with fail
  refine (below_draw p 100 _ HD1.out.cur (by omega) (by omega)).mono ?_
  rintro e w2 ⟨y, y0, y1, rfl, hd2⟩
  have HO2 := Lib.hid (own_drawn hd2 hpw HO1.out)
  have HD2 := Lib.hid (HD1.out.trans hd2)
  clear hd2 HO1
  go_wp2_with fail
  refine (below_draw p 4 _ HD2.out.cur (by omega) (by omega)).mono ?_
  rintro e w3 ⟨m, m0, m1, rfl, hd3⟩
  have HO3 := Lib.hid (own_drawn hd3 hpw HO2.out)
  have HD3 := Lib.hid (HD2.out.trans hd3)
  clear hd3 HO2
  go_wp2
  go_loopw [3, 4, 5, 6] (fun v s4 s5 s6 wr => ∃ (ps : List (Int × Int)) (x y m : Int), s4 = .int .i64 x ∧ s5 = .int .i64 y ∧ s6 = .int .i64 m ∧ Drawn p w wr ∧ wr.ownsRow w.heap.size 70 2 v ps.length (pcells ps) ∧
      okTo (px ps) (py ps) ps.length = true ∧ 0 ≤ m ∧ ps.length + m ≤ 5 ∧ 2 ≤ ps.length + m ∧ 0 ≤ x ∧ x ≤ 50 + 101 * ps.length ∧ 0 ≤ y ∧ y ≤ 100 + 1000 * ps.length ∧ (0 < ps.length → px ps (ps.length - 1) < x ∧ py ps (ps.length - 1) ≤ y)) (fun _ _ _ s6 _ => (intOf s6).toNat)
  case atStart => exact ⟨[], x, y, 2 + m, rfl, rfl, rfl, HD3.out, HO3.out, rfl, by omega, by simp; omega, by simp; omega, by omega, by simp; omega, by omega, by simp; omega, fun h => by simp at h⟩
  case round =>
    obtain ⟨ps, x, y, m, rfl, rfl, rfl, hd, hown, hok, hm0, hm5, hm2, hx0, hx1, hy0, hy1, hl⟩ := hrel
    have HL := Lib.hid hl
    have HK := Lib.hid hok
    clear hl hok
    by_cases hm : 0 < m
    · have hlen : (ps.length : Int) ≤ 4 := by omega
      have hd' := hd.alloc (.cells #[.int .i64 x, .int .i64 y] 70)
      go_wp2_with (at_builtin; refine wpList_append_own _ rfl _ _ 26 rfl w.heap.size 70 i0 _ 2 16 Try.underlying26 hi hz0 hz1 hz2 rfl (by decide) _ _ _ rfl (hown.alloc _) ⟨wr.heap.size, 0, none⟩ 1 1 [.int .i64 x, .int .i64 y] rfl rfl ?c1 ?c2 ?c3 ?c4 ?c5 ?_)
      case c1 =>
        intro j u hu
        have hj : j < 2 := by
          have := (List.getElem?_eq_some_iff.1 hu).1
          simpa using this
        have : j = 0 ∨ j = 1 := by omega
        rcases this with rfl | rfl <;> (simp at hu; subst hu; exact cell_new rfl)
      case c2 => intro u hu; simp at hu; rcases hu with rfl | rfl <;> rfl
      case c3 => unfold maxLen; omega
      case c4 => omega
      case c5 => have := hd.2.2.1; simp; omega
      intro v' w4 hown4 hgrow _
      have hd4 := Lib.hid (hd'.app hpw hgrow (fun k hk => (hown.lt k hk).1))
      rw [pcells_snoc] at hown4
      have HO4 := Lib.hid hown4
      clear hown4 hgrow hd hown hd'
      go_wp2_with fail
      refine (pick_draw p w4.heap.size 0 4 4 (fun i => ([0, 3, 20, 100] : List Int).getD i 0) _ (hd4.out.alloc _).cur (by decide) (by decide) (by have := hd4.out.cur.lt; omega) (fun i hi => ?_) 0 100 (fun i hi => ?_)).mono ?_
      · rw [Nat.zero_add]
        have : i = 0 ∨ i = 1 ∨ i = 2 ∨ i = 3 := by omega
        rcases this with rfl | rfl | rfl | rfl <;> exact cell_new rfl
      · have : i = 0 ∨ i = 1 ∨ i = 2 ∨ i = 3 := by omega
        rcases this with rfl | rfl | rfl | rfl <;> decide
      rintro e w5 ⟨a, a0, a1, rfl, hd5⟩
      have HO5 := Lib.hid (own_drawn hd5 hpw (HO4.out.alloc _))
      have HD5 := Lib.hid ((hd4.out.alloc _).trans hd5)
      clear hd5 hd4 HO4
      go_wp2_with fail
      refine (pick_draw p w5.heap.size 0 4 4 (fun i => ([0, 1, 50, 1000] : List Int).getD i 0) _ (HD5.out.alloc _).cur (by decide) (by decide) (by have := HD5.out.cur.lt; omega) (fun i hi => ?_) 0 1000 (fun i hi => ?_)).mono ?_
      · rw [Nat.zero_add]
        have : i = 0 ∨ i = 1 ∨ i = 2 ∨ i = 3 := by omega
        rcases this with rfl | rfl | rfl | rfl <;> exact cell_new rfl
      · have : i = 0 ∨ i = 1 ∨ i = 2 ∨ i = 3 := by omega
        rcases this with rfl | rfl | rfl | rfl <;> decide
      rintro e w6 ⟨b, b0, b1, rfl, hd6⟩
      have HO6 := Lib.hid (own_drawn hd6 hpw (HO5.out.alloc _))
      have HD6 := Lib.hid ((HD5.out.alloc _).trans hd6)
      clear hd6 HD5 HO5
      go_wp2
      go_roundw
      case rel =>
        refine ⟨ps ++ [(x, y)], x + 1 + a, y + b, m - 1, rfl, rfl, rfl, HD6.out, by rw [List.length_append, List.length_singleton]; exact HO6.out, ok_snoc HK.out ⟨hx0, by omega⟩ ⟨hy0, by omega⟩ HL.out, by omega, by simp; omega, by simp; omega, by omega, by simp; omega, by omega, by simp; omega, fun _ => ?_⟩
        rw [List.length_append, List.length_singleton, Nat.add_sub_cancel, px_last.1, px_last.2]
        omega
      case measure => simp [intOf]; omega
    · have hn2 : 2 ≤ ps.length := by omega
      have hn5 : ps.length ≤ 5 := by omega
      obtain ⟨g, cap, cur, hv, hg1, hh, hr⟩ := hown.2.resolve_left (fun h => by omega)
      subst hv
      go_wp2
      go_ret
      refine ⟨g, ps.length, cap, px ps, py ps, rfl, hg1, (Array.getElem?_eq_some_iff.1 hh).1, fun _ => ⟨g, 0, rfl, fun i hi => ?_⟩, ?_, ?_, hd⟩
      · rw [Nat.zero_add, hown.cellAt _ (by omega), hown.cellAt _ (by omega)]
        exact pcells_at ps i hi
      · unfold tabOk; rw [HK.out, inB_yes (by omega) (by omega)]; rfl
      · have h1 := (HL.out (by omega)).1; have h2 := (HL.out (by omega)).2; exact ⟨by omega, by omega⟩
end Go.Proofs.Ytkaddacflblghaa.C1
