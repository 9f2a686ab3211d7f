/- The drawn pauses: valid, in memory of their own. -/
import Derived.Test.YtaacgajpjkfplaaCur
import Derived.Test.YtaacgajpjkfplaaPaN
import Derived.Laws.AppendOwn
import Derived.Laws.OwnMore
import Derived.OwnWalk
namespace Go.Proofs.Ytaacgajpjkfplaa.C1
open Go.ChangeShapes Go.WideShapes Go.ChangeAt Go.RowKit
set_option linter.unusedVariables false

def qcells (ps : List (Int × Int)) : List Value := ps.flatMap fun p => [.int .i64 p.1, .int .i64 p.2]
def qx (ps : List (Int × Int)) (i : Nat) : Int := (ps.getD i (0, 0)).1
def qy (ps : List (Int × Int)) (i : Nat) : Int := (ps.getD i (0, 0)).2
theorem qcells_snoc (ps : List (Int × Int)) (x y : Int) : qcells ps ++ [.int .i64 x, .int .i64 y] = qcells (ps ++ [(x, y)]) := by simp [qcells]
theorem qcells_at (ps : List (Int × Int)) : ∀ i, i < ps.length → (qcells ps)[i * 2]? = some (.int .i64 (qx ps i)) ∧ (qcells ps)[i * 2 + 1]? = some (.int .i64 (qy ps i)) := by
  induction ps with
  | nil => intro i hi; simp at hi
  | cons p ps ih =>
    intro i hi
    cases i with
    | zero => simp [qcells, qx, qy]
    | succ i =>
      have h := ih i (by simpa using hi)
      have e : qcells (p :: ps) = .int .i64 p.1 :: .int .i64 p.2 :: qcells ps := by simp [qcells]
      rw [e, show (i + 1) * 2 = i * 2 + 1 + 1 by omega]
      simp only [List.getElem?_cons_succ]
      simpa [qx, qy] using h
theorem qx_snoc {ps : List (Int × Int)} {q : Int × Int} {i : Nat} (h : i < ps.length) : qx (ps ++ [q]) i = qx ps i ∧ qy (ps ++ [q]) i = qy ps i := by
  unfold qx qy; simp [List.getD_eq_getElem?_getD, List.getElem?_append_left h]
theorem qx_last {ps : List (Int × Int)} {q : Int × Int} : qx (ps ++ [q]) ps.length = q.1 ∧ qy (ps ++ [q]) ps.length = q.2 := by
  unfold qx qy; simp [List.getD_eq_getElem?_getD]
theorem psAt_same {F U F' U' : Nat → Int} {n : Nat} (h : ∀ i, i < n → F' i = F i ∧ U' i = U i) {i : Nat} (hi : i < n) : psAt F' U' i = psAt F U i := by
  unfold psAt lastU
  rw [(h i hi).1, (h i hi).2]
  by_cases h0 : i = 0
  · rw [if_pos h0, if_pos h0]
  · rw [if_neg h0, if_neg h0, (h (i - 1) (by omega)).2]
theorem ps_snoc {ps : List (Int × Int)} {x y : Int} (h : psTo (qx ps) (qy ps) ps.length = true) (hx : 0 ≤ x) (hxy : x < y) (hy : y ≤ 1000000) (hl : 0 < ps.length → qy ps (ps.length - 1) ≤ x) :
    psTo (qx (ps ++ [(x, y)])) (qy (ps ++ [(x, y)])) (ps ++ [(x, y)]).length = true := by
  rw [List.length_append, List.length_singleton, psTo_iff]
  intro i hi
  rcases Nat.lt_or_ge i ps.length with h1 | h1
  · rw [psAt_same (n := ps.length) (fun j hj => qx_snoc hj) h1]
    exact psTo_iff.1 h i h1
  · obtain rfl : i = ps.length := by omega
    rw [psAt_iff, qx_last.1, qx_last.2]
    refine ⟨?_, hxy, hy⟩
    unfold lastU
    split
    · exact hx
    · rw [(qx_snoc (by omega : ps.length - 1 < ps.length)).2]
      exact hl (by omega)
/-- Valid pauses were drawn. -/
def PausDrawn (w : World) (e : Ending) (w' : World) : Prop :=
  ∃ (A : Option Addr) (n cap : Nat) (F U : Nat → Int), e = .returned (.slice A n cap) ∧ n ≤ 3 ∧ n ≤ cap ∧ Pts w' A n F U ∧ psTo F U n = true ∧ Below w.heap.size w w'
theorem infoPs' : (Try.prog.info? 64).map (fun i => (i.zero, i.size, i.bytes)) = some (some (.agg #[.int .i64 0, .int .i64 0]), 2, 16) := by kernel_rfl
set_option maxHeartbeats 8000000 in
theorem pauses_draw (A : Option Addr) (N cp : Nat) (f : Nat → Int) (w : World) (hn : N ≤ 1048576) (hs : SrcB w A N f) : Calls Try.prog 21 #[.slice A N cp] w (PausDrawn w) := by
  obtain ⟨i0, hi, hz0, hz1, hz2⟩ := info_parts infoPs'
  have HS := Lib.hid hs
  clear hs
  go_enter Try.func21, Try.ntmps21
  go_wp2_with fail
  refine (new_draw _ _ _ f _ hn HS.out).mono ?_
  rintro e w1 ⟨rfl, hb1, hs1, hc1⟩
  obtain ⟨p, hp⟩ : ∃ p, p = w.heap.size := ⟨_, rfl⟩
  rw [← hp] at hc1 ⊢
  have hpl : w.heap.size ≤ p := by omega
  clear hp hs1
  have hpw : p < w1.heap.size := hc1.lt
  have HB1 := Lib.hid hb1
  have HC1 := Lib.hid hc1
  clear hb1 hc1
  have HO0 := Lib.hid (World.ownsRow_made (size := 2) (e := 64) w1 #[] 0 (Nat.le_refl _) (by decide) rfl)
  go_wp2_with fail
  refine (below_draw p 20 _ (HC1.out.below ((Below.refl _ _).alloc (Nat.le_refl _) _)) (by omega) (by omega)).mono ?_
  rintro e w2 ⟨t, t0, t1, rfl, hd2⟩
  have HO2 := Lib.hid (own_drawn hd2 hpw HO0.out)
  have HD2 := Lib.hid (((Drawn.refl HC1.out).alloc _).trans hd2)
  clear hd2 HO0
  go_wp2_with fail
  refine (below_draw p 4 _ HD2.out.cur (by omega) (by omega)).mono ?_
  rintro e w3 ⟨m, m0, m1, rfl, hd3⟩
  have HO3 := Lib.hid (own_drawn hd3 hpw HO2.out)
  have HD3 := Lib.hid (HD2.out.trans hd3)
  clear hd3 HO2 HD2
  go_wp2
  go_loopw [4, 5, 6] (fun v s5 s6 wr => ∃ (ps : List (Int × Int)) (x m : Int), s5 = .int .i64 x ∧ s6 = .int .i64 m ∧ Drawn p w1 wr ∧ wr.ownsRow w1.heap.size 64 2 v ps.length (qcells ps) ∧
      psTo (qx ps) (qy ps) ps.length = true ∧ 0 ≤ m ∧ ps.length + m ≤ 3 ∧ 0 ≤ x ∧ x ≤ 20 + 40 * ps.length ∧ (0 < ps.length → qy ps (ps.length - 1) ≤ x)) (fun _ _ s6 _ => (intOf s6).toNat)
  case atStart => exact ⟨[], t, m, rfl, rfl, HD3.out, HO3.out, rfl, by omega, by simp; omega, by omega, by simp; omega, fun h => by simp at h⟩
  case round =>
    obtain ⟨ps, x, m, rfl, rfl, hd, hown, hok, hm0, hm3, hx0, hx1, hl⟩ := hrel
    have HL := Lib.hid hl
    have HK := Lib.hid hok
    clear hl hok
    by_cases hm : 0 < m
    · have hlen : (ps.length : Int) ≤ 2 := by omega
      go_wp2_with fail
      refine (below_draw p 20 _ hd.cur (by omega) (by omega)).mono ?_
      rintro e w4 ⟨a, a0, a1, rfl, hd4⟩
      have hown4 := own_drawn hd4 hpw hown
      have hd5 := (hd.trans hd4).alloc (.cells #[.int .i64 x, .int .i64 (x + (1 + a))] 64)
      have hs4 := (hd.trans hd4).2.2.1
      clear hd hown hd4
      go_wp2_with (at_builtin; refine wpList_append_own _ rfl _ _ 32 rfl w1.heap.size 64 i0 _ 2 16 Try.underlying32 hi hz0 hz1 hz2 rfl (by decide) _ _ _ rfl (hown4.alloc _) ⟨w4.heap.size, 0, none⟩ 1 1 [.int .i64 x, .int .i64 (x + (1 + a))] rfl rfl ?c1 ?c2 ?c3 ?c4 ?c5 ?_)
      case c1 =>
        intro j u hu
        have hj : j < 2 := by
          have := (List.getElem?_eq_some_iff.1 hu).1
          simpa using this
        have : j = 0 ∨ j = 1 := by omega
        rcases this with rfl | rfl <;> (simp at hu; subst hu; exact cell_new rfl)
      case c2 => intro u hu; simp at hu; rcases hu with rfl | rfl <;> rfl
      case c3 => unfold maxLen; omega
      case c4 => omega
      case c5 => simp; omega
      intro v' w6 hown6 hgrow _
      have HD6 := Lib.hid (hd5.app hpw hgrow (fun k hk => (hown4.lt k hk).1))
      rw [qcells_snoc] at hown6
      have HO6 := Lib.hid hown6
      clear hown6 hgrow hown4 hd5
      go_wp2_with fail
      refine (below_draw p 20 _ HD6.out.cur (by omega) (by omega)).mono ?_
      rintro e w7 ⟨b, b0, b1, rfl, hd7⟩
      have HO7 := Lib.hid (own_drawn hd7 hpw HO6.out)
      have HD7 := Lib.hid (HD6.out.trans hd7)
      clear hd7 HO6 HD6
      go_wp2
      go_roundw
      case rel =>
        refine ⟨ps ++ [(x, x + (1 + a))], x + (1 + a) + b, m - 1, rfl, rfl, HD7.out, by rw [List.length_append, List.length_singleton]; exact HO7.out, ps_snoc HK.out hx0 (by omega) (by omega) HL.out, by omega, by simp; omega, by omega, by simp; omega, fun _ => ?_⟩
        rw [List.length_append, List.length_singleton, Nat.add_sub_cancel, qx_last.2]
        omega
      case measure => simp [intOf]; omega
    · have hn3 : ps.length ≤ 3 := by omega
      have hres : ∀ v, wr.ownsRow w1.heap.size 64 2 v ps.length (qcells ps) → ∃ A c, v = .slice A ps.length c ∧ ps.length ≤ c ∧ Pts wr A ps.length (qx ps) (qy ps) := by
        intro v hown
        rcases hown.2 with ⟨rfl, h0⟩ | ⟨g, cap, cur, rfl, hg, hh, hcap, _⟩
        · exact ⟨none, 0, by rw [h0], by omega, fun h => by omega⟩
        · refine ⟨_, cap, rfl, hcap, fun _ => ⟨g, 0, rfl, fun i hi => ?_⟩⟩
          have hlen := hown.1
          rw [Nat.zero_add]
          exact ⟨(hown.cellAt _ (by omega)).trans (qcells_at ps i hi).1, (hown.cellAt _ (by omega)).trans (qcells_at ps i hi).2⟩
      obtain ⟨A', c', hv, hc', hP⟩ := hres _ hown
      subst hv
      have HB := Lib.hid (HB1.out.trans (hd.below (B := w.heap.size) hpl))
      go_wp2
      go_ret
      exact ⟨A', ps.length, c', qx ps, qy ps, rfl, hn3, hc', hP, HK.out, HB.out⟩
end Go.Proofs.Ytaacgajpjkfplaa.C1
