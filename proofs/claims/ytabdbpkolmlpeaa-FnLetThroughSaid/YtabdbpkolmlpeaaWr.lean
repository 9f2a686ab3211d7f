/- Weirs: their conversion and comparison by the laws, whether they are valid. -/
import Derived.Test.YtabdbpkolmlpeaaWeirM
import Derived.Test.YtabdbpkolmlpeaaRchL
import Derived.Deep.RegionHeld3
namespace Go.Proofs.Ytabdbpkolmlpeaa.C1
open Go.ChangeShapes Go.WideShapes Go.ChangeAt Go.RowKit
set_option linter.unusedVariables false

/-- What a function that gives a weir leaves. -/
def GivesW (w : World) (W : Wr) (e : Ending) (w' : World) : Prop := e = .returned (.agg #[.int .i64 W.g, .int .i64 W.o, .int .i64 W.s, .int .i64 W.k, .int .i64 W.w]) ∧ Below w.heap.size w w'
theorem full_impl (g o s k x : Int) (w : World) (h0 : 0 ≤ g) (h1 : g ≤ 8) : Calls Try.prog 123 #[.agg #[.int .i64 g, .int .i64 o, .int .i64 s, .int .i64 k, .int .i64 x]] w fun e w' => e = .returned (.int .i64 (10 * g)) ∧ w' = w.alloc (.cells #[.int .i64 g, .int .i64 o, .int .i64 s, .int .i64 k, .int .i64 x] 39) := by
  go_enter Try.func123, Try.ntmps123
  go_wp2
  go_ret
  exact ⟨rfl, rfl⟩
theorem clamp_at {n lo hi : Int} {w : World} {z : Int} (h : clampZ n lo hi = z) : Calls Try.prog 122 #[.int .i64 n, .int .i64 lo, .int .i64 hi] w fun e w' => e = .returned (.int .i64 z) ∧ w = w' := by subst h; exact clamp_impl _ _ _ _
set_option maxHeartbeats 4000000 in
theorem bounded_impl (W : Wr) (w : World) : Calls Try.prog 88 #[.agg #[.int .i64 W.g, .int .i64 W.o, .int .i64 W.s, .int .i64 W.k, .int .i64 W.w]] w (GivesW w (cW W)) := by
  obtain ⟨g, o, s, k, x⟩ := W
  obtain ⟨g1, hg⟩ : ∃ z, clampZ g 1 8 = z := ⟨_, rfl⟩
  have c := clampZ_bd (n := g) (show (1 : Int) ≤ 8 by decide)
  rw [hg] at c
  obtain ⟨o1, ho⟩ : ∃ z, clampZ o 0 (10 * g1) = z := ⟨_, rfl⟩
  obtain ⟨s1, hs⟩ : ∃ z, clampZ s 1 80 = z := ⟨_, rfl⟩
  obtain ⟨k1, hk⟩ : ∃ z, clampZ k 0 100000 = z := ⟨_, rfl⟩
  obtain ⟨x1, hx⟩ : ∃ z, clampZ x 1 1000 = z := ⟨_, rfl⟩
  have hw : cW ⟨g, o, s, k, x⟩ = ⟨g1, o1, s1, k1, x1⟩ := by unfold cW; simp only [hg, ho, hs, hk, hx]
  rw [hw]
  have HG := Lib.hid hg; have HO := Lib.hid ho; have HS := Lib.hid hs; have HK := Lib.hid hk; have HX := Lib.hid hx
  clear hg ho hs hk hx hw
  show Calls Try.prog 88 #[.agg #[.int .i64 g, .int .i64 o, .int .i64 s, .int .i64 k, .int .i64 x]] w (GivesW w ⟨g1, o1, s1, k1, x1⟩)
  go_enter Try.func88, Try.ntmps88
  go_wp2_with fail
  refine (clamp_at HG.out).mono ?_
  rintro e w' ⟨rfl, rfl⟩
  go_wp2_with fail
  go_region_with (first | (go_at_call 122; refine (clamp_at HO.out).mono ?_; rintro e w' ⟨rfl, rfl⟩) | (go_at_call 123; refine (full_impl _ _ _ _ _ _ (by omega) (by omega)).mono ?_; rintro e w' ⟨rfl, rfl⟩))
  all_goals
    go_wp2_with fail
    refine (clamp_at HS.out).mono ?_
    rintro e w' ⟨rfl, rfl⟩
    go_wp2_with fail
    refine (clamp_at HK.out).mono ?_
    rintro e w' ⟨rfl, rfl⟩
    go_wp2_with fail
    refine (clamp_at HX.out).mono ?_
    rintro e w' ⟨rfl, rfl⟩
    go_wp2
    refine bodyPost_ret (v := .agg #[.int .i64 g1, .int .i64 o1, .int .i64 s1, .int .i64 k1, .int .i64 x1]) (by simp [results, Try.results88, go_sem]) rfl ?_
    exact ⟨rfl, by (repeat' (first | (with_reducible exact Below.refl _ _) | (with_reducible refine Below.drew ?_) | (with_reducible refine Below.alloc ?_ ?_ _) | (with_reducible refine Below.setCell ?_ ?_ _) | (first | omega | (simp; omega) | (simp; done))))⟩
end Go.Proofs.Ytabdbpkolmlpeaa.C1
