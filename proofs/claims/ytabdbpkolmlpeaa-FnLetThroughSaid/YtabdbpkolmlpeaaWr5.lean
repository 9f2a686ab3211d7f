/- GateFlow, of the program and of its model. -/
import Derived.Test.YtabdbpkolmlpeaaWr4
namespace Go.Proofs.Ytabdbpkolmlpeaa.C1
open Go.ChangeShapes Go.WideShapes Go.ChangeAt Go.RowKit
set_option linter.unusedVariables false

/-- The formula of a weir, as a function value: what it captured. -/
theorem gform_one (n x r : Int) (b b2 : Nat) (w : World) (h0 : 0 ≤ n * x) (h1 : n * x ≤ 80000) (h2 : 0 ≤ n * x * r) (h3 : n * x * r ≤ 25280000) (c0 : w.cell? ⟨b, 4, none⟩ = some (.int .i64 x)) (c1 : w.cell? ⟨b2, 0, none⟩ = some (.int .i64 r)) :
    Calls Try.prog 90 #[.int .i64 n, .pointer (some ⟨b, 0, none⟩), .pointer (some ⟨b2, 0, none⟩)] w fun e w' => e = .returned (.int .i64 (n * x * r / 10)) ∧ w = w' := by
  go_enter Try.func90, Try.ntmps90
  go_wp2
  go_ret
  exact ⟨rfl, rfl⟩
theorem root_at {n z : Int} (h : rootZ n = z) (w : World) (h0 : -9223372036854775808 ≤ n) (h1 : n ≤ 9223372036854775807) : Calls Try.prog 89 #[.int .i64 n] w fun e w' => e = .returned (.int .i64 z) ∧ w = w' := by
  subst h; exact root_impl _ _ h0 h1
set_option maxHeartbeats 1000000 in
theorem gform (W : Wr) (up down : Int) (w : World) (hk0 : 0 ≤ W.k) (hk1 : W.k ≤ 100000) (u0 : 0 ≤ up) (u1 : up ≤ 100000) (d0 : 0 ≤ down) (d1 : down ≤ 100000) :
    Calls Try.prog 46 #[.agg #[.int .i64 W.g, .int .i64 W.o, .int .i64 W.s, .int .i64 W.k, .int .i64 W.w], .int .i64 up, .int .i64 down] w fun e w' => e = .returned (.func (Fn.func 90) #[] #[.pointer (some ⟨w.heap.size, 0, none⟩), .pointer (some ⟨w.heap.size + 1, 0, none⟩)]) ∧
      w'.cell? ⟨w.heap.size, 4, none⟩ = some (.int .i64 W.w) ∧ w'.cell? ⟨w.heap.size + 1, 0, none⟩ = some (.int .i64 (rootW W up down)) ∧ Below w.heap.size w w' := by
  have hmf : ∀ (fn : Fn) (first cap : Array Value) (w : World), (Instr.makeFunc fn first cap).run Try.prog w = .ok (.func fn first cap) w := fun _ _ _ _ => rfl
  go_enter Try.func46, Try.ntmps46
  go_wp2_with fail
  all_goals
    refine (root_at (z := rootW W up down) (by unfold rootW headZ; congr 1; omega) _ (by omega) (by omega)).mono ?_
    rintro e w' ⟨rfl, rfl⟩
    go_wp2
    go_ret
    exact ⟨rfl, by simp, by simp, by (repeat' (first | (with_reducible exact Below.refl _ _) | (with_reducible refine Below.drew ?_) | (with_reducible refine Below.alloc ?_ ?_ _) | (with_reducible refine Below.setCell ?_ ?_ _) | (first | omega | (simp; omega) | (simp; done))))⟩
theorem gflow_cases (W : Wr) (up down : Int) : (wOk W = false ∧ flowW W up down = 0) ∨ (wOk W = true ∧ inB up 0 100000 = false ∧ flowW W up down = 0) ∨ (wOk W = true ∧ inB up 0 100000 = true ∧ inB down 0 100000 = false ∧ flowW W up down = 0) ∨
    (wOk W = true ∧ inB up 0 100000 = true ∧ inB down 0 100000 = true ∧ flowW W up down = openFlow W up down W.o) := by
  unfold flowW flowB
  cases wOk W <;> cases inB up 0 100000 <;> cases inB down 0 100000 <;> simp
theorem gform_hb {W0 w : World} {HB : Hid (Below W0.heap.size W0 w)} (W : Wr) (up down : Int) (hk0 : 0 ≤ W.k) (hk1 : W.k ≤ 100000) (u0 : 0 ≤ up) (u1 : up ≤ 100000) (d0 : 0 ≤ down) (d1 : down ≤ 100000) :
    Calls Try.prog 46 #[.agg #[.int .i64 W.g, .int .i64 W.o, .int .i64 W.s, .int .i64 W.k, .int .i64 W.w], .int .i64 up, .int .i64 down] w fun e w' => e = .returned (.func (Fn.func 90) #[] #[.pointer (some ⟨w.heap.size, 0, none⟩), .pointer (some ⟨w.heap.size + 1, 0, none⟩)]) ∧
      w'.cell? ⟨w.heap.size, 4, none⟩ = some (.int .i64 W.w) ∧ w'.cell? ⟨w.heap.size + 1, 0, none⟩ = some (.int .i64 (rootW W up down)) ∧ Hid (Below W0.heap.size W0 w') :=
  (gform W up down w hk0 hk1 u0 u1 d0 d1).mono fun e w' ⟨h1, h2, h3, h4⟩ => ⟨h1, h2, h3, Lib.hid (HB.out.trans (h4.mono HB.out.size))⟩
set_option maxHeartbeats 2000000 in
theorem gflow_impl (W : Wr) (up down : Int) (w : World) : Calls Try.prog 17 #[.agg #[.int .i64 W.g, .int .i64 W.o, .int .i64 W.s, .int .i64 W.k, .int .i64 W.w], .int .i64 up, .int .i64 down] w fun e w' => e = .returned (.int .i64 (flowW W up down)) ∧ Below w.heap.size w w' := by
  have HB0 := Lib.hid ((Below.refl w.heap.size w).alloc (Nat.le_refl _) (.cells #[.int .i64 W.g, .int .i64 W.o, .int .i64 W.s, .int .i64 W.k, .int .i64 W.w] 39))
  go_enter Try.func17, Try.ntmps17
  go_wp2_with fail
  refine (wok_impl W _).mono ?_
  rintro e w1 ⟨rfl, hb1⟩
  have HB1 := Lib.hid (HB0.out.trans (hb1.mono (by simp)))
  have HX := Lib.hid ((Box5.new w (.int .i64 W.g) (.int .i64 W.o) (.int .i64 W.s) (.int .i64 W.k) (.int .i64 W.w) 39).below hb1)
  have q1 : w.heap.size < w1.heap.size := by have := hb1.size; simp at this; omega
  clear hb1
  rcases gflow_cases W up down with ⟨h, hs⟩ | ⟨h, h1, hs⟩ | ⟨h, h1, h2, hs⟩ | ⟨h, h1, h2, hs⟩
  · have HS := Lib.hid hs
    rw [h]
    clear h hs
    go_wp2
    go_ret
    exact ⟨ret_int HS.out.symm, HB1.out⟩
  · have HS := Lib.hid hs
    rw [h]
    clear h hs
    go_wp2_with (go_at_call 45; refine (lev_impl _ _).mono ?_; rintro e w' ⟨rfl, rfl⟩)
    go_ret
    exact ⟨ret_int HS.out.symm, HB1.out⟩
  · have HS := Lib.hid hs
    rw [h]
    clear h hs
    go_wp2_with (go_at_call 45; refine (lev_impl _ _).mono ?_; rintro e w' ⟨rfl, rfl⟩)
    go_ret
    exact ⟨ret_int HS.out.symm, HB1.out⟩
  · have HS := Lib.hid hs
    have P := wOk_iff.1 h
    have p0 := P.k0; have p1 := P.k1
    have u0 := (inB_iff.1 h1).1; have u1 := (inB_iff.1 h1).2
    have d0 := (inB_iff.1 h2).1; have d1 := (inB_iff.1 h2).2
    have HQ := Lib.hid (openFlow_parts (down := down) P u1 P.o0 (by have := P.o1; have := P.g1; omega))
    rw [h]
    clear h hs P
    go_wp2_with (go_at_call 45; refine (lev_impl _ _).mono ?_; rintro e w' ⟨rfl, rfl⟩)
    clear h1 h2
    obtain ⟨x0, x1, x2, x3, x4⟩ := HX.out.at
    go_region_held3 (fun w' => w'.cell? ⟨w.heap.size, 0, none⟩ = some (.int .i64 W.g) ∧ w'.cell? ⟨w.heap.size, 1, none⟩ = some (.int .i64 W.o) ∧ w'.cell? ⟨w.heap.size, 2, none⟩ = some (.int .i64 W.s) ∧ w'.cell? ⟨w.heap.size, 3, none⟩ = some (.int .i64 W.k) ∧ w'.cell? ⟨w.heap.size, 4, none⟩ = some (.int .i64 W.w))
      (first | assumption | exact ⟨x0, x1, x2, x3, x4⟩)
      (first
        | (go_at_call 46; refine (gform_hb (W0 := w1) (HB := by first | exact Lib.hid (Below.refl _ _) | exact Lib.hid (Below.refl _ _).drew) W up down p0 p1 u0 u1 d0 d1).mono ?_; rintro e w2 ⟨rfl, k4, k0, HB2⟩
           have S1 := (HX.out.below HB2.out).at
           try simp only [World.size_drew] at k4 k0)
        | (go_at_call 90; refine (gform_one _ _ _ _ _ _ HQ.out.1 HQ.out.2.1 HQ.out.2.2.1 HQ.out.2.2.2 k4 k0).mono ?_; rintro e w3 ⟨rfl, rfl⟩))
    go_wp2
    go_ret
    exact ⟨ret_int (by rw [HS.out]; rfl), HB1.out.trans (HB2.out.mono (by omega))⟩
end Go.Proofs.Ytabdbpkolmlpeaa.C1
