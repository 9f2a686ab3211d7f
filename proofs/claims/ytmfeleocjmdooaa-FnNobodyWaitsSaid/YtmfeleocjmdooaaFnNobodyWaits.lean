/-
  For every input the Go function 'laws.FnNobodyWaits' returns true, and each argument reads afterwards as it read before. No further condition.
-/
import Derived.Test.YtmfeleocjmdooaaSt
import Derived.Test.YtmfeleocjmdooaaReL
import Derived.Test.YtmfeleocjmdooaaHeld
import Derived.Test.YtmfeleocjmdooaaLift
import Derived.Test.YtmfeleocjmdooaaIo
import Derived.Test.YtmfeleocjmdooaaOpen
import Derived.ChangeMaps5
namespace Go.Proofs.Ytmfeleocjmdooaa.fnNobodyWaits
open Go.Proofs.Ytmfeleocjmdooaa.C1 Go.Proofs.Ytmfeleocjmdooaa.Lift Go.Proofs.Ytmfeleocjmdooaa.Opened
open Go.ChangeShapes Go.WideShapes Go.ChangeAt Go.RowKit Go.ChangeMaps
set_option linter.unusedVariables false

set_option linter.unusedSimpArgs false
theorem _root_.Go.Proofs.Ytmfeleocjmdooaa.C1.Box4.far {w : World} {b g j : Nat} {x y z u : Value} {t : TypeId} (h : Box4 w b x y z u t) (s : Value) (hne : b ≠ g) : Box4 (w.setCell ⟨g, j, none⟩ s) b x y z u t := (Below.heap_setCell w ⟨g, j, none⟩ s b hne).trans h
theorem wait_facts (up : Bool) (M : List (List Bt)) (s t u v : Int) (hM : tOk M = true) (s0 : 0 ≤ s) (s1 : s ≤ 255) (t0 : 0 ≤ t) (t1 : t ≤ 255) (u0 : 0 ≤ u) (u1 : u ≤ 255) (m0 : 0 ≤ v) (m1 : v < 3) :
    clOk ⟨up, M, s, -1⟩ = true ∧ clOk ⟨false, [[⟨77, 1, 1, 1, 1, v⟩]], s + 1 + t, -1⟩ = true ∧ (40 ≤ s + 1 + t + u - s → bfZ ⟨up, M, s, -1⟩ ⟨false, [[⟨77, 1, 1, 1, 1, v⟩]], s + 1 + t, -1⟩ (s + 1 + t + u) = true ∧ rkZ ⟨up, M, s, -1⟩ (s + 1 + t + u) = 0) ∧
      bfZ ⟨false, [[⟨77, 1, 1, 1, 1, v⟩]], s + 1 + t, s + 1 + t + u⟩ ⟨up, M, s, -1⟩ (s + 1 + t + u) = true ∧ bfZ ⟨up, M, s, -1⟩ ⟨false, [[⟨77, 1, 1, 1, 1, v⟩]], s + 1 + t, s + 1 + t + u⟩ (s + 1 + t + u) = false := by
  have hb : tOk [[(⟨77, 1, 1, 1, 1, v⟩ : Bt)]] = true := by
    refine tOk_iff.2 ⟨fun r hr e => ?_, by simp [bts], by simp [bts], fun b hb => ?_, ?_⟩
    · simp at hr; subst hr; cases e
    · simp [bts] at hb; subst hb
      exact ⟨(by show (1 : Int) ≤ 77; decide), (by show (77 : Int) ≤ 9999; decide), (by show (1 : Int) ≤ 1; decide), (by show (1 : Int) ≤ 200; decide), (by show (1 : Int) ≤ 1; decide), (by show (1 : Int) ≤ 30; decide), (by show (1 : Int) ≤ 1; decide), (by show (1 : Int) ≤ 100; decide), (by show (1 : Int) ≤ 1; decide), (by show (1 : Int) ≤ 50; decide), m0, by show v ≤ 2; omega⟩
    · rfl
  have ka : clOk ⟨up, M, s, -1⟩ = true := clOk_iff.2 ⟨hM, s0, (by show s ≤ 1000000; omega), (by show (-1 : Int) ≤ -1; decide), (by show (-1 : Int) ≤ 1000000; decide)⟩
  have kb : clOk ⟨false, [[⟨77, 1, 1, 1, 1, v⟩]], s + 1 + t, -1⟩ = true := clOk_iff.2 ⟨hb, (by show 0 ≤ s + 1 + t; omega), (by show s + 1 + t ≤ 1000000; omega), (by show (-1 : Int) ≤ -1; decide), (by show (-1 : Int) ≤ 1000000; decide)⟩
  have kx : clOk ⟨false, [[⟨77, 1, 1, 1, 1, v⟩]], s + 1 + t, s + 1 + t + u⟩ = true := clOk_iff.2 ⟨hb, (by show 0 ≤ s + 1 + t; omega), (by show s + 1 + t ≤ 1000000; omega), (by show -1 ≤ s + 1 + t + u; omega), (by show s + 1 + t + u ≤ 1000000; omega)⟩
  have na : inB (s + 1 + t + u) s 1000000 = true := inB_yes (by omega) (by omega)
  have nb : inB (s + 1 + t + u) (s + 1 + t) 1000000 = true := inB_yes (by omega) (by omega)
  have ra := rk_in ka na
  have rb := rk_in kb nb
  have rx := rk_in kx nb
  have ba : inB (-1) 0 (s + 1 + t + u) = false := inB_no (Or.inl (by decide))
  have bx : inB (s + 1 + t + u) 0 (s + 1 + t + u) = true := inB_yes (by omega) (Int.le_refl _)
  simp only at ra rb rx
  rw [ba, if_neg (by decide)] at ra rb
  rw [bx, if_pos rfl] at rx
  have ca := cla_bd hM
  have cb := cla_bd hb
  unfold waitZ at ra rb
  simp only at ra rb
  refine ⟨ka, kb, fun ho => ?_, ?_, ?_⟩
  · have ra0 : rkZ ⟨up, M, s, -1⟩ (s + 1 + t + u) = 0 := by rw [ra]; omega
    refine ⟨?_, ra0⟩
    have rb0 : 0 ≤ rkZ ⟨false, [[⟨77, 1, 1, 1, 1, v⟩]], s + 1 + t, -1⟩ (s + 1 + t + u) ∧ rkZ ⟨false, [[⟨77, 1, 1, 1, 1, v⟩]], s + 1 + t, -1⟩ (s + 1 + t + u) ≤ 2 := by rw [rb]; omega
    by_cases he : rkZ ⟨up, M, s, -1⟩ (s + 1 + t + u) = rkZ ⟨false, [[⟨77, 1, 1, 1, 1, v⟩]], s + 1 + t, -1⟩ (s + 1 + t + u)
    · rw [bf_since (by omega) he (by omega) (by show s ≠ s + 1 + t; omega)]
      exact decide_eq_true (by show s < s + 1 + t; omega)
    · rw [bf_rank (by omega) (by omega) he]
      exact decide_eq_true (by omega)
  · have ra0 : 0 ≤ rkZ ⟨up, M, s, -1⟩ (s + 1 + t + u) ∧ rkZ ⟨up, M, s, -1⟩ (s + 1 + t + u) ≤ 2 := by rw [ra]; omega
    rw [bf_rank (by omega) (by omega) (by omega)]
    exact decide_eq_true (by omega)
  · have ra0 : 0 ≤ rkZ ⟨up, M, s, -1⟩ (s + 1 + t + u) ∧ rkZ ⟨up, M, s, -1⟩ (s + 1 + t + u) ≤ 2 := by rw [ra]; omega
    rw [bf_rank (by omega) (by omega) (by omega)]
    exact decide_eq_false (by omega)
theorem at_world {P : Program} {f : FuncId} {args : Array Value} {w : World} {Q : Ending → World → Prop} (h : ∀ W, W = w → Calls P f args W Q) : Calls P f args w Q := h w rfl
set_option maxRecDepth 100000 in
set_option maxHeartbeats 8000000 in
theorem walk (A : Option Addr) (n cap : Nat) (f : Nat → Int) (w : World) (hn : n ≤ 9223372036854775807) (hs : SrcB w A n f) :
    Calls Try.prog 5 #[.slice A n cap] w fun e w' => e = .returned (.bool true) ∧ Below w.heap.size w w' := by
  by_cases hbig : 1048576 < n
  · go_enter Try.func5, Try.ntmps5
    go_wp2_with (go_at_call 26; refine (big_yes _ _ _ _ hbig).mono ?_; rintro e w' ⟨rfl, rfl⟩)
    go_ret
    exact ⟨rfl, Below.refl _ _⟩
  have hl : n ≤ 1048576 := by omega
  have HS := vl hs
  clear hs hbig
  go_enter Try.func5, Try.ntmps5
  go_wp2_with fail
  refine (big_no _ _ _ _ hl).mono ?_
  rintro e w' ⟨rfl, rfl⟩
  go_wp2_with fail
  refine (drawtrain _ _ _ f _ hl HS.out).mono ?_
  rintro e w1 ⟨up, A1, c1, k, M, rfl, k1, k4, hTD, hp, hb1⟩
  have HTI := vl (tOk_iff.2 (hTD.ok (by omega) (by omega) k1 (by omega)))
  have HM := vl (hTD.mod (by omega))
  have HP := vl hp
  have HB1 := vl hb1
  have HS1 := vl (HS.out.below hb1)
  clear hTD hp hb1
  go_wp2_with fail
  refine (at_law A n cap 0 _ f hl (by omega) (by omega) HS1.out).mono ?_
  rintro e w' ⟨rfl, rfl⟩
  obtain ⟨s0, s1⟩ := atZ_bd HS1.out 0
  generalize atZ n f 0 = s at *
  obtain ⟨W0, hW0⟩ : ∃ W0, W0 = (w1.alloc (.cells #[.bool up, .slice A1 M.length c1, .int .i64 s, .int .i64 (-1)] 44)).alloc (.cells #[.bool up, .slice A1 M.length c1, .int .i64 s, .int .i64 (-1)] 44) := ⟨_, rfl⟩
  obtain ⟨p, hp⟩ : ∃ p, p = w1.heap.size := ⟨_, rfl⟩
  obtain ⟨q, hq⟩ : ∃ q, q = p + 1 := ⟨_, rfl⟩
  have HX0 := vl (show Box4 W0 p (.bool up) (.slice A1 M.length c1) (.int .i64 s) (.int .i64 (-1)) 44 from by rw [hW0, hp]; exact (Box4.new w1 _ _ _ _ _).alloc _)
  have HY0 := vl (show Box4 W0 q (.bool up) (.slice A1 M.length c1) (.int .i64 s) (.int .i64 (-1)) 44 from by
    rw [hW0, hq, hp]
    have := Box4.new (w1.alloc (.cells #[.bool up, .slice A1 M.length c1, .int .i64 s, .int .i64 (-1)] 44)) (.bool up) (.slice A1 M.length c1) (.int .i64 s) (.int .i64 (-1)) 44
    simpa using this)
  have HB0 := vl (show Below w1.heap.size w1 W0 from by rw [hW0]; exact ((Below.refl w1.heap.size w1).alloc (Nat.le_refl _) _).alloc (by simp) _)
  have hpl : w1.heap.size ≤ p := by omega
  have hql : w1.heap.size ≤ q := by omega
  have hpq : p < q := by omega
  go_wp2
  rw [← hW0, ← hp, ← hq]
  clear hW0 hp hq
  have q0 := HX0.out.lt
  have q1 := HY0.out.lt
  obtain ⟨x0, x1, x2, x3⟩ := HX0.out.at
  refine wp_region_held_drew (S := fun w' => w'.cell? ⟨p, 2, none⟩ = some (.int .i64 s)) (by kernel_rfl) x2 (fun hHeld0 => ?_)
  clear x0 x1 x2 x3
  try dsimp only at hHeld0
  refine wpAnyH_take (i := 0) (oi := _) (v := ?_) rfl (by kernel_rfl) (by kernel_rfl) (by kernel_rfl) (fun _ _ _ h => h) (Or.inl ⟨by rfl, ?_⟩) (by assumption) ?_
  rotate_left 1
  · intro w hSw
    try dsimp only at hSw
    go_simp
    try with_reducible rfl
  try simp only [Act.put, List.setIfInBounds_toArray, List.set_cons_zero, List.set_cons_succ]
  refine wpAnyH_take (i := 1) (oi := _) (v := ?_) rfl (by kernel_rfl) (by kernel_rfl) (by kernel_rfl) (fun _ _ _ h => h) (Or.inl ⟨by rfl, ?_⟩) (by assumption) ?_
  rotate_left 1
  · intro w hSw
    try dsimp only at hSw
    go_simp
    try with_reducible rfl
  try simp only [Act.put, List.setIfInBounds_toArray, List.set_cons_zero, List.set_cons_succ]
  refine wpAnyH_take (i := 2) (oi := _) (v := ?_) rfl (by kernel_rfl) (by kernel_rfl) (by kernel_rfl) (fun _ _ _ h => h) (Or.inl ⟨by rfl, ?_⟩) (by assumption) ?_
  rotate_left 1
  · intro w hSw
    try dsimp only at hSw
    go_simp
    try with_reducible rfl
  try simp only [Act.put, List.setIfInBounds_toArray, List.set_cons_zero, List.set_cons_succ]
  refine wpAnyH_take (i := 3) (oi := _) (v := ?_) rfl (by kernel_rfl) (by kernel_rfl) (by kernel_rfl) (fun _ _ _ h => h) (Or.inl ⟨by rfl, ?_⟩) (by assumption) ?_
  rotate_left 1
  · intro w hSw
    try dsimp only at hSw
    go_simp
    try with_reducible rfl
  try simp only [Act.put, List.setIfInBounds_toArray, List.set_cons_zero, List.set_cons_succ]
  refine wpAnyH_ready (rs := [4]) (by kernel_rfl) (by simp) ?_
  refine AllReadyH.cons (o := _) rfl (fun K hK => ?_) AllReadyH.nil
  go_simp
  go_at_call 38
  with_reducible refine (at_law A n cap 1 _ f hl (by omega) (by omega) (HS1.out.below HB0.out.drew)).mono ?_
  rintro e _ ⟨rfl, rfl⟩
  go_simp
  refine hK.out _ _ hHeld0 (fun hHeld => ?_)
  clear hK K hHeld
  try simp only [Act.put, List.setIfInBounds_toArray, List.set_cons_zero, List.set_cons_succ]
  refine wpAnyH_take (i := 5) (oi := _) (v := ?_) rfl (by kernel_rfl) (by kernel_rfl) (by kernel_rfl) (fun _ _ _ h => h) (Or.inl ⟨by rfl, ?_⟩) (by assumption) ?_
  rotate_left 1
  · intro w hSw
    try dsimp only at hSw
    go_simp
    try with_reducible rfl
  try simp only [Act.put, List.setIfInBounds_toArray, List.set_cons_zero, List.set_cons_succ]
  refine wpAnyH_take (i := 6) (oi := _) (v := ?_) rfl (by kernel_rfl) (by kernel_rfl) (by kernel_rfl) (fun _ _ _ h => h) (Or.inl ⟨by rfl, ?_⟩) (by assumption) ?_
  rotate_left 1
  · intro w hSw
    try dsimp only at hSw
    go_simp
    try with_reducible rfl
  try simp only [Act.put, List.setIfInBounds_toArray, List.set_cons_zero, List.set_cons_succ]
  refine wpAnyH_ready (rs := [7]) (by kernel_rfl) (by simp) ?_
  refine AllReadyH.cons (o := _) rfl (fun K hK => ?_) AllReadyH.nil
  obtain ⟨t0, t1⟩ := atZ_bd HS1.out 1
  generalize atZ n f 1 = t at *
  have ew : IntKind.i64.wrap (IntKind.i64.wrap (s + 1) + t) = s + 1 + t := by rw [IntWalk.i64_in (s + 1) (by omega), IntWalk.i64_in _ (by omega)]
  obtain ⟨y0, y1, y2, y3⟩ := HY0.out.at
  obtain ⟨z0, z1, z2, z3⟩ := HY0.out.free
  go_simp
  have HX1 := vl (show Box4 (W0.setCell ⟨q, 2, none⟩ (.int .i64 (s + 1 + t))).drew p (.bool up) (.slice A1 M.length c1) (.int .i64 s) (.int .i64 (-1)) 44 from HX0.out.far _ (by omega))
  have HY1 := vl (show Box4 (W0.setCell ⟨q, 2, none⟩ (.int .i64 (s + 1 + t))).drew q (.bool up) (.slice A1 M.length c1) (.int .i64 (s + 1 + t)) (.int .i64 (-1)) 44 from HY0.out.set2 _)
  have HB2 := vl (show Below w1.heap.size w1 (W0.setCell ⟨q, 2, none⟩ (.int .i64 (s + 1 + t))).drew from (HB0.out.setCell hql _).drew)
  with_reducible refine hK.out _ _ (HX1.out.at.2.2.1) (fun hHeld => ?_)
  clear hK K hHeld hHeld0 y0 y1 y2 y3 z0 z1 z2 z3 HX0 HY0 HB0
  try simp only [Act.put, List.setIfInBounds_toArray, List.set_cons_zero, List.set_cons_succ]
  refine wpAnyH_done (by kernel_rfl) ?_ _
  go_simp
  generalize (W0.setCell ⟨q, 2, none⟩ (.int .i64 (s + 1 + t))).drew = W1 at *
  have q2 := HX1.out.lt
  have q3 := HY1.out.lt
  obtain ⟨y0, y1, y2, y3⟩ := HY1.out.at
  go_wp2
  go_quiet ((go_at_call 38; exact quiet_l (at_law A n cap 2 _ f hl (by omega) (by omega) (HS1.out.below (HB2.out.drewN' _)))))
  obtain ⟨u0, u1⟩ := atZ_bd HS1.out 2
  generalize atZ n f 2 = u at *
  have HX2 := vl (show Box4 (W1.drewN nq) p (.bool up) (.slice A1 M.length c1) (.int .i64 s) (.int .i64 (-1)) 44 from HX1.out)
  have HY2 := vl (show Box4 (W1.drewN nq) q (.bool up) (.slice A1 M.length c1) (.int .i64 (s + 1 + t)) (.int .i64 (-1)) 44 from HY1.out)
  have HB3 := vl (show Below w1.heap.size w1 (W1.drewN nq) from HB2.out.drewN' nq)
  generalize W1.drewN nq = W2 at *
  clear HX1 HY1 HB2 y0 y1 y2 y3 q2 q3 ew
  have ew : wrap64 (s + 1 + t + u) = s + 1 + t + u := IntWalk.wrap64_in _ (by omega)
  rw [ew]
  clear ew
  have q2 := HX2.out.lt
  have q3 := HY2.out.lt
  obtain ⟨x0, x1, x2, x3⟩ := HX2.out.at
  obtain ⟨y0, y1, y2, y3⟩ := HY2.out.at
  go_wp2_with fail
  obtain ⟨x, hx⟩ : ∃ x, x = W2.heap.size := ⟨_, rfl⟩
  have HX3 := vl (HX2.out.alloc (.cells #[.bool up, .slice A1 M.length c1, .int .i64 (s + 1 + t), .int .i64 (s + 1 + t + u)] 44))
  have HY3 := vl (HY2.out.alloc (.cells #[.bool up, .slice A1 M.length c1, .int .i64 (s + 1 + t), .int .i64 (s + 1 + t + u)] 44))
  have HZ3 := vl (show Box4 (W2.alloc (.cells #[.bool up, .slice A1 M.length c1, .int .i64 (s + 1 + t), .int .i64 (s + 1 + t + u)] 44)) x (.bool up) (.slice A1 M.length c1) (.int .i64 (s + 1 + t)) (.int .i64 (s + 1 + t + u)) 44 from hx ▸ Box4.new W2 _ _ _ _ _)
  have HB4 := vl (show Below w1.heap.size w1 (W2.alloc (.cells #[.bool up, .slice A1 M.length c1, .int .i64 (s + 1 + t), .int .i64 (s + 1 + t + u)] 44)) from HB3.out.alloc HB3.out.size _)
  have hxl : w1.heap.size ≤ x := by have := HB3.out.size; omega
  have hqx : q < x := by omega
  rw [← hx]
  generalize W2.alloc (.cells #[.bool up, .slice A1 M.length c1, .int .i64 (s + 1 + t), .int .i64 (s + 1 + t + u)] 44) = W3 at *
  clear hx HX2 HY2 HB3 x0 x1 x2 x3 y0 y1 y2 y3 q2 q3
  refine (at_law A n cap 3 _ f hl (by omega) (by omega) (HS1.out.below HB4.out)).mono ?_
  rintro e w' ⟨rfl, rfl⟩
  obtain ⟨v0, v1⟩ := atZ_bd HS1.out 3
  generalize atZ n f 3 = v at *
  have m0 : 0 ≤ v % 3 := Int.emod_nonneg _ (by decide)
  have m1 : v % 3 < 3 := Int.emod_lt_of_pos _ (by decide)
  have q2 := HX3.out.lt
  have q3 := HY3.out.lt
  have q4 := HZ3.out.lt
  obtain ⟨x0, x1, x2, x3⟩ := HX3.out.at
  obtain ⟨y0, y1, y2, y3⟩ := HY3.out.at
  obtain ⟨z0, z1, z2, z3⟩ := HZ3.out.at
  obtain ⟨fy0, fy1, fy2, fy3⟩ := HY3.out.free
  obtain ⟨fz0, fz1, fz2, fz3⟩ := HZ3.out.free
  go_wp2_with fail
  have hW4 : ∃ W4 : World, True := ⟨W3, trivial⟩
  clear hW4
  refine at_world (fun W4 hW4 => ?_)
  have HX4 := vl (show Box4 W4 p (.bool up) (.slice A1 M.length c1) (.int .i64 s) (.int .i64 (-1)) 44 from by rw [hW4]; exact (((((HX3.out.far _ (by omega)).far _ (by omega)).far _ (by omega)).far _ (by omega)).alloc _).alloc _)
  have HY4 := vl (show Box4 W4 q (.bool false) (.slice (some ⟨W3.heap.size + 1, 0, none⟩) 1 1) (.int .i64 (s + 1 + t)) (.int .i64 (-1)) 44 from by rw [hW4]; exact (((((HY3.out.far _ (by omega)).far _ (by omega)).set0 _).set1 _).alloc _).alloc _)
  have HZ4 := vl (show Box4 W4 x (.bool false) (.slice (some ⟨W3.heap.size + 1, 0, none⟩) 1 1) (.int .i64 (s + 1 + t)) (.int .i64 (s + 1 + t + u)) 44 from by rw [hW4]; exact (((((HZ3.out.set0 _).set1 _).far _ (by omega)).far _ (by omega)).alloc _).alloc _)
  have HB5 := vl (show Below w1.heap.size w1 W4 from by rw [hW4]; exact ((((((HB4.out.setCell hxl _).setCell hxl _).setCell hql _).setCell hql _).alloc (by simp; omega) _).alloc (by simp; omega) _))
  have HPB := vl (show Trn W4 (some ⟨W3.heap.size + 1, 0, none⟩) [[⟨77, 1, 1, 1, 1, v % 3⟩]] from by
    intro _
    obtain ⟨V5, hV5, e5⟩ : ∃ V5 : World, W4 = (V5.alloc (.cells #[.int .i64 77, .int .i64 1, .int .i64 1, .int .i64 1, .int .i64 1, .int .i64 (v % 3)] 29)).alloc (.cells #[.slice (some ⟨W3.heap.size, 0, none⟩) 1 1] 30) ∧ V5.heap.size = W3.heap.size := ⟨_, hW4, by simp⟩
    refine ⟨W3.heap.size + 1, 0, rfl, fun i r hi => ?_⟩
    have hi0 : i = 0 := by have := len_of hi; simp at this; omega
    subst hi0
    simp at hi
    subst hi
    refine ⟨some ⟨W3.heap.size, 0, none⟩, 1, by rw [hV5, ← e5]; simp, vl (fun _ => ⟨W3.heap.size, 0, rfl, fun j b hj => ?_⟩)⟩
    have hj0 : j = 0 := by have := len_of hj; simp at this; omega
    subst hj0
    simp at hj
    subst hj
    rw [hV5, ← e5]
    exact ⟨by simp, by simp, by simp, by simp, by simp, by simp⟩)
  have HPA := vl (HP.out.below HB5.out)
  have HMB := vl (show Mod [[(⟨77, 1, 1, 1, 1, v % 3⟩ : Bt)]] from ⟨by simp, by simp [bts]⟩)
  have HFF := vl (wait_facts up M s t u (v % 3) HTI.out s0 s1 t0 t1 u0 u1 m0 m1)
  generalize hR : some (⟨W3.heap.size + 1, 0, none⟩ : Addr) = R at *
  clear hW4 hR HX3 HY3 HZ3 HB4 x0 x1 x2 x3 y0 y1 y2 y3 z0 z1 z2 z3 fy0 fy1 fy2 fy3 fz0 fz1 fz2 fz3 q2 q3 q4
  have HD4 := vl (Below.refl W4.heap.size W4)
  by_cases ho : 40 ≤ s + 1 + t + u - s
  · refine (clok_impl ⟨up, M, s, -1⟩ A1 c1 _ HM.out HPA.out).mono ?_
    rintro e w5 ⟨rfl, hb5⟩
    rw [HFF.out.1]
    have HX5 := vl (HX4.out.below hb5)
    have HY5 := vl (HY4.out.below hb5)
    have HZ5 := vl (HZ4.out.below hb5)
    have HPA5 := vl (HPA.out.below hb5)
    have HPB5 := vl (HPB.out.below hb5)
    have HD5 := vl (HD4.out.trans (hb5.mono HD4.out.size))
    have q5 := HX5.out.lt
    have r5 := HY5.out.lt
    have t5' := HZ5.out.lt
    clear hb5 HX4 HY4 HZ4
    obtain ⟨x0, x1, x2, x3⟩ := HX5.out.at
    obtain ⟨y0, y1, y2, y3⟩ := HY5.out.at
    obtain ⟨z0, z1, z2, z3⟩ := HZ5.out.at
    go_wp2_with fail
    refine (clok_impl ⟨false, [[⟨77, 1, 1, 1, 1, v % 3⟩]], s + 1 + t, -1⟩ R 1 _ HMB.out HPB5.out).mono ?_
    rintro e w6 ⟨rfl, hb6⟩
    rw [HFF.out.2.1]
    have HX6 := vl (HX5.out.below hb6)
    have HY6 := vl (HY5.out.below hb6)
    have HZ6 := vl (HZ5.out.below hb6)
    have HPA6 := vl (HPA5.out.below hb6)
    have HPB6 := vl (HPB5.out.below hb6)
    have HD6 := vl (HD5.out.trans (hb6.mono HD5.out.size))
    have q6 := HX6.out.lt
    have r6 := HY6.out.lt
    have t6' := HZ6.out.lt
    clear hb6 HX5 HY5 HZ5
    clear x0 x1 x2 x3 y0 y1 y2 y3 z0 z1 z2 z3 HPA5 HPB5 q5 r5 t5' HD5
    obtain ⟨x0, x1, x2, x3⟩ := HX6.out.at
    obtain ⟨y0, y1, y2, y3⟩ := HY6.out.at
    obtain ⟨z0, z1, z2, z3⟩ := HZ6.out.at
    go_wp2_with fail
    refine (before_impl ⟨up, M, s, -1⟩ ⟨false, [[⟨77, 1, 1, 1, 1, v % 3⟩]], s + 1 + t, -1⟩ (s + 1 + t + u) A1 R c1 1 _ HM.out HMB.out HPA6.out HPB6.out).mono ?_
    rintro e w7 ⟨rfl, hb7⟩
    rw [(HFF.out.2.2.1 ho).1]
    have HX7 := vl (HX6.out.below hb7)
    have HY7 := vl (HY6.out.below hb7)
    have HZ7 := vl (HZ6.out.below hb7)
    have HPA7 := vl (HPA6.out.below hb7)
    have HPB7 := vl (HPB6.out.below hb7)
    have HD7 := vl (HD6.out.trans (hb7.mono HD6.out.size))
    have q7 := HX7.out.lt
    have r7 := HY7.out.lt
    have t7' := HZ7.out.lt
    clear hb7 HX6 HY6 HZ6
    clear x0 x1 x2 x3 y0 y1 y2 y3 z0 z1 z2 z3 HPA6 HPB6 q6 r6 t6' HD6
    obtain ⟨x0, x1, x2, x3⟩ := HX7.out.at
    obtain ⟨y0, y1, y2, y3⟩ := HY7.out.at
    obtain ⟨z0, z1, z2, z3⟩ := HZ7.out.at
    go_wp2_with fail
    refine (before_impl ⟨false, [[⟨77, 1, 1, 1, 1, v % 3⟩]], s + 1 + t, s + 1 + t + u⟩ ⟨up, M, s, -1⟩ (s + 1 + t + u) R A1 1 c1 _ HMB.out HM.out HPB7.out HPA7.out).mono ?_
    rintro e w8 ⟨rfl, hb8⟩
    rw [HFF.out.2.2.2.1]
    have HX8 := vl (HX7.out.below hb8)
    have HY8 := vl (HY7.out.below hb8)
    have HZ8 := vl (HZ7.out.below hb8)
    have HPA8 := vl (HPA7.out.below hb8)
    have HPB8 := vl (HPB7.out.below hb8)
    have HD8 := vl (HD7.out.trans (hb8.mono HD7.out.size))
    have q8 := HX8.out.lt
    have r8 := HY8.out.lt
    have t8' := HZ8.out.lt
    clear hb8 HX7 HY7 HZ7
    clear x0 x1 x2 x3 y0 y1 y2 y3 z0 z1 z2 z3 HPA7 HPB7 q7 r7 t7' HD7
    obtain ⟨x0, x1, x2, x3⟩ := HX8.out.at
    obtain ⟨y0, y1, y2, y3⟩ := HY8.out.at
    obtain ⟨z0, z1, z2, z3⟩ := HZ8.out.at
    go_wp2_with fail
    refine (before_impl ⟨up, M, s, -1⟩ ⟨false, [[⟨77, 1, 1, 1, 1, v % 3⟩]], s + 1 + t, s + 1 + t + u⟩ (s + 1 + t + u) A1 R c1 1 _ HM.out HMB.out HPA8.out HPB8.out).mono ?_
    rintro e w9 ⟨rfl, hb9⟩
    rw [HFF.out.2.2.2.2]
    have HX9 := vl (HX8.out.below hb9)
    have HY9 := vl (HY8.out.below hb9)
    have HZ9 := vl (HZ8.out.below hb9)
    have HPA9 := vl (HPA8.out.below hb9)
    have HPB9 := vl (HPB8.out.below hb9)
    have HD9 := vl (HD8.out.trans (hb9.mono HD8.out.size))
    have q9 := HX9.out.lt
    have r9 := HY9.out.lt
    have t9' := HZ9.out.lt
    clear hb9 HX8 HY8 HZ8
    clear x0 x1 x2 x3 y0 y1 y2 y3 z0 z1 z2 z3 HPA8 HPB8 q8 r8 t8' HD8
    obtain ⟨x0, x1, x2, x3⟩ := HX9.out.at
    obtain ⟨y0, y1, y2, y3⟩ := HY9.out.at
    obtain ⟨z0, z1, z2, z3⟩ := HZ9.out.at
    go_wp2_with fail
    refine (rank_impl ⟨up, M, s, -1⟩ (s + 1 + t + u) A1 c1 _ HM.out HPA9.out).mono ?_
    rintro e w10 ⟨rfl, hb10⟩
    rw [(HFF.out.2.2.1 ho).2]
    have HX10 := vl (HX9.out.below hb10)
    have HY10 := vl (HY9.out.below hb10)
    have HZ10 := vl (HZ9.out.below hb10)
    have HPA10 := vl (HPA9.out.below hb10)
    have HPB10 := vl (HPB9.out.below hb10)
    have HD10 := vl (HD9.out.trans (hb10.mono HD9.out.size))
    have q10 := HX10.out.lt
    have r10 := HY10.out.lt
    have t10' := HZ10.out.lt
    clear hb10 HX9 HY9 HZ9
    clear x0 x1 x2 x3 y0 y1 y2 y3 z0 z1 z2 z3 HPA9 HPB9 q9 r9 t9' HD9
    obtain ⟨x0, x1, x2, x3⟩ := HX10.out.at
    obtain ⟨y0, y1, y2, y3⟩ := HY10.out.at
    obtain ⟨z0, z1, z2, z3⟩ := HZ10.out.at
    go_wp2
    go_ret
    exact ⟨rfl, HB1.out.trans ((HB5.out.trans (HD10.out.mono HB5.out.size)).mono HB1.out.size)⟩
  · have ho' := Int.not_le.1 ho
    clear ho
    refine (clok_impl ⟨up, M, s, -1⟩ A1 c1 _ HM.out HPA.out).mono ?_
    rintro e w5 ⟨rfl, hb5⟩
    rw [HFF.out.1]
    have HX5 := vl (HX4.out.below hb5)
    have HY5 := vl (HY4.out.below hb5)
    have HZ5 := vl (HZ4.out.below hb5)
    have HPA5 := vl (HPA.out.below hb5)
    have HPB5 := vl (HPB.out.below hb5)
    have HD5 := vl (HD4.out.trans (hb5.mono HD4.out.size))
    have q5 := HX5.out.lt
    have r5 := HY5.out.lt
    have t5' := HZ5.out.lt
    clear hb5 HX4 HY4 HZ4
    obtain ⟨x0, x1, x2, x3⟩ := HX5.out.at
    obtain ⟨y0, y1, y2, y3⟩ := HY5.out.at
    obtain ⟨z0, z1, z2, z3⟩ := HZ5.out.at
    go_wp2_with fail
    refine (clok_impl ⟨false, [[⟨77, 1, 1, 1, 1, v % 3⟩]], s + 1 + t, -1⟩ R 1 _ HMB.out HPB5.out).mono ?_
    rintro e w6 ⟨rfl, hb6⟩
    rw [HFF.out.2.1]
    have HX6 := vl (HX5.out.below hb6)
    have HY6 := vl (HY5.out.below hb6)
    have HZ6 := vl (HZ5.out.below hb6)
    have HPA6 := vl (HPA5.out.below hb6)
    have HPB6 := vl (HPB5.out.below hb6)
    have HD6 := vl (HD5.out.trans (hb6.mono HD5.out.size))
    have q6 := HX6.out.lt
    have r6 := HY6.out.lt
    have t6' := HZ6.out.lt
    clear hb6 HX5 HY5 HZ5
    clear x0 x1 x2 x3 y0 y1 y2 y3 z0 z1 z2 z3 HPA5 HPB5 q5 r5 t5' HD5
    obtain ⟨x0, x1, x2, x3⟩ := HX6.out.at
    obtain ⟨y0, y1, y2, y3⟩ := HY6.out.at
    obtain ⟨z0, z1, z2, z3⟩ := HZ6.out.at
    go_wp2_with fail
    refine (before_impl ⟨false, [[⟨77, 1, 1, 1, 1, v % 3⟩]], s + 1 + t, s + 1 + t + u⟩ ⟨up, M, s, -1⟩ (s + 1 + t + u) R A1 1 c1 _ HMB.out HM.out HPB6.out HPA6.out).mono ?_
    rintro e w7 ⟨rfl, hb7⟩
    rw [HFF.out.2.2.2.1]
    have HX7 := vl (HX6.out.below hb7)
    have HY7 := vl (HY6.out.below hb7)
    have HZ7 := vl (HZ6.out.below hb7)
    have HPA7 := vl (HPA6.out.below hb7)
    have HPB7 := vl (HPB6.out.below hb7)
    have HD7 := vl (HD6.out.trans (hb7.mono HD6.out.size))
    have q7 := HX7.out.lt
    have r7 := HY7.out.lt
    have t7' := HZ7.out.lt
    clear hb7 HX6 HY6 HZ6
    clear x0 x1 x2 x3 y0 y1 y2 y3 z0 z1 z2 z3 HPA6 HPB6 q6 r6 t6' HD6
    obtain ⟨x0, x1, x2, x3⟩ := HX7.out.at
    obtain ⟨y0, y1, y2, y3⟩ := HY7.out.at
    obtain ⟨z0, z1, z2, z3⟩ := HZ7.out.at
    go_wp2_with fail
    refine (before_impl ⟨up, M, s, -1⟩ ⟨false, [[⟨77, 1, 1, 1, 1, v % 3⟩]], s + 1 + t, s + 1 + t + u⟩ (s + 1 + t + u) A1 R c1 1 _ HM.out HMB.out HPA7.out HPB7.out).mono ?_
    rintro e w8 ⟨rfl, hb8⟩
    rw [HFF.out.2.2.2.2]
    have HX8 := vl (HX7.out.below hb8)
    have HY8 := vl (HY7.out.below hb8)
    have HZ8 := vl (HZ7.out.below hb8)
    have HPA8 := vl (HPA7.out.below hb8)
    have HPB8 := vl (HPB7.out.below hb8)
    have HD8 := vl (HD7.out.trans (hb8.mono HD7.out.size))
    have q8 := HX8.out.lt
    have r8 := HY8.out.lt
    have t8' := HZ8.out.lt
    clear hb8 HX7 HY7 HZ7
    clear x0 x1 x2 x3 y0 y1 y2 y3 z0 z1 z2 z3 HPA7 HPB7 q7 r7 t7' HD7
    obtain ⟨x0, x1, x2, x3⟩ := HX8.out.at
    obtain ⟨y0, y1, y2, y3⟩ := HY8.out.at
    obtain ⟨z0, z1, z2, z3⟩ := HZ8.out.at
    go_wp2
    go_ret
    exact ⟨rfl, HB1.out.trans ((HB5.out.trans (HD8.out.mono HB5.out.size)).mono HB1.out.size)⟩

theorem parOk : Try.f5.params.toList.all (fun t => Try.prog.readableRec t && decide (t < Try.prog.types.size)) = true := by kernel_rfl
set_option maxRecDepth 100000 in
theorem lifted (os : Os) (started : os.Started) (H : Type) (enc : TypeId × Value → H) :
    ReturnsInHanded {} Try.checked os 5 .any (Rows.fnNobodyWaitsSpec.pre6 enc Try.prog Try.f5 Rows.fnNobodyWaitsRow.domain false) (Rows.fnNobodyWaitsSpec.post enc Try.prog Try.f5 false true false false) := by
  refine law_lifted (C := Try.checked) own started (by kernel_rfl) Try.func5 laid (fun t ht => by
      have h := List.all_eq_true.1 parOk t ht
      rw [Bool.and_eq_true] at h
      exact ⟨h.1, of_decide_eq_true h.2⟩) rfl Try.underlying4 rfl
    (fun xs hx => by
      rw [show Try.f5.params.toList.length = 1 from by rw [Try.params5]; rfl] at hx
      match xs, hx with
      | [d0], _ => rfl)
    (ChangeSpec.witness6 (enc := enc) (C := Try.checked) false ⟨#[], #[.slice none 0 0], []⟩ 8 (by kernel_rfl) (by kernel_rfl) (by kernel_rfl) (by kernel_rfl)) ?_
  intro W base args ds p hval0 hA0 _
  have hval : ∀ (j : Nat) t v, Try.f5.params[j]? = some t → args[j]? = some v → Value.okWide Try.prog W .any base t v := hval0
  have hA : DataW.TrodAll enc Try.prog W 0 (fun _ => true) true Try.f5.params.toList args.toList ds p := hA0
  clear hA0 hval0
  rw [Try.params5] at hA hval
  obtain ⟨v0, vs0, d0, ds0, p0, q0, hargs, rfl, rfl, h0, r0⟩ := trodAll_cons hA
  obtain ⟨rfl, rfl, rfl⟩ := trodAll_nil r0
  obtain rfl : args = #[v0] := by cases args; simp_all
  obtain ⟨A0, n0, c0, f0, rfl, x0, y0⟩ := slice_bytes Try.underlying22 (by kernel_rfl) Try.underlying5 (hval 0 22 _ rfl rfl) h0
  exact walk A0 n0 c0 f0 W x0 y0

/-- The statement. -/
theorem proved : Rows.FnNobodyWaitsSaid :=
  OpenClaim.holds_of_wide 5 Try.f5 rfl rfl rfl rfl rfl rfl rfl ⟨rfl, rfl, rfl, rfl, rfl⟩ rfl rfl rfl rfl rfl (by kernel_rfl) Try.func5 (by show joinedFacts Try.prog _ _ _ _ = true; unfold joinedFacts; rw [Io.mayEnter, Io.liftsFinal, Io.make]; kernel_rfl)
    (of_decide_eq_true (by kernel_rfl)) (by unfold Func.isWrapper; first | (rw [if_pos (by decide +kernel)]; kernel_rfl) | (rw [if_neg (by decide +kernel)]; exact ⟨rfl, rfl⟩))
    (fun os started H enc _ => lifted os started H enc)
#print axioms proved
end Go.Proofs.Ytmfeleocjmdooaa.fnNobodyWaits
