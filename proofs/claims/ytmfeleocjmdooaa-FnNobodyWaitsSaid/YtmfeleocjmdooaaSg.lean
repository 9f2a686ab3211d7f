/- Standings: which goes first, the standing of a call, and ComesBefore, of the program. -/
import Derived.Test.YtmfeleocjmdooaaClB
namespace Go.Proofs.Ytmfeleocjmdooaa.C1
open Go.ChangeShapes Go.WideShapes Go.ChangeAt Go.RowKit
set_option linter.unusedVariables false
set_option linter.unusedSimpArgs false

theorem cell_fresh {w : World} {cs : Array Value} {t : TypeId} {j : Nat} {u : Value} (h : cs[j]? = some u) : (w.alloc (.cells cs t)).cell? ⟨w.heap.size, j, none⟩ = some u := by
  unfold World.cell?; rw [heap_alloc_new]; exact h
def cmpZ (a b : Int) : Int := if a < b then -1 else if b < a then 1 else 0
def orZ (f : Nat → Int) : Nat → Int
  | 0 => 0
  | n + 1 => if orZ f n = 0 then f n else orZ f n
theorem orZ_hit {f : Nat → Int} {k : Nat} (h0 : orZ f k = 0) (h1 : f k ≠ 0) : ∀ d, orZ f (k + 1 + d) = f k := by
  intro d
  induction d with
  | zero => show (if orZ f k = 0 then f k else orZ f k) = f k; rw [if_pos h0]
  | succ d ih => show (if orZ f (k + 1 + d) = 0 then f (k + 1 + d) else orZ f (k + 1 + d)) = f k; rw [ih, if_neg h1]
def five (a b c d e : Int) (i : Nat) : Int := match i with | 0 => a | 1 => b | 2 => c | 3 => d | _ => e
def goZ (x y : Sg) : Int := orZ (five (cmpZ x.rk y.rk) (cmpZ x.bk y.bk) (cmpZ x.sc y.sc) (cmpZ x.fi y.fi) (cmpZ x.ix y.ix)) 5
theorem goZ_eq (x y : Sg) : decide (goZ x y < 0) = ltS x y := by
  rw [Bool.eq_iff_iff, decide_eq_true_iff, ltS_iff]
  unfold goZ
  simp only [orZ, five, cmpZ]
  by_cases a1 : x.rk < y.rk <;> by_cases a2 : y.rk < x.rk <;> by_cases b1 : x.bk < y.bk <;> by_cases b2 : y.bk < x.bk <;> simp only [a1, a2, b1, b2, if_true, if_false, ite_true, ite_false] <;>
    by_cases c1 : x.sc < y.sc <;> by_cases c2 : y.sc < x.sc <;> by_cases d1 : x.fi < y.fi <;> by_cases d2 : y.fi < x.fi <;> by_cases e1 : x.ix < y.ix <;> by_cases e2 : y.ix < x.ix <;> simp [c1, c2, d1, d2, e1, e2] <;> omega
theorem nan_impl (a : Int) (w : World) : Calls Try.prog 196 #[.int .i64 a] w fun e w' => e = .returned (.bool false) ∧ w = w' := by
  go_enter Try.func196, Try.ntmps196
  go_wp2
  go_ret
  exact ⟨ret_bool (by simp), rfl⟩
theorem compare_impl (a b : Int) (w : World) : Calls Try.prog 163 #[.int .i64 a, .int .i64 b] w fun e w' => e = .returned (.int .i64 (cmpZ a b)) ∧ w = w' := by
  go_enter Try.func163, Try.ntmps163
  go_wp2_with (go_at_call 196; refine (nan_impl _ _).mono ?_; rintro e w' ⟨rfl, rfl⟩)
  all_goals
    go_ret
    exact ⟨ret_int (by unfold cmpZ; repeat' split <;> omega), rfl⟩
theorem or_impl (g : Nat) (n c : Nat) (f : Nat → Int) (w : World) (hn : n ≤ 1048576) (hp : ∀ i, i < n → w.cell? ⟨g, i, none⟩ = some (.int .i64 (f i))) :
    Calls Try.prog 162 #[.slice (some ⟨g, 0, none⟩) n c] w fun e w' => e = .returned (.int .i64 (orZ f n)) ∧ w = w' := by
  go_enter Try.func162, Try.ntmps162
  go_wp2
  go_loop [8] (fun i => ∃ k : Nat, k ≤ n ∧ i = .int .i64 k ∧ Hid (orZ f k = 0)) (fun i => n - (intOf i).toNat)
  case atStart => exact ⟨0, by omega, rfl, Lib.hid rfl⟩
  case round =>
    obtain ⟨k, hk, rfl, H0⟩ := hrel
    by_cases hlt : k < n
    · have hc := hp k hlt
      by_cases hz : f k = 0
      · have h1 := Lib.hid (show orZ f (k + 1) = 0 by show (if orZ f k = 0 then f k else orZ f k) = 0; rw [if_pos H0.out, hz])
        have hz' : (f k != 0) = false := by simp [hz]
        clear hz
        go_wp2
        go_round
        case rel => exact ⟨k + 1, by omega, by go_num, h1⟩
        case measure => simp [intOf]; omega
      · have h1 := Lib.hid (show orZ f n = f k by have := orZ_hit H0.out hz (n - (k + 1)); rwa [show k + 1 + (n - (k + 1)) = n by omega] at this)
        have hz' : (f k != 0) = true := by simp [hz]
        clear hz
        go_wp2
        go_ret
        exact ⟨ret_int h1.out.symm, rfl⟩
    · obtain rfl : k = n := by omega
      go_wp2
      go_ret
      exact ⟨ret_int H0.out.symm, rfl⟩
set_option maxRecDepth 100000 in
set_option maxHeartbeats 4000000 in
theorem goes_impl (x y : Sg) (w : World) : Calls Try.prog 114 #[.agg #[.int .i64 x.rk, .int .i64 x.bk, .int .i64 x.sc, .int .i64 x.fi, .int .i64 x.ix], .agg #[.int .i64 y.rk, .int .i64 y.bk, .int .i64 y.sc, .int .i64 y.fi, .int .i64 y.ix]] w (GivesB w (ltS x y)) := by
  obtain ⟨w0, hw0⟩ : ∃ w0, w0 = (w.alloc (.cells #[.int .i64 x.rk, .int .i64 x.bk, .int .i64 x.sc, .int .i64 x.fi, .int .i64 x.ix] 120)).alloc (.cells #[.int .i64 y.rk, .int .i64 y.bk, .int .i64 y.sc, .int .i64 y.fi, .int .i64 y.ix] 120) := ⟨_, rfl⟩
  obtain ⟨p, hp⟩ : ∃ p, p = w.heap.size := ⟨_, rfl⟩
  obtain ⟨q, hq⟩ : ∃ q, q = p + 1 := ⟨_, rfl⟩
  have HB0 := vl (show Below w.heap.size w w0 from hw0 ▸ ((Below.refl w.heap.size w).alloc (Nat.le_refl _) (.cells #[.int .i64 x.rk, .int .i64 x.bk, .int .i64 x.sc, .int .i64 x.fi, .int .i64 x.ix] 120)).alloc (by simp) (.cells #[.int .i64 y.rk, .int .i64 y.bk, .int .i64 y.sc, .int .i64 y.fi, .int .i64 y.ix] 120))
  have HG := vl (goZ_eq x y)
  have x0 : w0.cell? ⟨p, 0, none⟩ = some (.int .i64 x.rk) := by subst hw0 hp; simp
  have x1 : w0.cell? ⟨p, 1, none⟩ = some (.int .i64 x.bk) := by subst hw0 hp; simp
  have x2 : w0.cell? ⟨p, 2, none⟩ = some (.int .i64 x.sc) := by subst hw0 hp; simp
  have x3 : w0.cell? ⟨p, 3, none⟩ = some (.int .i64 x.fi) := by subst hw0 hp; simp
  have x4 : w0.cell? ⟨p, 4, none⟩ = some (.int .i64 x.ix) := by subst hw0 hp; simp
  have y0 : w0.cell? ⟨q, 0, none⟩ = some (.int .i64 y.rk) := by subst hw0 hq hp; simp
  have y1 : w0.cell? ⟨q, 1, none⟩ = some (.int .i64 y.bk) := by subst hw0 hq hp; simp
  have y2 : w0.cell? ⟨q, 2, none⟩ = some (.int .i64 y.sc) := by subst hw0 hq hp; simp
  have y3 : w0.cell? ⟨q, 3, none⟩ = some (.int .i64 y.fi) := by subst hw0 hq hp; simp
  have y4 : w0.cell? ⟨q, 4, none⟩ = some (.int .i64 y.ix) := by subst hw0 hq hp; simp
  go_enter Try.func114, Try.ntmps114
  go_wp2
  rw [← hw0, ← hp, ← hq]
  clear hw0 hp hq
  refine wp_region_held_drew (S := fun w' => w'.cell? ⟨p, 0, none⟩ = some (.int .i64 x.rk) ∧ w'.cell? ⟨p, 1, none⟩ = some (.int .i64 x.bk) ∧ w'.cell? ⟨p, 2, none⟩ = some (.int .i64 x.sc) ∧ w'.cell? ⟨p, 3, none⟩ = some (.int .i64 x.fi) ∧ w'.cell? ⟨p, 4, none⟩ = some (.int .i64 x.ix) ∧ w'.cell? ⟨q, 0, none⟩ = some (.int .i64 y.rk) ∧ w'.cell? ⟨q, 1, none⟩ = some (.int .i64 y.bk) ∧ w'.cell? ⟨q, 2, none⟩ = some (.int .i64 y.sc) ∧ w'.cell? ⟨q, 3, none⟩ = some (.int .i64 y.fi) ∧ w'.cell? ⟨q, 4, none⟩ = some (.int .i64 y.ix) ∧ Below w0.heap.size w0 w') (by kernel_rfl) ⟨x0, x1, x2, x3, x4, y0, y1, y2, y3, y4, (Below.refl _ _).drew⟩ (fun hHeld0 => ?_)
  clear x0 x1 x2 x3 x4 y0 y1 y2 y3 y4
  try dsimp only at hHeld0
  refine wpAnyH_take (i := 0) (oi := _) (v := ?_) rfl (by kernel_rfl) (by kernel_rfl) (by kernel_rfl) (fun _ _ _ h => h) (Or.inl ⟨by rfl, ?_⟩) (by assumption) ?_
  rotate_left 1
  · intro w hSw
    try dsimp only at hSw
    go_simp
    try with_reducible rfl
  try simp only [Act.put, List.setIfInBounds_toArray, List.set_cons_zero, List.set_cons_succ]
  refine wpAnyH_take (i := 1) (oi := _) (v := ?_) rfl (by kernel_rfl) (by kernel_rfl) (by kernel_rfl) (fun _ _ _ h => h) (Or.inl ⟨by rfl, ?_⟩) (by assumption) ?_
  rotate_left 1
  · intro w hSw
    try dsimp only at hSw
    go_simp
    try with_reducible rfl
  try simp only [Act.put, List.setIfInBounds_toArray, List.set_cons_zero, List.set_cons_succ]
  refine wpAnyH_take (i := 2) (oi := _) (v := ?_) rfl (by kernel_rfl) (by kernel_rfl) (by kernel_rfl) (fun _ _ _ h => h) (Or.inl ⟨by rfl, ?_⟩) (by assumption) ?_
  rotate_left 1
  · intro w hSw
    try dsimp only at hSw
    go_simp
    try with_reducible rfl
  try simp only [Act.put, List.setIfInBounds_toArray, List.set_cons_zero, List.set_cons_succ]
  refine wpAnyH_take (i := 3) (oi := _) (v := ?_) rfl (by kernel_rfl) (by kernel_rfl) (by kernel_rfl) (fun _ _ _ h => h) (Or.inl ⟨by rfl, ?_⟩) (by assumption) ?_
  rotate_left 1
  · intro w hSw
    try dsimp only at hSw
    go_simp
    try with_reducible rfl
  try simp only [Act.put, List.setIfInBounds_toArray, List.set_cons_zero, List.set_cons_succ]
  refine wpAnyH_take (i := 5) (oi := _) (v := ?_) rfl (by kernel_rfl) (by kernel_rfl) (by kernel_rfl) (fun _ _ _ h => h) (Or.inl ⟨by rfl, ?_⟩) (by assumption) ?_
  rotate_left 1
  · intro w hSw
    try dsimp only at hSw
    go_simp
    try with_reducible rfl
  try simp only [Act.put, List.setIfInBounds_toArray, List.set_cons_zero, List.set_cons_succ]
  refine wpAnyH_take (i := 6) (oi := _) (v := ?_) rfl (by kernel_rfl) (by kernel_rfl) (by kernel_rfl) (fun _ _ _ h => h) (Or.inl ⟨by rfl, ?_⟩) (by assumption) ?_
  rotate_left 1
  · intro w hSw
    try dsimp only at hSw
    go_simp
    try with_reducible rfl
  try simp only [Act.put, List.setIfInBounds_toArray, List.set_cons_zero, List.set_cons_succ]
  refine wpAnyH_take (i := 7) (oi := _) (v := ?_) rfl (by kernel_rfl) (by kernel_rfl) (by kernel_rfl) (fun _ _ _ h => h) (Or.inl ⟨by rfl, ?_⟩) (by assumption) ?_
  rotate_left 1
  · intro w hSw
    try dsimp only at hSw
    go_simp
    try with_reducible rfl
  try simp only [Act.put, List.setIfInBounds_toArray, List.set_cons_zero, List.set_cons_succ]
  refine wpAnyH_take (i := 8) (oi := _) (v := ?_) rfl (by kernel_rfl) (by kernel_rfl) (by kernel_rfl) (fun _ _ _ h => h) (Or.inl ⟨by rfl, ?_⟩) (by assumption) ?_
  rotate_left 1
  · intro w hSw
    try dsimp only at hSw
    go_simp
    try with_reducible rfl
  try simp only [Act.put, List.setIfInBounds_toArray, List.set_cons_zero, List.set_cons_succ]
  refine wpAnyH_take (i := 10) (oi := _) (v := ?_) rfl (by kernel_rfl) (by kernel_rfl) (by kernel_rfl) (fun _ _ _ h => h) (Or.inl ⟨by rfl, ?_⟩) (by assumption) ?_
  rotate_left 1
  · intro w hSw
    try dsimp only at hSw
    go_simp
    try with_reducible rfl
  try simp only [Act.put, List.setIfInBounds_toArray, List.set_cons_zero, List.set_cons_succ]
  refine wpAnyH_take (i := 11) (oi := _) (v := ?_) rfl (by kernel_rfl) (by kernel_rfl) (by kernel_rfl) (fun _ _ _ h => h) (Or.inl ⟨by rfl, ?_⟩) (by assumption) ?_
  rotate_left 1
  · intro w hSw
    try dsimp only at hSw
    go_simp
    try with_reducible rfl
  try simp only [Act.put, List.setIfInBounds_toArray, List.set_cons_zero, List.set_cons_succ]
  refine wpAnyH_take (i := 12) (oi := _) (v := ?_) rfl (by kernel_rfl) (by kernel_rfl) (by kernel_rfl) (fun _ _ _ h => h) (Or.inl ⟨by rfl, ?_⟩) (by assumption) ?_
  rotate_left 1
  · intro w hSw
    try dsimp only at hSw
    go_simp
    try with_reducible rfl
  try simp only [Act.put, List.setIfInBounds_toArray, List.set_cons_zero, List.set_cons_succ]
  refine wpAnyH_take (i := 13) (oi := _) (v := ?_) rfl (by kernel_rfl) (by kernel_rfl) (by kernel_rfl) (fun _ _ _ h => h) (Or.inl ⟨by rfl, ?_⟩) (by assumption) ?_
  rotate_left 1
  · intro w hSw
    try dsimp only at hSw
    go_simp
    try with_reducible rfl
  try simp only [Act.put, List.setIfInBounds_toArray, List.set_cons_zero, List.set_cons_succ]
  refine wpAnyH_take (i := 15) (oi := _) (v := ?_) rfl (by kernel_rfl) (by kernel_rfl) (by kernel_rfl) (fun _ _ _ h => h) (Or.inl ⟨by rfl, ?_⟩) (by assumption) ?_
  rotate_left 1
  · intro w hSw
    try dsimp only at hSw
    go_simp
    try with_reducible rfl
  try simp only [Act.put, List.setIfInBounds_toArray, List.set_cons_zero, List.set_cons_succ]
  refine wpAnyH_take (i := 16) (oi := _) (v := ?_) rfl (by kernel_rfl) (by kernel_rfl) (by kernel_rfl) (fun _ _ _ h => h) (Or.inl ⟨by rfl, ?_⟩) (by assumption) ?_
  rotate_left 1
  · intro w hSw
    try dsimp only at hSw
    go_simp
    try with_reducible rfl
  try simp only [Act.put, List.setIfInBounds_toArray, List.set_cons_zero, List.set_cons_succ]
  refine wpAnyH_take (i := 17) (oi := _) (v := ?_) rfl (by kernel_rfl) (by kernel_rfl) (by kernel_rfl) (fun _ _ _ h => h) (Or.inl ⟨by rfl, ?_⟩) (by assumption) ?_
  rotate_left 1
  · intro w hSw
    try dsimp only at hSw
    go_simp
    try with_reducible rfl
  try simp only [Act.put, List.setIfInBounds_toArray, List.set_cons_zero, List.set_cons_succ]
  refine wpAnyH_take (i := 18) (oi := _) (v := ?_) rfl (by kernel_rfl) (by kernel_rfl) (by kernel_rfl) (fun _ _ _ h => h) (Or.inl ⟨by rfl, ?_⟩) (by assumption) ?_
  rotate_left 1
  · intro w hSw
    try dsimp only at hSw
    go_simp
    try with_reducible rfl
  try simp only [Act.put, List.setIfInBounds_toArray, List.set_cons_zero, List.set_cons_succ]
  refine wpAnyH_take (i := 20) (oi := _) (v := ?_) rfl (by kernel_rfl) (by kernel_rfl) (by kernel_rfl) (fun _ _ _ h => h) (Or.inl ⟨by rfl, ?_⟩) (by assumption) ?_
  rotate_left 1
  · intro w hSw
    try dsimp only at hSw
    go_simp
    try with_reducible rfl
  try simp only [Act.put, List.setIfInBounds_toArray, List.set_cons_zero, List.set_cons_succ]
  refine wpAnyH_take (i := 21) (oi := _) (v := ?_) rfl (by kernel_rfl) (by kernel_rfl) (by kernel_rfl) (fun _ _ _ h => h) (Or.inl ⟨by rfl, ?_⟩) (by assumption) ?_
  rotate_left 1
  · intro w hSw
    try dsimp only at hSw
    go_simp
    try with_reducible rfl
  try simp only [Act.put, List.setIfInBounds_toArray, List.set_cons_zero, List.set_cons_succ]
  refine wpAnyH_take (i := 22) (oi := _) (v := ?_) rfl (by kernel_rfl) (by kernel_rfl) (by kernel_rfl) (fun _ _ _ h => h) (Or.inl ⟨by rfl, ?_⟩) (by assumption) ?_
  rotate_left 1
  · intro w hSw
    try dsimp only at hSw
    go_simp
    try with_reducible rfl
  try simp only [Act.put, List.setIfInBounds_toArray, List.set_cons_zero, List.set_cons_succ]
  refine wpAnyH_take (i := 23) (oi := _) (v := ?_) rfl (by kernel_rfl) (by kernel_rfl) (by kernel_rfl) (fun _ _ _ h => h) (Or.inl ⟨by rfl, ?_⟩) (by assumption) ?_
  rotate_left 1
  · intro w hSw
    try dsimp only at hSw
    go_simp
    try with_reducible rfl
  try simp only [Act.put, List.setIfInBounds_toArray, List.set_cons_zero, List.set_cons_succ]
  refine wpAnyH_ready (rs := [4]) (by kernel_rfl) (by simp) ?_
  refine AllReadyH.cons (o := _) rfl (fun K hK => ?_) AllReadyH.nil
  go_simp
  go_at_call 163
  with_reducible refine (compare_impl _ _ _).mono ?_
  rintro e _ ⟨rfl, rfl⟩
  go_simp
  refine hK.out _ _ hHeld0 (fun hHeld => ?_)
  clear hK K hHeld
  try simp only [Act.put, List.setIfInBounds_toArray, List.set_cons_zero, List.set_cons_succ]
  refine wpAnyH_ready (rs := [9]) (by kernel_rfl) (by simp) ?_
  refine AllReadyH.cons (o := _) rfl (fun K hK => ?_) AllReadyH.nil
  go_simp
  go_at_call 163
  with_reducible refine (compare_impl _ _ _).mono ?_
  rintro e _ ⟨rfl, rfl⟩
  go_simp
  refine hK.out _ _ hHeld0 (fun hHeld => ?_)
  clear hK K hHeld
  try simp only [Act.put, List.setIfInBounds_toArray, List.set_cons_zero, List.set_cons_succ]
  refine wpAnyH_ready (rs := [14]) (by kernel_rfl) (by simp) ?_
  refine AllReadyH.cons (o := _) rfl (fun K hK => ?_) AllReadyH.nil
  go_simp
  go_at_call 163
  with_reducible refine (compare_impl _ _ _).mono ?_
  rintro e _ ⟨rfl, rfl⟩
  go_simp
  refine hK.out _ _ hHeld0 (fun hHeld => ?_)
  clear hK K hHeld
  try simp only [Act.put, List.setIfInBounds_toArray, List.set_cons_zero, List.set_cons_succ]
  refine wpAnyH_ready (rs := [19]) (by kernel_rfl) (by simp) ?_
  refine AllReadyH.cons (o := _) rfl (fun K hK => ?_) AllReadyH.nil
  go_simp
  go_at_call 163
  with_reducible refine (compare_impl _ _ _).mono ?_
  rintro e _ ⟨rfl, rfl⟩
  go_simp
  refine hK.out _ _ hHeld0 (fun hHeld => ?_)
  clear hK K hHeld
  try simp only [Act.put, List.setIfInBounds_toArray, List.set_cons_zero, List.set_cons_succ]
  refine wpAnyH_ready (rs := [24]) (by kernel_rfl) (by simp) ?_
  refine AllReadyH.cons (o := _) rfl (fun K hK => ?_) AllReadyH.nil
  go_simp
  go_at_call 163
  with_reducible refine (compare_impl _ _ _).mono ?_
  rintro e _ ⟨rfl, rfl⟩
  go_simp
  refine hK.out _ _ hHeld0 (fun hHeld => ?_)
  clear hK K hHeld
  try simp only [Act.put, List.setIfInBounds_toArray, List.set_cons_zero, List.set_cons_succ]
  refine wpAnyH_ready (rs := [25]) (by kernel_rfl) (by simp) ?_
  refine AllReadyH.cons (o := _) rfl (fun K hK => ?_) AllReadyH.nil
  go_simp
  obtain ⟨a0, a1, a2, a3, a4, b0, b1, b2, b3, b4, hb⟩ := hHeld0
  have hba := (Below.refl w0.drew.heap.size w0.drew).alloc (Nat.le_refl _) (.cells #[.int .i64 (cmpZ x.rk y.rk), .int .i64 (cmpZ x.bk y.bk), .int .i64 (cmpZ x.sc y.sc), .int .i64 (cmpZ x.fi y.fi), .int .i64 (cmpZ x.ix y.ix)] 3)
  refine hK.out _ _ ⟨(hba.cell (cell_lt' a0)).trans a0, (hba.cell (cell_lt' a1)).trans a1, (hba.cell (cell_lt' a2)).trans a2, (hba.cell (cell_lt' a3)).trans a3, (hba.cell (cell_lt' a4)).trans a4, (hba.cell (cell_lt' b0)).trans b0, (hba.cell (cell_lt' b1)).trans b1, (hba.cell (cell_lt' b2)).trans b2, (hba.cell (cell_lt' b3)).trans b3, (hba.cell (cell_lt' b4)).trans b4, hb.trans (hba.mono hb.size)⟩ (fun hHeld => ?_)
  clear hK K a0 a1 a2 a3 a4 b0 b1 b2 b3 b4
  try simp only [Act.put, List.setIfInBounds_toArray, List.set_cons_zero, List.set_cons_succ]
  refine wpAnyH_ready (rs := [26]) (by kernel_rfl) (by simp) ?_
  refine AllReadyH.cons (o := _) rfl (fun K hK => ?_) AllReadyH.nil
  go_simp
  go_at_call 162
  with_reducible refine (or_impl _ 5 _ (five (cmpZ x.rk y.rk) (cmpZ x.bk y.bk) (cmpZ x.sc y.sc) (cmpZ x.fi y.fi) (cmpZ x.ix y.ix)) _ (by decide) (fun i hi => ?_)).mono ?_
  · match i, hi with
    | 0, _ => exact cell_fresh rfl
    | 1, _ => exact cell_fresh rfl
    | 2, _ => exact cell_fresh rfl
    | 3, _ => exact cell_fresh rfl
    | 4, _ => exact cell_fresh rfl
  rintro e _ ⟨rfl, rfl⟩
  go_simp
  refine hK.out _ _ hHeld (fun hHeld2 => ?_)
  clear hK K hHeld2
  try simp only [Act.put, List.setIfInBounds_toArray, List.set_cons_zero, List.set_cons_succ]
  refine wpAnyH_take (i := 27) (oi := _) (v := ?_) rfl (by kernel_rfl) (by kernel_rfl) (by kernel_rfl) (fun _ _ _ h => h) (Or.inl ⟨by rfl, ?_⟩) (by assumption) ?_
  rotate_left 1
  · intro w hSw
    try dsimp only at hSw
    go_simp
    try with_reducible rfl
  try simp only [Act.put, List.setIfInBounds_toArray, List.set_cons_zero, List.set_cons_succ]
  refine wpAnyH_take (i := 28) (oi := _) (v := ?_) rfl (by kernel_rfl) (by kernel_rfl) (by kernel_rfl) (fun _ _ _ h => h) (Or.inl ⟨by rfl, ?_⟩) (by assumption) ?_
  rotate_left 1
  · intro w hSw
    try dsimp only at hSw
    go_simp
    try with_reducible rfl
  try simp only [Act.put, List.setIfInBounds_toArray, List.set_cons_zero, List.set_cons_succ]
  refine wpAnyH_done (by kernel_rfl) ?_ _
  go_simp
  go_wp2
  go_ret
  refine ⟨ret_bool ?_, HB0.out.trans ((hb.trans (hba.mono hb.size)).mono HB0.out.size)⟩
  exact HG.out
end Go.Proofs.Ytmfeleocjmdooaa.C1
