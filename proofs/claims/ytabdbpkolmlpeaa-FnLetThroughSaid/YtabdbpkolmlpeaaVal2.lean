/- pointsAround and ValueAt of the program. -/
import Derived.Test.YtabdbpkolmlpeaaVal
import Derived.RegionTactic
import Derived.Deep.DeepCutAuto
import Derived.Laws.StructEq
namespace Go.Proofs.Ytabdbpkolmlpeaa.C1
open Go.ChangeShapes Go.WideShapes Go.ChangeAt Go.RowKit
set_option linter.unusedVariables false
theorem new_at {w : World} {o : Obj} {b : Nat} (h : b = w.heap.size) : (w.alloc o).heap[b]? = some o := by subst h; exact heap_alloc_new w o
theorem new_at_d {w : World} {o : Obj} {b : Nat} (h : b = w.heap.size) : (w.alloc o).drew.heap[b]? = some o := new_at h
theorem old_at_d {w : World} {o : Obj} {b : Nat} (h : b < w.heap.size) : (w.alloc o).drew.heap[b]? = w.heap[b]? := Below.heap_alloc w o b h
def loI (n : Nat) (X : Nat → Int) (x : Int) : Nat := if x ≤ X 0 then 0 else if X (n - 1) ≤ x then n - 1 else cntLe X x n - 1
def hiI (n : Nat) (X : Nat → Int) (x : Int) : Nat := if x ≤ X 0 then 0 else if X (n - 1) ≤ x then n - 1 else cntLe X x n
def arr4 (X Y : Nat → Int) (i j : Nat) : Value := .agg #[.int .i64 (X i), .int .i64 (Y i), .int .i64 (X j), .int .i64 (Y j)]
theorem row2 {w : World} {b : Nat} {t : TypeId} {u v : Int} (h : w.heap[b]? = some (.cells #[.int .i64 u, .int .i64 v] t (0, 0))) : w.rowIs b t 2 (fun j => if j = 0 then .int .i64 u else .int .i64 v) :=
  ⟨_, h, rfl, fun i hi => by
    have : i = 0 ∨ i = 1 := by omega
    rcases this with rfl | rfl <;> rfl⟩
theorem lo_case {n : Nat} {X Y : Nat → Int} {x : Int} (h : x ≤ X 0) : arr4 X Y (loI n X x) (hiI n X x) = .agg #[.int .i64 (X 0), .int .i64 (Y 0), .int .i64 (X 0), .int .i64 (Y 0)] := by
  unfold loI hiI; rw [if_pos h, if_pos h]; rfl
theorem hi_case {n : Nat} {X Y : Nat → Int} {x : Int} (h : ¬ x ≤ X 0) (h' : X (n - 1) ≤ x) : arr4 X Y (loI n X x) (hiI n X x) = .agg #[.int .i64 (X (n - 1)), .int .i64 (Y (n - 1)), .int .i64 (X (n - 1)), .int .i64 (Y (n - 1))] := by
  unfold loI hiI; rw [if_neg h, if_neg h, if_pos h', if_pos h']; rfl
theorem mid_case {n : Nat} {X Y : Nat → Int} {x : Int} {k : Nat} (T : TabP n X Y) (h0 : X 0 < x) (h9 : x < X (n - 1)) (hk : k + 1 < n) (h1 : X k ≤ x) (h2 : x < X (k + 1)) :
    arr4 X Y (loI n X x) (hiI n X x) = .agg #[.int .i64 (X k), .int .i64 (Y k), .int .i64 (X (k + 1)), .int .i64 (Y (k + 1))] := by
  have h : ¬ x ≤ X 0 := by omega
  have h' : ¬ X (n - 1) ≤ x := by omega
  unfold loI hiI; rw [if_neg h, if_neg h, if_neg h', if_neg h', cntLe_of T hk h1 h2]; rfl
set_option maxHeartbeats 1000000 in
theorem around (g o : Nat) (n cap : Nat) (x : Int) (w : World) (X Y : Nat → Int) (T : TabP n X Y) (hc : ∀ i, i < n → w.cell? ⟨g, o + i * 2, none⟩ = some (.int .i64 (X i)) ∧ w.cell? ⟨g, o + i * 2 + 1, none⟩ = some (.int .i64 (Y i))) :
    Calls Try.prog 82 #[.slice (some ⟨g, o, none⟩) n cap, .int .i64 x] w fun e w' => e = .returned (arr4 X Y (loI n X x) (hiI n X x)) ∧ Below w.heap.size w w' := by
  obtain ⟨t2, t20⟩ : 2 ≤ n ∧ n ≤ 20 := ⟨T.two, T.most⟩
  have HC := Lib.hid hc
  clear hc
  obtain ⟨hx0, hy0⟩ := HC.out 0 (by omega)
  rw [Nat.zero_mul, Nat.add_zero] at hx0 hy0
  obtain ⟨hx1, hy1⟩ := HC.out (n - 1) (by omega)
  have hg := cell_lt hx0
  simp only at hg
  have hn0 : 0 < n := by omega
  have e0 : ¬ g = w.heap.size := by omega
  have e1 : ¬ g = w.heap.size + 1 := by omega
  have e2 : ¬ g = w.heap.size + 1 + 1 := by omega
  have g1 : g < w.heap.size + 1 := by omega
  have g2 : g < w.heap.size + 1 + 1 := by omega
  have g3 : g < w.heap.size + 1 + 1 + 1 := by omega
  have a1 : IntKind.i64.wrap ((n : Int) - 1) = (n : Int) - 1 := IntWalk.i64_in _ (by omega)
  have a2 : 1 ≤ (n : Int) := by omega
  have a3 : ((n : Int) - 1).toNat = n - 1 := by omega
  have a4 : 0 ≤ (n : Int) - 1 := by omega
  have a5 : (n : Int) - 1 < (n : Int) := by omega
  have a6 : 1 ≤ n := by omega
  go_enter Try.func82, Try.ntmps82
  go_upto_region 1 with fail
  go_cut [5, 6] (fun s5 s6 wx => ∃ b5 b6 : Nat, s5 = .pointer (some ⟨b5, 0, none⟩) ∧ s6 = .pointer (some ⟨b6, 0, none⟩) ∧ Below w.heap.size w wx ∧ w.heap.size < b5 ∧ w.heap.size < b6 ∧ wx.rowIs w.heap.size 125 4 (fun _ => .int .i64 0) ∧
      wx.rowIs b5 32 2 (fun j => if j = 0 then .int .i64 (X 0) else .int .i64 (Y 0)) ∧ wx.rowIs b6 32 2 (fun j => if j = 0 then .int .i64 (X (n-1)) else .int .i64 (Y (n-1))))
  case first =>
    have four : ∀ i, i < (#[.int .i64 0, .int .i64 0, .int .i64 0, .int .i64 0] : Array Value).size → (#[.int .i64 0, .int .i64 0, .int .i64 0, .int .i64 0] : Array Value)[i]? = some (.int .i64 0) := by
      intro i hi
      have : i < 4 := hi
      have : i = 0 ∨ i = 1 ∨ i = 2 ∨ i = 3 := by omega
      rcases this with rfl | rfl | rfl | rfl <;> rfl
    have F4 := Lib.hid four
    clear four
    go_region
    · go_wp2_with fail
      go_meet
      refine ⟨_, _, rfl, rfl, ((((Below.refl _ _).alloc (Nat.le_refl _) _).alloc (by simp) _).alloc (by simp; omega) _).drew, by omega, by omega, ?_, row2 ?_, row2 ?_⟩
      · exact (((World.rowIs_alloc w #[.int .i64 0, .int .i64 0, .int .i64 0, .int .i64 0] 125 _ F4.out).alloc _).alloc _).drew
      · exact (old_at_d (by simp)).trans (new_at (by simp))
      · exact new_at_d (by simp)
    · go_wp2_with fail
      go_meet
      refine ⟨_, _, rfl, rfl, ((((Below.refl _ _).alloc (Nat.le_refl _) _).alloc (by simp) _).alloc (by simp; omega) _).drew, by omega, by omega, ?_, row2 ?_, row2 ?_⟩
      · exact (((World.rowIs_alloc w #[.int .i64 0, .int .i64 0, .int .i64 0, .int .i64 0] 125 _ F4.out).alloc _).alloc _).drew
      · exact new_at_d (by simp)
      · exact (old_at_d (by simp)).trans (new_at (by simp))
  case rest =>
    obtain ⟨b5, b6, rfl, rfl, hb, l5, l6, r4, r5, r6⟩ := hcut
    have c40 := r4.cell (i := 0) (by decide)
    have c41 := r4.cell (i := 1) (by decide)
    have c42 := r4.cell (i := 2) (by decide)
    have c43 := r4.cell (i := 3) (by decide)
    have z0 := r4.frozen 0
    have z1 := r4.frozen 1
    have z2 := r4.frozen 2
    have z3 := r4.frozen 3
    have c50 := r5.cell (i := 0) (by decide)
    have c51 := r5.cell (i := 1) (by decide)
    have c60 := r6.cell (i := 0) (by decide)
    have c61 := r6.cell (i := 1) (by decide)
    simp only [if_true, if_false, Nat.one_ne_zero] at c50 c51 c60 c61
    by_cases hlo : x ≤ X 0
    · have H := Lib.hid (lo_case (n := n) (Y := Y) hlo)
      go_wp2
      refine bodyPost_ret (v := .agg #[.int .i64 (X 0), .int .i64 (Y 0), .int .i64 (X 0), .int .i64 (Y 0)]) (by simp [results, Try.results82, go_sem, c40, c41, c42, c43]) rfl ⟨by rw [H.out], ?_⟩
      exact (((hb.setCell (Nat.le_refl _) _).setCell (Nat.le_refl _) _).setCell (Nat.le_refl _) _).setCell (Nat.le_refl _) _
    by_cases hhi : X (n - 1) ≤ x
    · have H := Lib.hid (hi_case (Y := Y) hlo hhi)
      go_wp2
      refine bodyPost_ret (v := .agg #[.int .i64 (X (n - 1)), .int .i64 (Y (n - 1)), .int .i64 (X (n - 1)), .int .i64 (Y (n - 1))]) (by simp [results, Try.results82, go_sem, c40, c41, c42, c43]) rfl ⟨by rw [H.out], ?_⟩
      exact (((hb.setCell (Nat.le_refl _) _).setCell (Nat.le_refl _) _).setCell (Nat.le_refl _) _).setCell (Nat.le_refl _) _
    have hlo' : X 0 < x := by omega
    have hhi' : x < X (n - 1) := by omega
    have HL := Lib.hid hlo'
    have HH := Lib.hid hhi'
    clear hlo hhi
    go_wp2
    go_loop [7] (fun i => ∃ k : Nat, k + 1 < n ∧ i = .int .i64 (k + 1) ∧ X k ≤ x) (fun i => n - (intOf i).toNat)
    case atStart => exact ⟨0, by omega, by go_num, by omega⟩
    case round =>
      obtain ⟨k, hk, rfl, hkx⟩ := hrel
      obtain ⟨hx2, hy2⟩ := HC.out (k + 1) (by omega)
      have hx2' := (hb.cell (cell_lt hx2)).trans hx2
      have hy2' := (hb.cell (cell_lt hy2)).trans hy2
      by_cases hle : X (k + 1) ≤ x
      · have hkn : k + 1 + 1 < n := by
          rcases Nat.lt_or_ge (k + 1 + 1) n with h | h
          · exact h
          · exfalso
            rw [show n - 1 = k + 1 by omega] at hhi'
            omega
        clear hx2 hy2
        go_wp2
        go_round
        case rel => exact ⟨k + 1, hkn, by go_num, hle⟩
        case measure => simp [intOf]; omega
      · have hlt : x < X (k + 1) := by omega
        have H := Lib.hid (mid_case T HL.out HH.out hk hkx hlt)
        obtain ⟨hx3, hy3⟩ := HC.out k (by omega)
        have hx3' := (hb.cell (cell_lt hx3)).trans hx3
        have hy3' := (hb.cell (cell_lt hy3)).trans hy3
        clear hx2 hy2 hx3 hy3
        go_wp2
        go_region
        all_goals
          go_wp2
          refine bodyPost_ret (v := .agg #[.int .i64 (X k), .int .i64 (Y k), .int .i64 (X (k + 1)), .int .i64 (Y (k + 1))]) (by simp [results, Try.results82, go_sem, c40, c41, c42, c43]) rfl ⟨by rw [H.out], ?_⟩
          exact ((((hb.setCell (Nat.le_refl _) _).setCell (Nat.le_refl _) _).setCell (Nat.le_refl _) _).setCell (Nat.le_refl _) _).drew
theorem find_seg {n : Nat} {X : Nat → Int} {x : Int} (h0 : X 0 < x) : ∀ m, m < n → x < X m → ∃ k, k + 1 ≤ m ∧ X k ≤ x ∧ x < X (k + 1) := by
  intro m
  induction m with
  | zero => intro _ h; omega
  | succ m ih =>
    intro hm hx
    by_cases h : X m ≤ x
    · exact ⟨m, by omega, h, hx⟩
    · obtain ⟨k, h1, h2, h3⟩ := ih (by omega) (by omega)
      exact ⟨k, by omega, h2, h3⟩
theorem around_cases {n : Nat} {X Y : Nat → Int} {x : Int} (ht : tabOk n X Y = true) :
    (∃ i, i < n ∧ arr4 X Y (loI n X x) (hiI n X x) = .agg #[.int .i64 (X i), .int .i64 (Y i), .int .i64 (X i), .int .i64 (Y i)] ∧ valZ n X Y x = Y i) ∨
    (∃ k, k + 1 < n ∧ X k ≤ x ∧ x < X (k + 1) ∧ arr4 X Y (loI n X x) (hiI n X x) = .agg #[.int .i64 (X k), .int .i64 (Y k), .int .i64 (X (k + 1)), .int .i64 (Y (k + 1))] ∧ valZ n X Y x = midZ X Y x k) := by
  have T := tabP_of ht
  by_cases hlo : x ≤ X 0
  · exact .inl ⟨0, by have := T.two; omega, lo_case hlo, valZ_low ht hlo⟩
  by_cases hhi : X (n - 1) ≤ x
  · exact .inl ⟨n - 1, by have := T.two; omega, hi_case hlo hhi, valZ_high ht (by omega) hhi⟩
  obtain ⟨k, h1, h2, h3⟩ := find_seg (n := n) (x := x) (X := X) (by omega) (n - 1) (by have := T.two; omega) (by omega)
  have := T.two
  exact .inr ⟨k, by omega, h2, h3, mid_case T (by omega) (by omega) (by omega) h2 h3, valZ_mid ht (by omega) (by omega) (by omega) h2 h3⟩
theorem eqPt (k : Nat) (a b c d : Int) (w : World) : (Op.equalIn (k + 1 + 1) 32 (.agg #[.int .i64 a, .int .i64 b]) (.agg #[.int .i64 c, .int .i64 d])).run Try.prog w = .ok (a == c && b == d) w := by
  have u3 := Try.underlying3
  have a3 := Try.isAgg3
  have z3 := Try.sizeOf3
  have hS : Try.prog.underlying 32 = some (.struct (Try.prog.fieldsOf 32)) := by kernel_rfl
  have hp : Try.prog.stoodInHeld 32 = false := by kernel_rfl
  rw [run_equalIn_agg w (k + 1) 32 _ _ hS hp]
  simp only [Program.fieldsOf, Try.underlying32]
  go_simp
  by_cases h1 : a = c <;> by_cases h2 : b = d <;> simp [h1, h2]
theorem eqArr (a b c d a' b' c' d' : Int) (w : World) : (Op.equalIn 10000 125 (.agg #[.int .i64 a, .int .i64 b, .int .i64 c, .int .i64 d]) (.agg #[.int .i64 a', .int .i64 b', .int .i64 c', .int .i64 d'])).run Try.prog w = .ok ((a == a' && b == b') && (c == c' && d == d')) w := by
  have u48 := Try.underlying32
  have a48 := Try.isAgg32
  have z48 := Try.sizeOf32
  have q := eqPt
  rw [show (10000 : Nat) = 9997 + 1 + 1 + 1 from rfl, Op.equalIn]
  simp only [Sem.run_bind, run_underlying Try.underlying125, Result.andThen_ok]
  simp only [Std.Legacy.Range.forIn_eq_forIn_range', Std.Legacy.Range.size, Nat.sub_zero, Nat.add_sub_cancel, Nat.div_one, List.range'_succ, List.range'_zero, List.forIn_cons, List.forIn_nil]
  go_simp
  by_cases h1 : a = a' <;> by_cases h2 : b = b' <;> by_cases h3 : c = c' <;> by_cases h4 : d = d' <;> simp [h1, h2, h3, h4]
set_option maxHeartbeats 1000000 in
theorem val_impl (A : Option Addr) (n cap : Nat) (x : Int) (w : World) (hn : n ≤ 1048576) (X Y : Nat → Int) (hp : Pts w A n X Y) :
    Calls Try.prog 38 #[.slice A n cap, .int .i64 x] w fun e w' => e = .returned (.int .i64 (valZ n X Y x)) ∧ Below w.heap.size w w' := by
  cases ht : tabOk n X Y with
  | false =>
    have H := Lib.hid (valZ_no (x := x) ht)
    go_enter Try.func38, Try.ntmps38
    go_wp2_with fail
    refine (tab_impl _ _ _ _ hn X Y hp).mono ?_
    rintro e w1 ⟨rfl, hb1⟩
    go_wp2
    go_ret
    exact ⟨ret_int H.out.symm, hb1⟩
  | true =>
    have T := tabP_of ht
    have hq := eqArr
    have HP := Lib.hid hp
    clear hp
    rcases around_cases (x := x) ht with ⟨i, hi, ha, hv⟩ | ⟨k, hk, h1, h2, ha, hv⟩
    · have HA := Lib.hid ha
      have HV := Lib.hid hv
      clear ha hv
      have hee : (X i == X i) = true := by simp
      have hyy : (Y i == Y i) = true := by simp
      go_enter Try.func38, Try.ntmps38
      go_wp2_with fail
      refine (tab_impl _ _ _ _ hn X Y HP.out).mono ?_
      rintro e w1 ⟨rfl, hb1⟩
      go_wp2_with fail
      have hp1 := HP.out.below hb1
      obtain ⟨g, o, rfl, hc1⟩ := hp1 (by omega)
      refine (around g o n cap x w1 X Y T hc1).mono ?_
      rintro e w2 ⟨rfl, hb2⟩
      rw [HA.out]
      have hb2' := hb1.trans (hb2.mono hb1.size)
      clear hc1
      go_upto_region 4 with fail
      go_region
      all_goals
        go_wp2
        go_ret
        exact ⟨ret_int HV.out.symm, ((((hb2'.alloc hb2'.size _).alloc (by simp; have := hb2'.size; omega) _).alloc (by simp; have := hb2'.size; omega) _).drew)⟩
    · have HA := Lib.hid ha
      have HV := Lib.hid hv
      clear ha hv
      have xb := T.x k (by omega)
      have xb' := T.x (k + 1) hk
      have yb := T.y k (by omega)
      have yb' := T.y (k + 1) hk
      have yy := T.ys k hk
      have xx : (X (k + 1) == X k) = false := by simp; omega
      obtain ⟨m0, m1, m2, m3⟩ := mid_bd (x - X k) (Y (k + 1) - Y k) (X (k + 1) - X k) (by omega) (by omega) (by omega) (by omega) (by omega) (by omega)
      go_enter Try.func38, Try.ntmps38
      go_wp2_with fail
      refine (tab_impl _ _ _ _ hn X Y HP.out).mono ?_
      rintro e w1 ⟨rfl, hb1⟩
      go_wp2_with fail
      have hp1 := HP.out.below hb1
      obtain ⟨g, o, rfl, hc1⟩ := hp1 (by omega)
      refine (around g o n cap x w1 X Y T hc1).mono ?_
      rintro e w2 ⟨rfl, hb2⟩
      rw [HA.out]
      have hb2' := hb1.trans (hb2.mono hb1.size)
      clear hc1
      go_upto_region 4 with fail
      go_region
      all_goals
        go_wp2
        go_quiet (fail)
        go_wp2
        go_ret
        exact ⟨ret_int HV.out.symm, ((((hb2'.alloc hb2'.size _).alloc (by simp; have := hb2'.size; omega) _).alloc (by simp; have := hb2'.size; omega) _).drew.drewN' _)⟩
end Go.Proofs.Ytabdbpkolmlpeaa.C1
