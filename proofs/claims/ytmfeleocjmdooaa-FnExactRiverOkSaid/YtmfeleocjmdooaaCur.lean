/- The cursor of the draws: every draw lies in its range, and only the cursor's block changes. -/
import Derived.Test.YtmfeleocjmdooaaDraw
import Derived.Laws.AppendOwn
import Derived.Laws.OwnMore
import Derived.OwnWalk
namespace Go.Proofs.Ytmfeleocjmdooaa.C1
open Go.ChangeShapes Go.WideShapes Go.ChangeAt Go.RowKit
set_option linter.unusedVariables false

theorem and_255 (x : Int) : 0 ≤ bits .and .i64 x 255 ∧ bits .and .i64 x 255 ≤ 255 := by
  have h2 : (BitVec.ofInt 64 (255 : Int)).toNat = 2 ^ 8 - 1 := by decide
  have e : bits .and .i64 x 255 = IntKind.i64.wrap ((BitVec.ofInt 64 x &&& BitVec.ofInt 64 255).toNat : Int) := rfl
  rw [e, BitVec.toNat_and, h2, Nat.and_two_pow_sub_one_eq_mod]
  have := Nat.mod_lt (BitVec.ofInt 64 x).toNat (by decide : 2 ^ 8 > 0)
  rw [IntWalk.i64_in _ ⟨by omega, by omega⟩]
  omega

theorem add_block (a : Addr) (n : Nat) : (a.add n).block = a.block := by unfold Addr.add; split <;> rfl
theorem heap_set {w : World} {p j : Nat} {cs : Array Value} {t : TypeId} {fr : Nat × Nat} {v : Value} (h : w.heap[p]? = some (.cells cs t fr)) : (w.setCell ⟨p, j, none⟩ v).heap[p]? = some (.cells (cs.setIfInBounds j v) t fr) := by
  simp [World.setCell, Array.getElem?_modify, h]
theorem heap_other {w : World} {p j k : Nat} {v : Value} (h : k ≠ p) : (w.setCell ⟨p, j, none⟩ v).heap[k]? = w.heap[k]? := Below.heap_setCell w ⟨p, j, none⟩ v k h
/-- A slice of integers in a block of plain cells. -/
def Ints (w : World) (A : Option Addr) (n : Nat) (f : Nat → Int) : Prop := 0 < n → ∃ g o, A = some ⟨g, o, none⟩ ∧ ∀ i, i < n → w.cell? ⟨g, o + i, none⟩ = some (.int .i64 (f i))
/-- Block p is a cursor over bytes that lie below it. -/
def Cur (w : World) (p : Nat) : Prop :=
  ∃ (A : Option Addr) (n c i : Nat) (h : Int) (f : Nat → Int), w.heap[p]? = some (.cells #[.slice A n c, .int .i64 i, .int .i64 h] 146 (0, 0)) ∧ i ≤ n ∧ n ≤ 1048576 ∧
    (0 < n → ∃ ad, A = some ad ∧ ad.block < p ∧ ∀ j, j < n → w.cell? (ad.add j) = some (.int .u8 (f j)) ∧ 0 ≤ f j ∧ f j ≤ 255)
theorem Cur.lt {w : World} {p : Nat} (h : Cur w p) : p < w.heap.size := by
  obtain ⟨A, n, c, i, hh, f, hp, _⟩ := h
  exact (Array.getElem?_eq_some_iff.1 hp).1
theorem Cur.keep {w w' : World} {p : Nat} (h : Cur w p) (hk : ∀ k, k ≤ p → w'.heap[k]? = w.heap[k]?) : Cur w' p := by
  obtain ⟨A, n, c, i, hh, f, hp, hi, hn, hs⟩ := h
  refine ⟨A, n, c, i, hh, f, (hk p (Nat.le_refl _)).trans hp, hi, hn, fun h0 => ?_⟩
  obtain ⟨ad, e, hl, hc⟩ := hs h0
  exact ⟨ad, e, hl, fun j hj => ⟨(World.cell?_of_block (hk _ (by rw [add_block]; omega))).trans (hc j hj).1, (hc j hj).2⟩⟩
theorem Cur.below {w w' : World} {p : Nat} (h : Cur w p) (hb : Below w.heap.size w w') : Cur w' p := h.keep fun k hk => hb.block k (by have := h.lt; omega)
/-- What a draw leaves: only block p has changed, and it is a cursor again. -/
def Drawn (p : Nat) (w w' : World) : Prop := Below p w w' ∧ (∀ k, p < k → k < w.heap.size → w'.heap[k]? = w.heap[k]?) ∧ w.heap.size ≤ w'.heap.size ∧ Cur w' p
/-- A number from lo to hi was drawn. -/
def Num (p : Nat) (lo hi : Int) (w : World) (e : Ending) (w' : World) : Prop := ∃ x : Int, lo ≤ x ∧ x ≤ hi ∧ e = .returned (.int .i64 x) ∧ Drawn p w w'

theorem drawn_of {w w' : World} {p : Nat} (hc : Cur w p) (ho : ∀ k, k ≠ p → w'.heap[k]? = w.heap[k]?) (hs : w'.heap.size = w.heap.size) (h1 : w'.os = w.os) (h2 : w'.tape = w.tape) (h3 : w'.output = w.output)
    (hp : ∀ (A : Option Addr) (n c i : Nat) (h : Int), w.heap[p]? = some (.cells #[.slice A n c, .int .i64 i, .int .i64 h] 146 (0, 0)) → i ≤ n → ∃ (i' : Nat) (h' : Int), i' ≤ n ∧ w'.heap[p]? = some (.cells #[.slice A n c, .int .i64 i', .int .i64 h'] 146 (0, 0))) : Drawn p w w' := by
  refine ⟨⟨h1, h2, h3, by omega, fun k hk => ho k (by omega)⟩, fun k hk _ => ho k (by omega), by omega, ?_⟩
  obtain ⟨A, n, c, i, h, f, hp0, hi, hn, hb⟩ := hc
  obtain ⟨i', h', hi', hp'⟩ := hp A n c i h hp0 hi
  refine ⟨A, n, c, i', h', f, hp', hi', hn, fun h0 => ?_⟩
  obtain ⟨ad, e, hl, hcs⟩ := hb h0
  exact ⟨ad, e, hl, fun j hj => ⟨(World.cell?_of_block (ho _ (by rw [add_block]; omega))).trans (hcs j hj).1, (hcs j hj).2⟩⟩

set_option maxHeartbeats 1000000 in
theorem byte_draw (p : Nat) (w : World) (hc : Cur w p) : Calls Try.prog 190 #[.pointer (some ⟨p, 0, none⟩)] w (Num p 0 255 w) := by
  have hcur := Lib.hid hc
  obtain ⟨A, n, c, i, h, f, hp, hi, hn, hs⟩ := hc
  have hlt : p < w.heap.size := (Array.getElem?_eq_some_iff.1 hp).1
  have c0 : w.cell? ⟨p, 0, none⟩ = some (.slice A n c) := by simp [World.cell?, hp]
  have c1 : w.cell? ⟨p, 1, none⟩ = some (.int .i64 i) := by simp [World.cell?, hp]
  have c2 : w.cell? ⟨p, 2, none⟩ = some (.int .i64 h) := by simp [World.cell?, hp]
  have z1 : w.frozen? ⟨p, 1, none⟩ = false := by simp [World.frozen?, hp]
  have z2 : w.frozen? ⟨p, 2, none⟩ = false := by simp [World.frozen?, hp]
  have HP := Lib.hid hp
  clear hp
  by_cases hin : i < n
  · obtain ⟨ad, rfl, hl, hcs⟩ := hs (by omega)
    obtain ⟨d0, d1, d2⟩ := hcs i hin
    have hne : (ad.add i).block ≠ p := by rw [add_block]; omega
    have d0' : ∀ u, (w.setCell ⟨p, 2, none⟩ u).cell? (ad.add i) = some (.int .u8 (f i)) := fun u => (World.cell?_of_block (heap_other hne)).trans d0
    clear hcs hs
    go_enter Try.func190, Try.ntmps190
    go_wp2
    go_quiet (fail)
    generalize wrap64 (wrap64 (h * 6364136223846793005) + 1442695040888963407) = e
    obtain ⟨q1, q2⟩ := and_255 (bits .xor .i64 (e / 8589934592) (e / 35184372088832))
    generalize bits .and .i64 (bits .xor .i64 (e / 8589934592) (e / 35184372088832)) 255 = x0 at *
    go_wp2
    go_quiet (fail)
    go_wp2
    go_quiet (fail)
    obtain ⟨q3, q4⟩ := and_255 (x0 + f i)
    go_wp2
    go_ret
    refine ⟨_, q3, q4, rfl, drawn_of hcur (fun k hk => ?_) ?_ rfl rfl rfl (fun A' n' c' i' h' hq hi' => ?_)⟩
    · exact (heap_other hk).trans (heap_other hk)
    · simp [World.setCell]
    · rw [HP.out] at hq
      simp only [Option.some.injEq, Obj.cells.injEq, Array.mk.injEq, List.cons.injEq, Value.slice.injEq, Value.int.injEq, and_true, true_and] at hq
      obtain ⟨⟨rfl, rfl, rfl⟩, e1, rfl⟩ := hq
      exact ⟨i + 1, e, by omega, heap_set (heap_set HP.out)⟩
  · have hin' : ¬ ((i : Int) < (n : Int)) := by omega
    go_enter Try.func190, Try.ntmps190
    go_wp2
    go_quiet (fail)
    generalize wrap64 (wrap64 (h * 6364136223846793005) + 1442695040888963407) = e
    obtain ⟨q1, q2⟩ := and_255 (bits .xor .i64 (e / 8589934592) (e / 35184372088832))
    generalize bits .and .i64 (bits .xor .i64 (e / 8589934592) (e / 35184372088832)) 255 = x0 at *
    go_wp2
    go_quiet (fail)
    go_wp2
    go_ret
    refine ⟨_, q1, q2, rfl, drawn_of hcur (fun k hk => ?_) ?_ rfl rfl rfl (fun A' n' c' i' h' hq hi' => ?_)⟩
    · exact heap_other hk
    · simp [World.setCell]
    · rw [HP.out] at hq
      simp only [Option.some.injEq, Obj.cells.injEq, Array.mk.injEq, List.cons.injEq, Value.slice.injEq, Value.int.injEq, and_true, true_and] at hq
      obtain ⟨⟨rfl, rfl, rfl⟩, e1, rfl⟩ := hq
      exact ⟨i, e, by omega, heap_set HP.out⟩

theorem Drawn.cur {p : Nat} {w w' : World} (h : Drawn p w w') : Cur w' p := h.2.2.2
theorem Drawn.refl {p : Nat} {w : World} (h : Cur w p) : Drawn p w w := ⟨Below.refl _ _, fun _ _ _ => rfl, Nat.le_refl _, h⟩
theorem Drawn.trans {p : Nat} {a b c : World} (h : Drawn p a b) (k : Drawn p b c) : Drawn p a c :=
  ⟨h.1.trans k.1, fun i h1 h2 => (k.2.1 i h1 (Nat.lt_of_lt_of_le h2 h.2.2.1)).trans (h.2.1 i h1 h2), Nat.le_trans h.2.2.1 k.2.2.1, k.2.2.2⟩
theorem Drawn.drewN {p : Nat} {a b : World} (h : Drawn p a b) (n : Nat) : Drawn p a (b.drewN n) := ⟨h.1.drewN' n, h.2.1, h.2.2.1, h.2.2.2⟩
theorem Drawn.alloc {p : Nat} {a b : World} (h : Drawn p a b) (o : Obj) : Drawn p a (b.alloc o) :=
  ⟨h.1.alloc (by have := h.cur.lt; omega) o, fun k h1 h2 => (Below.heap_alloc b o k (Nat.lt_of_lt_of_le h2 h.2.2.1)).trans (h.2.1 k h1 h2), Nat.le_trans h.2.2.1 (by simp), h.cur.below ((Below.refl _ _).alloc (Nat.le_refl _) _)⟩
/-- A cursor that the call itself made. -/
theorem Drawn.below {p B : Nat} {a b : World} (h : Drawn p a b) (hB : B ≤ p) : Below B a b := h.1.mono hB

theorem pos_rem (x n : Int) (h0 : 0 ≤ x) (hn : 0 < n) : 0 ≤ x % n ∧ x % n ≤ n - 1 := ⟨Int.emod_nonneg _ (by omega), by have := Int.emod_lt_of_pos x hn; omega⟩
set_option maxHeartbeats 1000000 in
theorem below_draw (p : Nat) (n : Int) (w : World) (hc : Cur w p) (h0 : 0 < n) (h1 : n ≤ 9223372036854775807) : Calls Try.prog 149 #[.pointer (some ⟨p, 0, none⟩), .int .i64 n] w (Num p 0 (n - 1) w) := by
  have HC := Lib.hid hc
  clear hc
  by_cases hs : n ≤ 256
  · go_enter Try.func149, Try.ntmps149
    go_wp2_with fail
    refine (byte_draw p _ HC.out).mono ?_
    rintro e w1 ⟨x, x0, x1, rfl, hd⟩
    have HD := Lib.hid hd
    clear hd
    obtain ⟨q0, q1⟩ := pos_rem x n x0 h0
    go_wp2
    go_ret
    exact ⟨_, q0, q1, rfl, HD.out⟩
  · have hs' : 256 < n := by omega
    go_enter Try.func149, Try.ntmps149
    go_wp2_with fail
    refine (byte_draw p _ HC.out).mono ?_
    rintro e w1 ⟨x, x0, x1, rfl, hd1⟩
    have HD1 := Lib.hid hd1
    clear hd1
    go_wp2_with fail
    refine (byte_draw p _ HD1.out.cur).mono ?_
    rintro e w2 ⟨y, y0, y1, rfl, hd2⟩
    have HD2 := Lib.hid (HD1.out.trans hd2)
    clear hd2
    go_wp2_with fail
    refine (byte_draw p _ HD2.out.cur).mono ?_
    rintro e w3 ⟨z, z0, z1, rfl, hd3⟩
    have HD3 := Lib.hid (HD2.out.trans hd3)
    clear hd3
    go_wp2_with fail
    refine (byte_draw p _ HD3.out.cur).mono ?_
    rintro e w4 ⟨v, v0, v1, rfl, hd4⟩
    have HD4 := Lib.hid (HD3.out.trans hd4)
    clear hd4
    obtain ⟨q0, q1⟩ := pos_rem (x * 16777216 + y * 65536 + z * 256 + v) n (by omega) h0
    go_wp2
    go_ret
    exact ⟨_, q0, q1, rfl, HD4.out⟩
def Flag (p : Nat) (w : World) (e : Ending) (w' : World) : Prop := ∃ b : Bool, e = .returned (.bool b) ∧ Drawn p w w'
theorem once_draw (p : Nat) (n : Int) (w : World) (hc : Cur w p) (h0 : 0 < n) (h1 : n ≤ 9223372036854775807) : Calls Try.prog 148 #[.pointer (some ⟨p, 0, none⟩), .int .i64 n] w (Flag p w) := by
  have HC := Lib.hid hc
  clear hc
  go_enter Try.func148, Try.ntmps148
  go_wp2_with fail
  refine (below_draw p n _ HC.out h0 h1).mono ?_
  rintro e w1 ⟨x, x0, x1, rfl, hd⟩
  have HD := Lib.hid hd
  clear hd
  go_wp2
  go_ret
  exact ⟨_, rfl, HD.out⟩
theorem cell_new {w : World} {cs : Array Value} {t : TypeId} {j : Nat} {u : Value} (h : cs[j]? = some u) : (w.alloc (.cells cs t)).cell? ⟨w.heap.size, j, none⟩ = some u := by
  unfold World.cell?; rw [heap_alloc_new]; exact h
theorem Drawn.heap {p : Nat} {a b : World} (h : Drawn p a b) {k : Nat} (hk : k ≠ p) (hl : k < a.heap.size) : b.heap[k]? = a.heap[k]? := by
  rcases Nat.lt_or_ge k p with h1 | h1
  · exact h.1.block k h1
  · exact h.2.1 k (by omega) hl
theorem Drawn.grown {p : Nat} {a b : World} (h : Drawn p a b) : a.grownBy b (some p) :=
  ⟨h.1.os, h.1.tape, h.1.output, h.2.2.1, fun k hk hne => h.heap (fun e => hne (by rw [e])) hk⟩
theorem own_drawn {p B : Nat} {a b : World} {e : TypeId} {size : Nat} {v : Value} {n : Nat} {xs : List Value} (h : Drawn p a b) (hB : p < B) (ho : a.ownsRow B e size v n xs) : b.ownsRow B e size v n xs :=
  ho.kept h.grown (by
    cases hv : v.ownBlock with
    | none => exact .inl rfl
    | some g => exact .inr (fun e => by injection e with e; have := (ho.lt g hv).1; omega))
/-- Behind an append to a row of the call's own. -/
theorem Drawn.app {p : Nat} {a b c : World} {r : Option Nat} (h : Drawn p a b) (hl : p < a.heap.size) (hg : b.grownBy c r) (hr : ∀ k, r = some k → a.heap.size ≤ k) : Drawn p a c := by
  have hne : ∀ k, k < a.heap.size → some k ≠ r := fun k hk e => by have := hr k e.symm; omega
  have hs := h.2.2.1
  refine ⟨⟨hg.os.trans h.1.os, hg.tape.trans h.1.tape, hg.output.trans h.1.output, Nat.le_trans hs hg.size, fun k hk => ?_⟩, fun k h1 h2 => ?_, Nat.le_trans hs hg.size, h.cur.keep fun k hk => ?_⟩
  · exact (hg.block k (by omega) (hne k (by omega))).trans (h.1.block k hk)
  · exact (hg.block k (by omega) (hne k h2)).trans (h.2.1 k h1 h2)
  · exact hg.block k (by omega) (hne k (by omega))
theorem pick_draw (p g o : Nat) (n cap : Nat) (f : Nat → Int) (w : World) (hc : Cur w p) (h0 : 0 < n) (h1 : n ≤ 9223372036854775807) (hg : g ≠ p) (hf : ∀ i, i < n → w.cell? ⟨g, o + i, none⟩ = some (.int .i64 (f i))) (lo hi : Int) (hb : ∀ i, i < n → lo ≤ f i ∧ f i ≤ hi) :
    Calls Try.prog 191 #[.pointer (some ⟨p, 0, none⟩), .slice (some ⟨g, o, none⟩) n cap] w (Num p lo hi w) := by
  have HC := Lib.hid hc
  have HF := Lib.hid hf
  have HB := Lib.hid hb
  clear hc hf hb
  go_enter Try.func191, Try.ntmps191
  go_wp2_with fail
  refine (below_draw p n _ HC.out (by omega) (by omega)).mono ?_
  rintro e w1 ⟨x, x0, x1, rfl, hd⟩
  obtain ⟨k, rfl⟩ := Int.eq_ofNat_of_zero_le x0
  have hk : k < n := by omega
  have hx := HF.out k hk
  have hx1 := (World.cell?_of_block (a := ⟨g, o + k, none⟩) (hd.heap hg (cell_lt' hx))).trans hx
  have HD := Lib.hid hd
  clear hd hx
  go_wp2
  go_ret
  exact ⟨_, (HB.out k hk).1, (HB.out k hk).2, rfl, HD.out⟩
set_option maxRecDepth 100000 in
set_option maxHeartbeats 400000 in
theorem new_draw (A : Option Addr) (n cap : Nat) (f : Nat → Int) (w : World) (hn : n ≤ 1048576) (hs : SrcB w A n f) :
    Calls Try.prog 97 #[.slice A n cap] w fun e w' => e = .returned (.pointer (some ⟨w.heap.size, 0, none⟩)) ∧ Below w.heap.size w w' ∧ w'.heap.size = w.heap.size + 1 ∧ Cur w' w.heap.size := by
  go_enter Try.func97, Try.ntmps97
  go_wp2
  go_loop [3, 4] (fun h i => ∃ (k : Nat) (x : Int), k ≤ n ∧ i = .int .i64 k ∧ h = .int .i64 x) (fun h i => n - (intOf i).toNat)
  case atStart => exact ⟨0, _, by omega, rfl, rfl⟩
  case round =>
    obtain ⟨k, x, hk, rfl, rfl⟩ := hrel
    by_cases hlt : k < n
    · obtain ⟨ad, rfl, hc⟩ := hs (by omega)
      obtain ⟨c0, c1, c2⟩ := hc k hlt
      clear hc
      by_cases h4 : k < 4000
      · go_wp2
        go_round
        case rel => exact ⟨k + 1, _, by omega, by go_num, rfl⟩
        case measure => simp [intOf]; omega
      · have h4' : ¬ ((k : Int) < 4000) := by omega
        go_wp2
        go_ret
        exact ⟨rfl, (Below.refl _ _).alloc (Nat.le_refl _) _, by simp, some ad, n, cap, 0, x, f, heap_alloc_new _ _, by omega, hn, fun h0 => by
          obtain ⟨ad', e, hcs⟩ := hs h0
          injection e with e; subst e
          exact ⟨ad, rfl, by have := cell_lt' (hcs 0 h0).1; rw [add_block] at this; exact this, fun j hj => ⟨(Below.cell ((Below.refl _ _).alloc (Nat.le_refl _) _) (cell_lt' (hcs j hj).1)).trans (hcs j hj).1, (hcs j hj).2⟩⟩⟩
    · go_wp2
      go_ret
      exact ⟨rfl, (Below.refl _ _).alloc (Nat.le_refl _) _, by simp, A, n, cap, 0, x, f, heap_alloc_new _ _, by omega, hn, fun h0 => by
          obtain ⟨ad, e, hcs⟩ := hs h0
          exact ⟨ad, e, by have := cell_lt' (hcs 0 h0).1; rw [add_block] at this; exact this, fun j hj => ⟨(Below.cell ((Below.refl _ _).alloc (Nat.le_refl _) _) (cell_lt' (hcs j hj).1)).trans (hcs j hj).1, (hcs j hj).2⟩⟩⟩
end Go.Proofs.Ytmfeleocjmdooaa.C1
