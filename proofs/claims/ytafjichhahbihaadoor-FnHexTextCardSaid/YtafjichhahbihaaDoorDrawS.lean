/- Drawn strings and numbers. -/
import Derived.Test.YtafjichhahbihaaDoorCur
import Derived.Test.YtafjichhahbihaaDoorHex
namespace Go.Proofs.YtafjichhahbihaaDoor.C1
open Go.ChangeShapes Go.WideShapes Go.ChangeAt Go.RowKit
set_option linter.unusedVariables false

/-- A string of at most m bytes was drawn. -/
def Str (p m : Nat) (w : World) (e : Ending) (w' : World) : Prop := ∃ s : ByteArray, s.size ≤ m ∧ e = .returned (.string s) ∧ Drawn p w w'
theorem u8_of (x : Int) (h0 : 0 ≤ x) (h1 : x ≤ 255) : ∃ c : UInt8, (c.toNat : Int) = x := ⟨UInt8.ofNat x.toNat, by rw [UInt8.toNat_ofNat']; omega⟩
theorem one1' (a : Int) : ∀ x ∈ ([.int .u8 a] : List Value), x.oneCell' = true := by
  intro x hx
  simp at hx
  subst hx
  rfl
theorem news1' {w : World} {g : Nat} {t : TypeId} {u : Value} (h : w.heap[g]? = some (.cells #[u] t (0, 0))) : ∀ (j : Nat) (x : Value), [u][j]? = some x → w.cell? ((⟨g, 0, none⟩ : Addr).add j) = some x :=
  fun j x hx => World.news_of_block h j x hx
theorem add_head (b j : Nat) : (⟨b, 0, none⟩ : Addr).add j = ⟨b, j, none⟩ := by
  unfold Addr.add
  by_cases h : j = 0
  · subst h; rfl
  · simp [h]
set_option maxHeartbeats 1000000 in
theorem text_draw (p : Nat) (n : Int) (w : World) (hc : Cur w p) (h0 : 0 ≤ n) (h1 : n ≤ 5000) : Calls Tryd.prog 29 #[.pointer (some ⟨p, 0, none⟩), .int .i64 n] w (Str p 5000 w) := by
  obtain ⟨i0, hi, hz0, hz1, hz2⟩ := info_parts (show (Tryd.prog.info? 5).map (fun i => (i.zero, i.size, i.bytes)) = some (some (.int .u8 0), 1, 1) by kernel_rfl)
  obtain ⟨N, rfl⟩ := Int.eq_ofNat_of_zero_le h0
  have HC := Lib.hid hc
  have hpw := hc.lt
  have HO0 := Lib.hid (World.ownsRow_made (size := 1) (e := 5) w #[] 0 (Nat.le_refl _) (by decide) rfl)
  clear hc
  go_enter Tryd.func29, Tryd.ntmps29
  go_wp2
  go_loopw [5, 6] (fun v i wr => ∃ l : List UInt8, i = .int .i64 (l.length : Int) ∧ l.length ≤ N ∧ Drawn p w wr ∧ wr.ownsRow w.heap.size 5 1 v l.length (bcells l)) (fun _ i _ => N - (intOf i).toNat)
  case atStart => exact ⟨[], rfl, by simp, (Drawn.refl HC.out).alloc _, HO0.out⟩
  case round =>
    obtain ⟨l, rfl, hl, hd, hown⟩ := hrel
    by_cases hlt : l.length < N
    · go_wp2_with fail
      refine (byte_draw p _ hd.cur).mono ?_
      rintro e w1 ⟨x, x0, x1, rfl, hd1⟩
      obtain ⟨c, rfl⟩ := u8_of x x0 x1
      have hown1 := own_drawn hd1 hpw hown
      have hd1 := hd.trans hd1
      have hd1' := hd1.alloc (.cells #[.int .u8 (c.toNat : Int)] 5)
      go_wp2_with (at_builtin; refine wpList_append_own _ rfl _ _ 22 rfl w.heap.size 5 i0 _ 1 1 Tryd.underlying22 hi hz0 hz1 hz2 rfl (by decide) _ _ _ rfl (hown1.alloc _) ⟨w1.heap.size, 0, none⟩ 1 1 [.int .u8 (c.toNat : Int)] rfl rfl ?c1 ?c2 ?c3 ?c4 ?c5 ?_)
      case c1 => exact news1' (heap_alloc_new _ _)
      case c2 => exact one1' _
      case c3 => unfold maxLen; omega
      case c4 => omega
      case c5 => have := hd1.2.2.1; simp; omega
      intro v' w4 hown4 hgrow _
      have hd4 := Lib.hid (hd1'.app hpw hgrow (fun k hk => (hown1.lt k hk).1))
      have HO := Lib.hid (show w4.ownsRow w.heap.size 5 1 v' (l ++ [c]).length (bcells (l ++ [c])) by rw [List.length_append, List.length_singleton, bcells, List.map_append]; exact hown4)
      clear hown hown1 hown4 hgrow hd hd1 hd1'
      go_wp2
      go_roundw
      case rel => exact ⟨l ++ [c], by rw [List.length_append, List.length_singleton]; go_num, by rw [List.length_append, List.length_singleton]; omega, hd4.out, HO.out⟩
      case measure => simp [intOf]; omega
    · have hcv := conv_own hown
      have hs : (⟨l.toArray⟩ : ByteArray).size ≤ 5000 := by show l.toArray.size ≤ 5000; simp; omega
      have HS := Lib.hid hs
      clear hs
      go_wp2
      go_ret
      exact ⟨_, HS.out, rfl, hd⟩
set_option maxHeartbeats 1000000 in
theorem long_draw (n x : Int) (w : World) (h0 : 0 ≤ n) (h1 : n ≤ 30000) (x0 : 0 ≤ x) (x1 : x ≤ 255) :
    Calls Tryd.prog 27 #[.int .i64 n, .int .u8 x] w fun e w' => (∃ s : ByteArray, Hid ((s.size : Int) = n) ∧ e = .returned (.string s)) ∧ Below w.heap.size w w' := by
  obtain ⟨N, rfl⟩ := Int.eq_ofNat_of_zero_le h0
  obtain ⟨c, rfl⟩ := u8_of x x0 x1
  have hmk : ∀ W : World, (Instr.makeSlice 22 (.int .i64 (N : Int)) (.int .i64 (N : Int))).run Tryd.prog W = .ok (.slice (some ⟨W.heap.size, 0, none⟩) N N) (W.alloc (.cells (madeCells #[.int .u8 0] N) 5)) := fun W =>
    run_make_row' 22 5 (.int .u8 0) 1 Tryd.underlying22 (by kernel_rfl) rfl .i64 .i64 N (by omega) (by omega) W
  go_enter Tryd.func27, Tryd.ntmps27
  go_wp2
  clear hmk
  go_loopw [6] (fun i wr => ∃ k : Nat, k ≤ N ∧ i = .int .i64 k ∧ Below w.heap.size w wr ∧ wr.rowIs w.heap.size 5 N (fun j => if j < k then .int .u8 (c.toNat : Int) else .int .u8 0)) (fun i _ => N - (intOf i).toNat)
  case atStart => exact ⟨0, by omega, rfl, (Below.refl _ _).alloc (Nat.le_refl _) _, (World.rowIs_made w (.int .u8 0) N 5).congr fun j hj => (if_neg (by omega)).symm⟩
  case round =>
    obtain ⟨k, hk, rfl, hb, hrow⟩ := hrel
    by_cases hlt : k < N
    · have z0 := hrow.frozen k
      obtain ⟨u0, c0⟩ : ∃ u, wr.cell? ⟨w.heap.size, k, none⟩ = some u := ⟨_, hrow.cell hlt⟩
      go_wp2
      go_roundw
      case rel =>
        refine ⟨k + 1, by omega, by go_num, hb.setCell (Nat.le_refl _) _, (hrow.set _ _).congr fun j hj => ?_⟩
        by_cases e1 : j = k
        · rw [if_pos e1, if_pos (by omega)]
        · rw [if_neg e1]
          by_cases e2 : j < k
          · rw [if_pos e2, if_pos (by omega)]
          · rw [if_neg e2, if_neg (by omega)]
      case measure => simp [intOf]; omega
    · obtain rfl : k = N := by omega
      have hcv := run_convert_bytes_back (P := Tryd.prog) wr 22 9 5 ⟨w.heap.size, 0, none⟩ k (List.replicate k c) Tryd.underlying22 Tryd.underlying5 Tryd.underlying9 (fun j hj => by
        have hj' : j < k := by simpa using hj
        have := hrow.cell hj'
        rw [if_pos hj'] at this
        simpa [add_head] using this)
      rw [List.length_replicate] at hcv
      have HS := Lib.hid (show (((⟨(List.replicate k c).toArray⟩ : ByteArray).size : Nat) : Int) = (k : Int) by show ((List.replicate k c).toArray.size : Int) = k; simp)
      generalize (⟨(List.replicate k c).toArray⟩ : ByteArray) = s at hcv HS
      go_wp2
      go_ret
      exact ⟨⟨s, HS.out, rfl⟩, hb⟩
set_option maxHeartbeats 1000000 in
theorem encHex_draw (A : Option Addr) (n cap : Nat) (f : Nat → Int) (w : World) (hn : n ≤ 1048576) (hs : SrcB w A n f) :
    Calls Tryd.prog 10 #[.slice A n cap] w fun e w' => (∃ s : ByteArray, s.size ≤ 30000 ∧ e = .returned (.string s)) ∧ Below w.heap.size w w' := by
  have HS := Lib.hid hs
  clear hs
  go_enter Tryd.func10, Tryd.ntmps10
  go_wp2_with fail
  refine (new_draw _ _ _ f _ hn HS.out).mono ?_
  rintro e w1 ⟨rfl, hb1, _, hc1⟩
  have HB1 := Lib.hid hb1
  have HC1 := Lib.hid hc1
  clear hb1 hc1
  go_wp2_with fail
  refine (once_draw _ 60 _ HC1.out (by omega) (by omega)).mono ?_
  rintro e w2 ⟨b, rfl, hd2⟩
  have HD2 := Lib.hid hd2
  clear hd2
  cases b with
  | true =>
    go_wp2_with fail
    refine (below_draw _ 2 _ HD2.out.cur (by omega) (by omega)).mono ?_
    rintro e w3 ⟨x, x0, x1, rfl, hd3⟩
    have HD3 := Lib.hid (HD2.out.trans hd3)
    clear hd3
    go_wp2_with fail
    refine (long_draw _ _ _ (by omega) (by omega) (by omega) (by omega)).mono ?_
    rintro e w4 ⟨⟨s, HS4, rfl⟩, hb4⟩
    have HB4 := Lib.hid ((HB1.out.trans (HD3.out.below (Nat.le_refl _))).trans (hb4.mono (HB1.out.trans (HD3.out.below (Nat.le_refl _))).size))
    clear hb4
    go_wp2
    go_ret
    exact ⟨⟨s, by have := HS4.out; omega, rfl⟩, HB4.out⟩
  | false =>
    go_wp2_with fail
    refine (below_draw _ 30 _ HD2.out.cur (by omega) (by omega)).mono ?_
    rintro e w3 ⟨x, x0, x1, rfl, hd3⟩
    have HD3 := Lib.hid (HD2.out.trans hd3)
    clear hd3
    go_wp2_with fail
    refine (text_draw _ _ _ HD3.out.cur (by omega) (by omega)).mono ?_
    rintro e w4 ⟨s, hs4, rfl, hd4⟩
    have HD4 := Lib.hid (HD3.out.trans hd4)
    clear hd4
    go_wp2
    go_ret
    exact ⟨⟨s, by omega, rfl⟩, HB1.out.trans (HD4.out.below (Nat.le_refl _))⟩
theorem mul_bd2 (a b : Int) (h0 : 0 ≤ a) (h1 : a ≤ 1000000) (h2 : -1000000 ≤ b) (h3 : b ≤ 1000000) : -1000000000000 ≤ a * b ∧ a * b ≤ 1000000000000 := by
  constructor
  · have e1 := Int.mul_le_mul_of_nonneg_left h2 h0
    have e2 := Int.mul_le_mul_of_nonneg_right h1 (by omega : (0 : Int) ≤ 1000000)
    omega
  · have e1 := Int.mul_le_mul_of_nonneg_left h3 h0
    have e2 := Int.mul_le_mul_of_nonneg_right h1 (by omega : (0 : Int) ≤ 1000000)
    omega
set_option maxHeartbeats 1000000 in
theorem fmtInt_draw (A : Option Addr) (n cap : Nat) (f : Nat → Int) (w : World) (hn : n ≤ 1048576) (hs : SrcB w A n f) :
    Calls Tryd.prog 14 #[.slice A n cap] w fun e w' => (∃ x : Int, (-9223372036854775808 ≤ x ∧ x ≤ 9223372036854775807) ∧ e = .returned (.int .i64 x)) ∧ Below w.heap.size w w' := by
  have HS := Lib.hid hs
  clear hs
  go_enter Tryd.func14, Tryd.ntmps14
  go_wp2_with fail
  refine (new_draw _ _ _ f _ hn HS.out).mono ?_
  rintro e w1 ⟨rfl, hb1, _, hc1⟩
  have HB1 := Lib.hid hb1
  have HC1 := Lib.hid hc1
  clear hb1 hc1
  go_wp2_with fail
  refine (once_draw _ 3 _ HC1.out (by omega) (by omega)).mono ?_
  rintro e w2 ⟨b, rfl, hd2⟩
  have HD2 := Lib.hid hd2
  clear hd2
  cases b with
  | true =>
    go_wp2_with fail
    refine (below_draw _ 1000000 _ HD2.out.cur (by omega) (by omega)).mono ?_
    rintro e w3 ⟨x, x0, x1, rfl, hd3⟩
    have HD3 := Lib.hid (HD2.out.trans hd3)
    clear hd3
    go_wp2_with fail
    refine (below_draw _ 2000000 _ HD3.out.cur (by omega) (by omega)).mono ?_
    rintro e w4 ⟨y, y0, y1, rfl, hd4⟩
    have HD4 := Lib.hid (HD3.out.trans hd4)
    clear hd4
    have hm := mul_bd2 x (y - 1000000) (by omega) (by omega) (by omega) (by omega)
    go_wp2
    go_ret
    exact ⟨⟨_, ⟨by omega, by omega⟩, rfl⟩, HB1.out.trans (HD4.out.below (Nat.le_refl _))⟩
  | false =>
    go_wp2_with fail
    refine (number_draw _ _ HD2.out.cur).mono ?_
    rintro e w3 ⟨x, x0, x1, rfl, hd3⟩
    have HD3 := Lib.hid (HD2.out.trans hd3)
    clear hd3
    go_wp2
    go_ret
    exact ⟨⟨_, ⟨x0, x1⟩, rfl⟩, HB1.out.trans (HD3.out.below (Nat.le_refl _))⟩
end Go.Proofs.YtafjichhahbihaaDoor.C1
