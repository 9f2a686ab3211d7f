/- Drawn strings and numbers. -/
import Derived.Test.YtafjichhahbihaaDoorCur
import Derived.Test.YtafjichhahbihaaDoorHex
namespace Go.Proofs.YtafjichhahbihaaDoor.C1
open Go.ChangeShapes Go.WideShapes Go.ChangeAt Go.RowKit
set_option linter.unusedVariables false

/-- A string of at most m bytes was drawn. -/
def Str (p m : Nat) (w : World) (e : Ending) (w' : World) : Prop := ∃ s : ByteArray, s.size ≤ m ∧ e = .returned (.string s) ∧ Drawn p w w'
theorem u8_of (x : Int) (h0 : 0 ≤ x) (h1 : x ≤ 255) : ∃ c : UInt8, (c.toNat : Int) = x := ⟨UInt8.ofNat x.toNat, by rw [UInt8.toNat_ofNat']; omega⟩
theorem one1' (a : Int) : ∀ x ∈ ([.int .u8 a] : List Value), x.oneCell' = true := by
  intro x hx
  simp at hx
  subst hx
  rfl
theorem news1' {w : World} {g : Nat} {t : TypeId} {u : Value} (h : w.heap[g]? = some (.cells #[u] t (0, 0))) : ∀ (j : Nat) (x : Value), [u][j]? = some x → w.cell? ((⟨g, 0, none⟩ : Addr).add j) = some x :=
  fun j x hx => World.news_of_block h j x hx
theorem add_head (b j : Nat) : (⟨b, 0, none⟩ : Addr).add j = ⟨b, j, none⟩ := by
  unfold Addr.add
  by_cases h : j = 0
  · subst h; rfl
  · simp [h]
set_option maxHeartbeats 1000000 in
theorem text_draw (p : Nat) (n : Int) (w : World) (hc : Cur w p) (h0 : 0 ≤ n) (h1 : n ≤ 5000) : Calls Tryd.prog 29 #[.pointer (some ⟨p, 0, none⟩), .int .i64 n] w (Str p 5000 w) := by
  obtain ⟨i0, hi, hz0, hz1, hz2⟩ := info_parts (show (Tryd.prog.info? 5).map (fun i => (i.zero, i.size, i.bytes)) = some (some (.int .u8 0), 1, 1) by kernel_rfl)
  obtain ⟨N, rfl⟩ := Int.eq_ofNat_of_zero_le h0
  have HC := Lib.hid hc
  have hpw := hc.lt
  have HO0 := Lib.hid (World.ownsRow_made (size := 1) (e := 5) w #[] 0 (Nat.le_refl _) (by decide) rfl)
  clear hc
  go_enter Tryd.func29, Tryd.ntmps29
  go_wp2
  go_loopw [5, 6] (fun v i wr => ∃ l : List UInt8, i = .int .i64 (l.length : Int) ∧ l.length ≤ N ∧ Drawn p w wr ∧ wr.ownsRow w.heap.size 5 1 v l.length (bcells l)) (fun _ i _ => N - (intOf i).toNat)
  case atStart => exact ⟨[], rfl, by simp, (Drawn.refl HC.out).alloc _, HO0.out⟩
  case round =>
    obtain ⟨l, rfl, hl, hd, hown⟩ := hrel
    by_cases hlt : l.length < N
    · go_wp2_with fail
      refine (byte_draw p _ hd.cur).mono ?_
      rintro e w1 ⟨x, x0, x1, rfl, hd1⟩
      obtain ⟨c, rfl⟩ := u8_of x x0 x1
      have hown1 := own_drawn hd1 hpw hown
      have hd1 := hd.trans hd1
      have hd1' := hd1.alloc (.cells #[.int .u8 (c.toNat : Int)] 5)
      go_wp2_with (at_builtin; refine wpList_append_own _ rfl _ _ 22 rfl w.heap.size 5 i0 _ 1 1 Tryd.underlying22 hi hz0 hz1 hz2 rfl (by decide) _ _ _ rfl (hown1.alloc _) ⟨w1.heap.size, 0, none⟩ 1 1 [.int .u8 (c.toNat : Int)] rfl rfl ?c1 ?c2 ?c3 ?c4 ?c5 ?_)
      case c1 => exact news1' (heap_alloc_new _ _)
      case c2 => exact one1' _
      case c3 => unfold maxLen; omega
      case c4 => omega
      case c5 => have := hd1.2.2.1; simp; omega
      intro v' w4 hown4 hgrow _
      have hd4 := Lib.hid (hd1'.app hpw hgrow (fun k hk => (hown1.lt k hk).1))
      have HO := Lib.hid (show w4.ownsRow w.heap.size 5 1 v' (l ++ [c]).length (bcells (l ++ [c])) by rw [List.length_append, List.length_singleton, bcells, List.map_append]; exact hown4)
      clear hown hown1 hown4 hgrow hd hd1 hd1'
      go_wp2
      go_roundw
      case rel => exact ⟨l ++ [c], by rw [List.length_append, List.length_singleton]; go_num, by rw [List.length_append, List.length_singleton]; omega, hd4.out, HO.out⟩
      case measure => simp [intOf]; omega
    · have hcv := conv_own hown
      have hs : (⟨l.toArray⟩ : ByteArray).size ≤ 5000 := by show l.toArray.size ≤ 5000; simp; omega
      have HS := Lib.hid hs
      clear hs
      go_wp2
      go_ret
      exact ⟨_, HS.out, rfl, hd⟩
set_option maxHeartbeats 1000000 in
theorem long_draw (n x : Int) (w : World) (h0 : 0 ≤ n) (h1 : n ≤ 30000) (x0 : 0 ≤ x) (x1 : x ≤ 255) :
    Calls Tryd.prog 27 #[.int .i64 n, .int .u8 x] w fun e w' => (∃ s : ByteArray, Hid ((s.size : Int) = n) ∧ e = .returned (.string s)) ∧ Below w.heap.size w w' := by
  obtain ⟨N, rfl⟩ := Int.eq_ofNat_of_zero_le h0
  obtain ⟨c, rfl⟩ := u8_of x x0 x1
  have hmk : ∀ W : World, (Instr.makeSlice 22 (.int .i64 (N : Int)) (.int .i64 (N : Int))).run Tryd.prog W = .ok (.slice (some ⟨W.heap.size, 0, none⟩) N N) (W.alloc (.cells (madeCells #[.int .u8 0] N) 5)) := fun W =>
    run_make_row' 22 5 (.int .u8 0) 1 Tryd.underlying22 (by kernel_rfl) rfl .i64 .i64 N (by omega) (by omega) W
  go_enter Tryd.func27, Tryd.ntmps27
  go_wp2
  clear hmk
  go_loopw [6] (fun i wr => ∃ k : Nat, k ≤ N ∧ i = .int .i64 k ∧ Below w.heap.size w wr ∧ wr.rowIs w.heap.size 5 N (fun j => if j < k then .int .u8 (c.toNat : Int) else .int .u8 0)) (fun i _ => N - (intOf i).toNat)
  case atStart => exact ⟨0, by omega, rfl, (Below.refl _ _).alloc (Nat.le_refl _) _, (World.rowIs_made w (.int .u8 0) N 5).congr fun j hj => (if_neg (by omega)).symm⟩
  case round =>
    obtain ⟨k, hk, rfl, hb, hrow⟩ := hrel
    by_cases hlt : k < N
    · have z0 := hrow.frozen k
      obtain ⟨u0, c0⟩ : ∃ u, wr.cell? ⟨w.heap.size, k, none⟩ = some u := ⟨_, hrow.cell hlt⟩
      go_wp2
      go_roundw
      case rel =>
        refine ⟨k + 1, by omega, by go_num, hb.setCell (Nat.le_refl _) _, (hrow.set _ _).congr fun j hj => ?_⟩
        by_cases e1 : j = k
        · rw [if_pos e1, if_pos (by omega)]
        · rw [if_neg e1]
          by_cases e2 : j < k
          · rw [if_pos e2, if_pos (by omega)]
          · rw [if_neg e2, if_neg (by omega)]
      case measure => simp [intOf]; omega
    · obtain rfl : k = N := by omega
      have hcv := run_convert_bytes_back (P := Tryd.prog) wr 22 9 5 ⟨w.heap.size, 0, none⟩ k (List.replicate k c) Tryd.underlying22 Tryd.underlying5 Tryd.underlying9 (fun j hj => by
        have hj' : j < k := by simpa using hj
        have := hrow.cell hj'
        rw [if_pos hj'] at this
        simpa [add_head] using this)
      rw [List.length_replicate] at hcv
      have HS := Lib.hid (show (((⟨(List.replicate k c).toArray⟩ : ByteArray).size : Nat) : Int) = (k : Int) by show ((List.replicate k c).toArray.size : Int) = k; simp)
      generalize (⟨(List.replicate k c).toArray⟩ : ByteArray) = s at hcv HS
      go_wp2
      go_ret
      exact ⟨⟨s, HS.out, rfl⟩, hb⟩
set_option maxHeartbeats 1000000 in
theorem encHex_draw (A : Option Addr) (n cap : Nat) (f : Nat → Int) (w : World) (hn : n ≤ 1048576) (hs : SrcB w A n f) :
    Calls Tryd.prog 10 #[.slice A n cap] w fun e w' => (∃ s : ByteArray, s.size ≤ 30000 ∧ e = .returned (.string s)) ∧ Below w.heap.size w w' := by
  have HS := Lib.hid hs
  clear hs
  go_enter Tryd.func10, Tryd.ntmps10
  go_wp2_with fail
  refine (new_draw _ _ _ f _ hn HS.out).mono ?_
  rintro e w1 ⟨rfl, hb1, _, hc1⟩
  have HB1 := Lib.hid hb1
  have HC1 := Lib.hid hc1
  clear hb1 hc1
  go_wp2_with fail
  refine (once_draw _ 60 _ HC1.out (by omega) (by omega)).mono ?_
  rintro e w2 ⟨b, rfl, hd2⟩
  have HD2 := Lib.hid hd2
  clear hd2
  cases b with
  | true =>
    go_wp2_with fail
    refine (below_draw _ 2 _ HD2.out.cur (by omega) (by omega)).mono ?_
    rintro e w3 ⟨x, x0, x1, rfl, hd3⟩
    have HD3 := Lib.hid (HD2.out.trans hd3)
    clear hd3
    go_wp2_with fail
    refine (long_draw _ _ _ (by omega) (by omega) (by omega) (by omega)).mono ?_
    rintro e w4 ⟨⟨s, HS4, rfl⟩, hb4⟩
    have HB4 := Lib.hid ((HB1.out.trans (HD3.out.below (Nat.le_refl _))).trans (hb4.mono (HB1.out.trans (HD3.out.below (Nat.le_refl _))).size))
    clear hb4
    go_wp2
    go_ret
    exact ⟨⟨s, by have := HS4.out; omega, rfl⟩, HB4.out⟩
  | false =>
    go_wp2_with fail
    refine (below_draw _ 30 _ HD2.out.cur (by omega) (by omega)).mono ?_
    rintro e w3 ⟨x, x0, x1, rfl, hd3⟩
    have HD3 := Lib.hid (HD2.out.trans hd3)
    clear hd3
    go_wp2_with fail
    refine (text_draw _ _ _ HD3.out.cur (by omega) (by omega)).mono ?_
    rintro e w4 ⟨s, hs4, rfl, hd4⟩
    have HD4 := Lib.hid (HD3.out.trans hd4)
    clear hd4
    go_wp2
    go_ret
    exact ⟨⟨s, by omega, rfl⟩, HB1.out.trans (HD4.out.below (Nat.le_refl _))⟩
theorem mul_bd2 (a b : Int) (h0 : 0 ≤ a) (h1 : a ≤ 1000000) (h2 : -1000000 ≤ b) (h3 : b ≤ 1000000) : -1000000000000 ≤ a * b ∧ a * b ≤ 1000000000000 := by
  constructor
  · have e1 := Int.mul_le_mul_of_nonneg_left h2 h0
    have e2 := Int.mul_le_mul_of_nonneg_right h1 (by omega : (0 : Int) ≤ 1000000)
    omega
  · have e1 := Int.mul_le_mul_of_nonneg_left h3 h0
    have e2 := Int.mul_le_mul_of_nonneg_right h1 (by omega : (0 : Int) ≤ 1000000)
    omega
set_option maxHeartbeats 1000000 in
theorem fmtInt_draw (A : Option Addr) (n cap : Nat) (f : Nat → Int) (w : World) (hn : n ≤ 1048576) (hs : SrcB w A n f) :
    Calls Tryd.prog 14 #[.slice A n cap] w fun e w' => (∃ x : Int, (-9223372036854775808 ≤ x ∧ x ≤ 9223372036854775807) ∧ e = .returned (.int .i64 x)) ∧ Below w.heap.size w w' := by
  have HS := Lib.hid hs
  clear hs
  go_enter Tryd.func14, Tryd.ntmps14
  go_wp2_with fail
  refine (new_draw _ _ _ f _ hn HS.out).mono ?_
  rintro e w1 ⟨rfl, hb1, _, hc1⟩
  have HB1 := Lib.hid hb1
  have HC1 := Lib.hid hc1
  clear hb1 hc1
  go_wp2_with fail
  refine (once_draw _ 3 _ HC1.out (by omega) (by omega)).mono ?_
  rintro e w2 ⟨b, rfl, hd2⟩
  have HD2 := Lib.hid hd2
  clear hd2
  cases b with
  | true =>
    go_wp2_with fail
    refine (below_draw _ 1000000 _ HD2.out.cur (by omega) (by omega)).mono ?_
    rintro e w3 ⟨x, x0, x1, rfl, hd3⟩
    have HD3 := Lib.hid (HD2.out.trans hd3)
    clear hd3
    go_wp2_with fail
    refine (below_draw _ 2000000 _ HD3.out.cur (by omega) (by omega)).mono ?_
    rintro e w4 ⟨y, y0, y1, rfl, hd4⟩
    have HD4 := Lib.hid (HD3.out.trans hd4)
    clear hd4
    have hm := mul_bd2 x (y - 1000000) (by omega) (by omega) (by omega) (by omega)
    go_wp2
    go_ret
    exact ⟨⟨_, ⟨by omega, by omega⟩, rfl⟩, HB1.out.trans (HD4.out.below (Nat.le_refl _))⟩
  | false =>
    go_wp2_with fail
    refine (number_draw _ _ HD2.out.cur).mono ?_
    rintro e w3 ⟨x, x0, x1, rfl, hd3⟩
    have HD3 := Lib.hid (HD2.out.trans hd3)
    clear hd3
    go_wp2
    go_ret
    exact ⟨⟨_, ⟨x0, x1⟩, rfl⟩, HB1.out.trans (HD3.out.below (Nat.le_refl _))⟩
theorem conv_one' (c : UInt8) (W : World) : (convert 22 9 (.slice (some ⟨W.heap.size, 0, none⟩) 1 1)).run Tryd.prog (W.alloc (.cells #[.int .u8 (c.toNat : Int)] 5)) = .ok (.string ⟨#[c]⟩) (W.alloc (.cells #[.int .u8 (c.toNat : Int)] 5)) := by
  refine run_convert_bytes_back _ 22 9 5 ⟨W.heap.size, 0, none⟩ 1 [c] Tryd.underlying22 Tryd.underlying5 Tryd.underlying9 (fun j hj => ?_)
  obtain rfl : j = 0 := by simpa using hj
  exact World.news_of_block (heap_alloc_new _ _) 0 _ rfl
theorem Drawn.below2 {p : Nat} {a b c : World} (h : Drawn p a b) (hl : p < a.heap.size) (hb : Below b.heap.size b c) : Drawn p a c :=
  h.app (r := none) hl ⟨hb.os, hb.tape, hb.output, hb.size, fun k hk _ => hb.block k hk⟩ (fun k hk => by cases hk)
theorem mul_bd3 (a b : Int) (h0 : 0 ≤ a) (h1 : a ≤ 1) (h2 : 0 ≤ b) (h3 : b ≤ 2) : 0 ≤ a * b ∧ a * b ≤ 2 := by
  have e1 := Int.mul_le_mul h1 h3 h2 (by omega)
  exact ⟨Int.mul_nonneg h0 h2, by omega⟩
theorem pickS_draw (p g : Nat) (n cap m : Nat) (f : Nat → ByteArray) (w : World) (hc : Cur w p) (h0 : 0 < n) (h1 : n ≤ 9223372036854775807) (hg : g ≠ p) (hf : ∀ i, i < n → w.cell? ⟨g, i, none⟩ = some (.string (f i))) (hb : ∀ i, i < n → (f i).size ≤ m) :
    Calls Tryd.prog 33 #[.pointer (some ⟨p, 0, none⟩), .slice (some ⟨g, 0, none⟩) n cap] w (Str p m w) := by
  have HC := Lib.hid hc
  have HF := Lib.hid hf
  have HB := Lib.hid hb
  clear hc hf hb
  go_enter Tryd.func33, Tryd.ntmps33
  go_wp2_with fail
  refine (below_draw p n _ HC.out (by omega) (by omega)).mono ?_
  rintro e w1 ⟨x, x0, x1, rfl, hd⟩
  obtain ⟨k, rfl⟩ := Int.eq_ofNat_of_zero_le x0
  have hk : k < n := by omega
  have hx := HF.out k hk
  have hx1 := (World.cell?_of_block (a := ⟨g, k, none⟩) (hd.heap hg (cell_lt' hx))).trans hx
  have HD := Lib.hid hd
  clear hd hx
  go_wp2
  go_ret
  exact ⟨_, HB.out k hk, rfl, HD.out⟩
set_option maxRecDepth 100000 in
set_option maxHeartbeats 8000000 in
theorem splitF_draw (A : Option Addr) (n cap : Nat) (f : Nat → Int) (w : World) (hn : n ≤ 1048576) (hs : SrcB w A n f) :
    Calls Tryd.prog 16 #[.slice A n cap] w fun e w' => (∃ s : ByteArray, s.size ≤ 30000 ∧ e = .returned (.string s)) ∧ Below w.heap.size w w' := by
  have HS := Lib.hid hs
  clear hs
  go_enter Tryd.func16, Tryd.ntmps16
  go_wp2_with fail
  refine (new_draw _ _ _ f _ hn HS.out).mono ?_
  rintro e w1 ⟨rfl, hb1, hz1, hc1⟩
  have HB1 := Lib.hid hb1
  have HC1 := Lib.hid hc1
  have hpw : w.heap.size < w1.heap.size := by omega
  clear hb1 hc1 hz1
  go_wp2_with fail
  refine (below_draw _ 9 _ HC1.out (by omega) (by omega)).mono ?_
  rintro e w2 ⟨n0, n00, n01, rfl, hd2⟩
  have HD2 := Lib.hid hd2
  clear hd2
  go_wp2_with fail
  refine (once_draw _ 15 _ HD2.out.cur (by omega) (by omega)).mono ?_
  rintro e w3 ⟨b, rfl, hd3⟩
  have HD3 := Lib.hid (HD2.out.trans hd3)
  clear hd3
  cases b with
  | true =>
    go_wp2_with fail
    refine (below_draw _ 2 _ HD3.out.cur (by omega) (by omega)).mono ?_
    rintro e w4 ⟨x, x0, x1, rfl, hd4⟩
    have HD4 := Lib.hid (HD3.out.trans hd4)
    clear hd4
    obtain ⟨N, hN⟩ := Int.eq_ofNat_of_zero_le (show 0 ≤ 24 + x by omega)
    have hN25 : N ≤ 25 := by omega
    go_wp2
    go_loopw [5, 6] (fun s ii wr => ∃ (i : Nat) (t : ByteArray), i ≤ N ∧ ii = .int .i64 (i : Int) ∧ s = .string t ∧ t.size ≤ 8 * i ∧ Drawn w.heap.size w1 wr) (fun _ ii _ => N - (intOf ii).toNat)
    case atStart => exact ⟨0, _, by omega, rfl, rfl, Nat.le_refl _, HD4.out⟩
    case round =>
      obtain ⟨i, s, hi, rfl, rfl, hsz, hd⟩ := hrel
      have HDa := Lib.hid hd
      clear hd
      by_cases hlt : i < N
      · by_cases hi0 : 0 < i
        · have hi0' : (0 : Int) < (i : Int) := by omega
          go_wp2_with fail
          refine (below_draw _ 2 _ HDa.out.cur (by omega) (by omega)).mono ?_
          rintro e w2 ⟨x, x0, x1, rfl, hd2⟩
          have HD1 := Lib.hid (HDa.out.trans hd2)
          clear hd2
          go_wp2_with fail
          refine (below_draw _ 3 _ HD1.out.cur (by omega) (by omega)).mono ?_
          rintro e w3 ⟨y, y0, y1, rfl, hd3⟩
          have HD2 := Lib.hid (HD1.out.trans hd3)
          have hxy := mul_bd3 x y x0 (by omega) y0 (by omega)
          clear hd3
          go_wp2_with fail
          refine (long_draw _ _ _ (by omega) (by omega) (by omega) (by omega)).mono ?_
          rintro e w4 ⟨⟨v, HV, rfl⟩, hb4⟩
          have HD3 := Lib.hid (HD2.out.below2 hpw hb4)
          have hv3 : v.size ≤ 3 := by have := HV.out; omega
          have HXX : (s ++ v).size ≤ 8 * i + 3 + 0 := by rw [ByteArray.size_append]; omega
          clear hb4
          go_wp2
          have HX := Lib.hid HXX
          clear HXX
          go_loopw [5, 7] (fun s kk wr => ∃ (t : ByteArray) (k : Nat), s = .string t ∧ kk = .int .i64 (k : Int) ∧ k ≤ 5 ∧ t.size ≤ 8 * i + 3 + k ∧ Drawn w.heap.size w1 wr) (fun _ kk _ => 6 - (intOf kk).toNat)
          case atStart => exact ⟨_, 0, rfl, rfl, by omega, by first | exact HX.out | omega, HD3.out⟩
          case round =>
            obtain ⟨t, k, rfl, rfl, hk5, hts, hd⟩ := hrel
            have hdc := hd.cur
            have HD4 := Lib.hid hd
            clear hd
            go_wp2_with fail
            refine (below_draw _ 5 _ hdc (by omega) (by omega)).mono ?_
            rintro e w4 ⟨y, y0, y1, rfl, hd5⟩
            have HD5 := Lib.hid (HD4.out.trans hd5)
            clear hd5 hdc
            by_cases hky : (k : Int) ≤ y
            · go_wp2_with fail
              refine (below_draw _ 94 _ HD5.out.cur (by omega) (by omega)).mono ?_
              rintro e w5 ⟨z, z0, z1, rfl, hd6⟩
              have HD6 := Lib.hid (HD5.out.trans hd6)
              clear hd6
              obtain ⟨c, hc⟩ := u8_of (33 + z) (by omega) (by omega)
              have hc' : 33 + z = (c.toNat : Int) := hc.symm
              have hcv := conv_one' c w5
              clear hc
              go_wp2
              go_roundw
              case rel => exact ⟨_, k + 1, rfl, by go_num, by omega, by rw [ByteArray.size_append]; show t.size + 1 ≤ _; omega, HD6.out.alloc _⟩
              case measure => simp [intOf]; omega
            · go_wp2
              go_roundw
              case rel => exact ⟨i + 1, t, by omega, by go_num, rfl, by omega, HD5.out⟩
              case measure => simp [intOf]; omega
        · have hi0' : (i : Int) ≤ 0 := by omega
          go_wp2_with fail
          refine (once_draw _ 5 _ HDa.out.cur (by omega) (by omega)).mono ?_
          rintro e wo ⟨b, rfl, hdo⟩
          have HDb := Lib.hid (HDa.out.trans hdo)
          clear hdo HDa
          have HDa := HDb
          clear HDb
          cases b with
          | true =>
            go_wp2_with fail
            refine (below_draw _ 2 _ HDa.out.cur (by omega) (by omega)).mono ?_
            rintro e w2 ⟨x, x0, x1, rfl, hd2⟩
            have HD1 := Lib.hid (HDa.out.trans hd2)
            clear hd2
            go_wp2_with fail
            refine (below_draw _ 3 _ HD1.out.cur (by omega) (by omega)).mono ?_
            rintro e w3 ⟨y, y0, y1, rfl, hd3⟩
            have HD2 := Lib.hid (HD1.out.trans hd3)
            have hxy := mul_bd3 x y x0 (by omega) y0 (by omega)
            clear hd3
            go_wp2_with fail
            refine (long_draw _ _ _ (by omega) (by omega) (by omega) (by omega)).mono ?_
            rintro e w4 ⟨⟨v, HV, rfl⟩, hb4⟩
            have HD3 := Lib.hid (HD2.out.below2 hpw hb4)
            have hv3 : v.size ≤ 3 := by have := HV.out; omega
            have HXX : (s ++ v).size ≤ 8 * i + 3 + 0 := by rw [ByteArray.size_append]; omega
            clear hb4
            go_wp2
            have HX := Lib.hid HXX
            clear HXX
            go_loopw [5, 7] (fun s kk wr => ∃ (t : ByteArray) (k : Nat), s = .string t ∧ kk = .int .i64 (k : Int) ∧ k ≤ 5 ∧ t.size ≤ 8 * i + 3 + k ∧ Drawn w.heap.size w1 wr) (fun _ kk _ => 6 - (intOf kk).toNat)
            case atStart => exact ⟨_, 0, rfl, rfl, by omega, by first | exact HX.out | omega, HD3.out⟩
            case round =>
              obtain ⟨t, k, rfl, rfl, hk5, hts, hd⟩ := hrel
              have hdc := hd.cur
              have HD4 := Lib.hid hd
              clear hd
              go_wp2_with fail
              refine (below_draw _ 5 _ hdc (by omega) (by omega)).mono ?_
              rintro e w4 ⟨y, y0, y1, rfl, hd5⟩
              have HD5 := Lib.hid (HD4.out.trans hd5)
              clear hd5 hdc
              by_cases hky : (k : Int) ≤ y
              · go_wp2_with fail
                refine (below_draw _ 94 _ HD5.out.cur (by omega) (by omega)).mono ?_
                rintro e w5 ⟨z, z0, z1, rfl, hd6⟩
                have HD6 := Lib.hid (HD5.out.trans hd6)
                clear hd6
                obtain ⟨c, hc⟩ := u8_of (33 + z) (by omega) (by omega)
                have hc' : 33 + z = (c.toNat : Int) := hc.symm
                have hcv := conv_one' c w5
                clear hc
                go_wp2
                go_roundw
                case rel => exact ⟨_, k + 1, rfl, by go_num, by omega, by rw [ByteArray.size_append]; show t.size + 1 ≤ _; omega, HD6.out.alloc _⟩
                case measure => simp [intOf]; omega
              · go_wp2
                go_roundw
                case rel => exact ⟨i + 1, t, by omega, by go_num, rfl, by omega, HD5.out⟩
                case measure => simp [intOf]; omega
          | false =>
            have HD3 := HDa
            have HXX : s.size ≤ 8 * i + 3 + 0 := by omega
            go_wp2
            have HX := Lib.hid HXX
            clear HXX
            go_loopw [5, 7] (fun s kk wr => ∃ (t : ByteArray) (k : Nat), s = .string t ∧ kk = .int .i64 (k : Int) ∧ k ≤ 5 ∧ t.size ≤ 8 * i + 3 + k ∧ Drawn w.heap.size w1 wr) (fun _ kk _ => 6 - (intOf kk).toNat)
            case atStart => exact ⟨_, 0, rfl, rfl, by omega, by first | exact HX.out | omega, HD3.out⟩
            case round =>
              obtain ⟨t, k, rfl, rfl, hk5, hts, hd⟩ := hrel
              have hdc := hd.cur
              have HD4 := Lib.hid hd
              clear hd
              go_wp2_with fail
              refine (below_draw _ 5 _ hdc (by omega) (by omega)).mono ?_
              rintro e w4 ⟨y, y0, y1, rfl, hd5⟩
              have HD5 := Lib.hid (HD4.out.trans hd5)
              clear hd5 hdc
              by_cases hky : (k : Int) ≤ y
              · go_wp2_with fail
                refine (below_draw _ 94 _ HD5.out.cur (by omega) (by omega)).mono ?_
                rintro e w5 ⟨z, z0, z1, rfl, hd6⟩
                have HD6 := Lib.hid (HD5.out.trans hd6)
                clear hd6
                obtain ⟨c, hc⟩ := u8_of (33 + z) (by omega) (by omega)
                have hc' : 33 + z = (c.toNat : Int) := hc.symm
                have hcv := conv_one' c w5
                clear hc
                go_wp2
                go_roundw
                case rel => exact ⟨_, k + 1, rfl, by go_num, by omega, by rw [ByteArray.size_append]; show t.size + 1 ≤ _; omega, HD6.out.alloc _⟩
                case measure => simp [intOf]; omega
              · go_wp2
                go_roundw
                case rel => exact ⟨i + 1, t, by omega, by go_num, rfl, by omega, HD5.out⟩
                case measure => simp [intOf]; omega
      · have hN8 : s.size ≤ 200 := by omega
        go_wp2_with fail
        refine (below_draw _ 12 _ HDa.out.cur (by omega) (by omega)).mono ?_
        rintro e w5 ⟨x, x0, x1, rfl, hd5⟩
        have HD5 := Lib.hid (HDa.out.trans hd5)
        clear hd5
        by_cases hx0 : x = 0
        · have t0 : (x == 0) = true := by rw [hx0]; rfl
          clear hx0
          have HD6 := Lib.hid (HD5.out.alloc (.cells #[.string ⟨#[32]⟩, .string ⟨#[32, 32]⟩, .string ⟨#[9]⟩, .string ⟨#[10]⟩, .string ⟨#[127]⟩, .string ⟨#[233]⟩] 9))
          go_wp2_with fail
          refine (pickS_draw _ w5.heap.size 6 6 2 (fun i => ([⟨#[32]⟩, ⟨#[32, 32]⟩, ⟨#[9]⟩, ⟨#[10]⟩, ⟨#[127]⟩, ⟨#[233]⟩] : List ByteArray).getD i ⟨#[]⟩) _ HD6.out.cur (by decide) (by decide) (by have := HD5.out.cur.lt; omega) (fun i hi => ?_) (fun i hi => ?_)).mono ?_
          · have : i = 0 ∨ i = 1 ∨ i = 2 ∨ i = 3 ∨ i = 4 ∨ i = 5 := by omega
            rcases this with rfl | rfl | rfl | rfl | rfl | rfl <;> exact cell_new rfl
          · have : i = 0 ∨ i = 1 ∨ i = 2 ∨ i = 3 ∨ i = 4 ∨ i = 5 := by omega
            rcases this with rfl | rfl | rfl | rfl | rfl | rfl <;> decide
          rintro e w6 ⟨v, hv, rfl, hd7⟩
          have HD7 := Lib.hid (HD6.out.trans hd7)
          clear hd7
          go_wp2
          go_ret
          exact ⟨⟨_, by rw [ByteArray.size_append]; omega, rfl⟩, HB1.out.trans (HD7.out.below (Nat.le_refl _))⟩
        · have t0 : (x == 0) = false := by simp [hx0]
          by_cases hx1 : x = 1
          · have t1 : (x == 1) = true := by rw [hx1]; rfl
            clear hx0 hx1
            have hs600 : (s.size : Int) < 600 := by omega
            go_wp2_with fail
            refine (below_draw _ 2 _ HD5.out.cur (by omega) (by omega)).mono ?_
            rintro e w6 ⟨y, y0, y1, rfl, hd6⟩
            have HD6 := Lib.hid (HD5.out.trans hd6)
            clear hd6
            go_wp2_with fail
            refine (long_draw _ _ _ (by omega) (by omega) (by omega) (by omega)).mono ?_
            rintro e w7 ⟨⟨v, HV, rfl⟩, hb7⟩
            have HD7 := Lib.hid (HD6.out.below2 hpw hb7)
            have hv : v.size ≤ 700 := by have := HV.out; omega
            clear hb7
            go_wp2
            go_ret
            exact ⟨⟨_, by rw [ByteArray.size_append]; omega, rfl⟩, HB1.out.trans (HD7.out.below (Nat.le_refl _))⟩
          · have t1 : (x == 1) = false := by simp [hx1]
            clear hx0 hx1
            go_wp2
            go_ret
            exact ⟨⟨_, by omega, rfl⟩, HB1.out.trans (HD5.out.below (Nat.le_refl _))⟩
  | false =>
    have HD4 := HD3
    obtain ⟨N, rfl⟩ := Int.eq_ofNat_of_zero_le n00
    have hN25 : N ≤ 25 := by omega
    go_wp2
    go_loopw [5, 6] (fun s ii wr => ∃ (i : Nat) (t : ByteArray), i ≤ N ∧ ii = .int .i64 (i : Int) ∧ s = .string t ∧ t.size ≤ 8 * i ∧ Drawn w.heap.size w1 wr) (fun _ ii _ => N - (intOf ii).toNat)
    case atStart => exact ⟨0, _, by omega, rfl, rfl, Nat.le_refl _, HD4.out⟩
    case round =>
      obtain ⟨i, s, hi, rfl, rfl, hsz, hd⟩ := hrel
      have HDa := Lib.hid hd
      clear hd
      by_cases hlt : i < N
      · by_cases hi0 : 0 < i
        · have hi0' : (0 : Int) < (i : Int) := by omega
          go_wp2_with fail
          refine (below_draw _ 2 _ HDa.out.cur (by omega) (by omega)).mono ?_
          rintro e w2 ⟨x, x0, x1, rfl, hd2⟩
          have HD1 := Lib.hid (HDa.out.trans hd2)
          clear hd2
          go_wp2_with fail
          refine (below_draw _ 3 _ HD1.out.cur (by omega) (by omega)).mono ?_
          rintro e w3 ⟨y, y0, y1, rfl, hd3⟩
          have HD2 := Lib.hid (HD1.out.trans hd3)
          have hxy := mul_bd3 x y x0 (by omega) y0 (by omega)
          clear hd3
          go_wp2_with fail
          refine (long_draw _ _ _ (by omega) (by omega) (by omega) (by omega)).mono ?_
          rintro e w4 ⟨⟨v, HV, rfl⟩, hb4⟩
          have HD3 := Lib.hid (HD2.out.below2 hpw hb4)
          have hv3 : v.size ≤ 3 := by have := HV.out; omega
          have HXX : (s ++ v).size ≤ 8 * i + 3 + 0 := by rw [ByteArray.size_append]; omega
          clear hb4
          go_wp2
          have HX := Lib.hid HXX
          clear HXX
          go_loopw [5, 7] (fun s kk wr => ∃ (t : ByteArray) (k : Nat), s = .string t ∧ kk = .int .i64 (k : Int) ∧ k ≤ 5 ∧ t.size ≤ 8 * i + 3 + k ∧ Drawn w.heap.size w1 wr) (fun _ kk _ => 6 - (intOf kk).toNat)
          case atStart => exact ⟨_, 0, rfl, rfl, by omega, by first | exact HX.out | omega, HD3.out⟩
          case round =>
            obtain ⟨t, k, rfl, rfl, hk5, hts, hd⟩ := hrel
            have hdc := hd.cur
            have HD4 := Lib.hid hd
            clear hd
            go_wp2_with fail
            refine (below_draw _ 5 _ hdc (by omega) (by omega)).mono ?_
            rintro e w4 ⟨y, y0, y1, rfl, hd5⟩
            have HD5 := Lib.hid (HD4.out.trans hd5)
            clear hd5 hdc
            by_cases hky : (k : Int) ≤ y
            · go_wp2_with fail
              refine (below_draw _ 94 _ HD5.out.cur (by omega) (by omega)).mono ?_
              rintro e w5 ⟨z, z0, z1, rfl, hd6⟩
              have HD6 := Lib.hid (HD5.out.trans hd6)
              clear hd6
              obtain ⟨c, hc⟩ := u8_of (33 + z) (by omega) (by omega)
              have hc' : 33 + z = (c.toNat : Int) := hc.symm
              have hcv := conv_one' c w5
              clear hc
              go_wp2
              go_roundw
              case rel => exact ⟨_, k + 1, rfl, by go_num, by omega, by rw [ByteArray.size_append]; show t.size + 1 ≤ _; omega, HD6.out.alloc _⟩
              case measure => simp [intOf]; omega
            · go_wp2
              go_roundw
              case rel => exact ⟨i + 1, t, by omega, by go_num, rfl, by omega, HD5.out⟩
              case measure => simp [intOf]; omega
        · have hi0' : (i : Int) ≤ 0 := by omega
          go_wp2_with fail
          refine (once_draw _ 5 _ HDa.out.cur (by omega) (by omega)).mono ?_
          rintro e wo ⟨b, rfl, hdo⟩
          have HDb := Lib.hid (HDa.out.trans hdo)
          clear hdo HDa
          have HDa := HDb
          clear HDb
          cases b with
          | true =>
            go_wp2_with fail
            refine (below_draw _ 2 _ HDa.out.cur (by omega) (by omega)).mono ?_
            rintro e w2 ⟨x, x0, x1, rfl, hd2⟩
            have HD1 := Lib.hid (HDa.out.trans hd2)
            clear hd2
            go_wp2_with fail
            refine (below_draw _ 3 _ HD1.out.cur (by omega) (by omega)).mono ?_
            rintro e w3 ⟨y, y0, y1, rfl, hd3⟩
            have HD2 := Lib.hid (HD1.out.trans hd3)
            have hxy := mul_bd3 x y x0 (by omega) y0 (by omega)
            clear hd3
            go_wp2_with fail
            refine (long_draw _ _ _ (by omega) (by omega) (by omega) (by omega)).mono ?_
            rintro e w4 ⟨⟨v, HV, rfl⟩, hb4⟩
            have HD3 := Lib.hid (HD2.out.below2 hpw hb4)
            have hv3 : v.size ≤ 3 := by have := HV.out; omega
            have HXX : (s ++ v).size ≤ 8 * i + 3 + 0 := by rw [ByteArray.size_append]; omega
            clear hb4
            go_wp2
            have HX := Lib.hid HXX
            clear HXX
            go_loopw [5, 7] (fun s kk wr => ∃ (t : ByteArray) (k : Nat), s = .string t ∧ kk = .int .i64 (k : Int) ∧ k ≤ 5 ∧ t.size ≤ 8 * i + 3 + k ∧ Drawn w.heap.size w1 wr) (fun _ kk _ => 6 - (intOf kk).toNat)
            case atStart => exact ⟨_, 0, rfl, rfl, by omega, by first | exact HX.out | omega, HD3.out⟩
            case round =>
              obtain ⟨t, k, rfl, rfl, hk5, hts, hd⟩ := hrel
              have hdc := hd.cur
              have HD4 := Lib.hid hd
              clear hd
              go_wp2_with fail
              refine (below_draw _ 5 _ hdc (by omega) (by omega)).mono ?_
              rintro e w4 ⟨y, y0, y1, rfl, hd5⟩
              have HD5 := Lib.hid (HD4.out.trans hd5)
              clear hd5 hdc
              by_cases hky : (k : Int) ≤ y
              · go_wp2_with fail
                refine (below_draw _ 94 _ HD5.out.cur (by omega) (by omega)).mono ?_
                rintro e w5 ⟨z, z0, z1, rfl, hd6⟩
                have HD6 := Lib.hid (HD5.out.trans hd6)
                clear hd6
                obtain ⟨c, hc⟩ := u8_of (33 + z) (by omega) (by omega)
                have hc' : 33 + z = (c.toNat : Int) := hc.symm
                have hcv := conv_one' c w5
                clear hc
                go_wp2
                go_roundw
                case rel => exact ⟨_, k + 1, rfl, by go_num, by omega, by rw [ByteArray.size_append]; show t.size + 1 ≤ _; omega, HD6.out.alloc _⟩
                case measure => simp [intOf]; omega
              · go_wp2
                go_roundw
                case rel => exact ⟨i + 1, t, by omega, by go_num, rfl, by omega, HD5.out⟩
                case measure => simp [intOf]; omega
          | false =>
            have HD3 := HDa
            have HXX : s.size ≤ 8 * i + 3 + 0 := by omega
            go_wp2
            have HX := Lib.hid HXX
            clear HXX
            go_loopw [5, 7] (fun s kk wr => ∃ (t : ByteArray) (k : Nat), s = .string t ∧ kk = .int .i64 (k : Int) ∧ k ≤ 5 ∧ t.size ≤ 8 * i + 3 + k ∧ Drawn w.heap.size w1 wr) (fun _ kk _ => 6 - (intOf kk).toNat)
            case atStart => exact ⟨_, 0, rfl, rfl, by omega, by first | exact HX.out | omega, HD3.out⟩
            case round =>
              obtain ⟨t, k, rfl, rfl, hk5, hts, hd⟩ := hrel
              have hdc := hd.cur
              have HD4 := Lib.hid hd
              clear hd
              go_wp2_with fail
              refine (below_draw _ 5 _ hdc (by omega) (by omega)).mono ?_
              rintro e w4 ⟨y, y0, y1, rfl, hd5⟩
              have HD5 := Lib.hid (HD4.out.trans hd5)
              clear hd5 hdc
              by_cases hky : (k : Int) ≤ y
              · go_wp2_with fail
                refine (below_draw _ 94 _ HD5.out.cur (by omega) (by omega)).mono ?_
                rintro e w5 ⟨z, z0, z1, rfl, hd6⟩
                have HD6 := Lib.hid (HD5.out.trans hd6)
                clear hd6
                obtain ⟨c, hc⟩ := u8_of (33 + z) (by omega) (by omega)
                have hc' : 33 + z = (c.toNat : Int) := hc.symm
                have hcv := conv_one' c w5
                clear hc
                go_wp2
                go_roundw
                case rel => exact ⟨_, k + 1, rfl, by go_num, by omega, by rw [ByteArray.size_append]; show t.size + 1 ≤ _; omega, HD6.out.alloc _⟩
                case measure => simp [intOf]; omega
              · go_wp2
                go_roundw
                case rel => exact ⟨i + 1, t, by omega, by go_num, rfl, by omega, HD5.out⟩
                case measure => simp [intOf]; omega
      · have hN8 : s.size ≤ 200 := by omega
        go_wp2_with fail
        refine (below_draw _ 12 _ HDa.out.cur (by omega) (by omega)).mono ?_
        rintro e w5 ⟨x, x0, x1, rfl, hd5⟩
        have HD5 := Lib.hid (HDa.out.trans hd5)
        clear hd5
        by_cases hx0 : x = 0
        · have t0 : (x == 0) = true := by rw [hx0]; rfl
          clear hx0
          have HD6 := Lib.hid (HD5.out.alloc (.cells #[.string ⟨#[32]⟩, .string ⟨#[32, 32]⟩, .string ⟨#[9]⟩, .string ⟨#[10]⟩, .string ⟨#[127]⟩, .string ⟨#[233]⟩] 9))
          go_wp2_with fail
          refine (pickS_draw _ w5.heap.size 6 6 2 (fun i => ([⟨#[32]⟩, ⟨#[32, 32]⟩, ⟨#[9]⟩, ⟨#[10]⟩, ⟨#[127]⟩, ⟨#[233]⟩] : List ByteArray).getD i ⟨#[]⟩) _ HD6.out.cur (by decide) (by decide) (by have := HD5.out.cur.lt; omega) (fun i hi => ?_) (fun i hi => ?_)).mono ?_
          · have : i = 0 ∨ i = 1 ∨ i = 2 ∨ i = 3 ∨ i = 4 ∨ i = 5 := by omega
            rcases this with rfl | rfl | rfl | rfl | rfl | rfl <;> exact cell_new rfl
          · have : i = 0 ∨ i = 1 ∨ i = 2 ∨ i = 3 ∨ i = 4 ∨ i = 5 := by omega
            rcases this with rfl | rfl | rfl | rfl | rfl | rfl <;> decide
          rintro e w6 ⟨v, hv, rfl, hd7⟩
          have HD7 := Lib.hid (HD6.out.trans hd7)
          clear hd7
          go_wp2
          go_ret
          exact ⟨⟨_, by rw [ByteArray.size_append]; omega, rfl⟩, HB1.out.trans (HD7.out.below (Nat.le_refl _))⟩
        · have t0 : (x == 0) = false := by simp [hx0]
          by_cases hx1 : x = 1
          · have t1 : (x == 1) = true := by rw [hx1]; rfl
            clear hx0 hx1
            have hs600 : (s.size : Int) < 600 := by omega
            go_wp2_with fail
            refine (below_draw _ 2 _ HD5.out.cur (by omega) (by omega)).mono ?_
            rintro e w6 ⟨y, y0, y1, rfl, hd6⟩
            have HD6 := Lib.hid (HD5.out.trans hd6)
            clear hd6
            go_wp2_with fail
            refine (long_draw _ _ _ (by omega) (by omega) (by omega) (by omega)).mono ?_
            rintro e w7 ⟨⟨v, HV, rfl⟩, hb7⟩
            have HD7 := Lib.hid (HD6.out.below2 hpw hb7)
            have hv : v.size ≤ 700 := by have := HV.out; omega
            clear hb7
            go_wp2
            go_ret
            exact ⟨⟨_, by rw [ByteArray.size_append]; omega, rfl⟩, HB1.out.trans (HD7.out.below (Nat.le_refl _))⟩
          · have t1 : (x == 1) = false := by simp [hx1]
            clear hx0 hx1
            go_wp2
            go_ret
            exact ⟨⟨_, by omega, rfl⟩, HB1.out.trans (HD5.out.below (Nat.le_refl _))⟩
end Go.Proofs.YtafjichhahbihaaDoor.C1