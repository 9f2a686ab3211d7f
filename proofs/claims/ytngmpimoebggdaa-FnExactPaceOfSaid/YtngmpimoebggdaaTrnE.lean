/- The laws' own functions on boats and trains: the size of an argument, the comparison. -/
import Derived.Test.YtngmpimoebggdaaTrnL
import Derived.StillTailTactics
namespace Go.Proofs.Ytngmpimoebggdaa.C1
open Go.ChangeShapes Go.WideShapes Go.ChangeAt Go.RowKit
set_option linter.unusedVariables false

/-- The rows and the boats. -/
def szT (T : List (List Bt)) : Nat := T.length + (bts T).length
theorem szT_rows {T : List (List Bt)} : T.length ≤ szT T := by unfold szT; omega
theorem szT_row {T : List (List Bt)} {r : List Bt} (h : r ∈ T) : r.length ≤ szT T := by have := flat_le h; unfold szT; omega
theorem szB_no (A : Option Addr) (n c : Nat) (w : World) (l : Int) (h1 : 0 ≤ l) (h2 : l ≤ 1048576) (hn : n ≤ 9223372036854775807) (h : l < n) :
    Calls Try.prog 137 #[.slice A n c, .int .i64 l] w fun e w' => e = .returned (.int .i64 (-1)) ∧ w = w' := by
  go_enter Try.func137, Try.ntmps137
  go_wp2
  go_ret
  exact ⟨rfl, rfl⟩
theorem szB_yes (A : Option Addr) (n c : Nat) (w : World) (l : Int) (h1 : 0 ≤ l) (h2 : l ≤ 1048576) (h : (n : Int) ≤ l) :
    Calls Try.prog 137 #[.slice A n c, .int .i64 l] w fun e w' => e = .returned (.int .i64 (l - n)) ∧ w = w' := by
  go_enter Try.func137, Try.ntmps137
  go_wp2
  go_ret
  exact ⟨rfl, rfl⟩
set_option maxHeartbeats 1000000 in
theorem szSS_no (A : Option Addr) (c : Nat) (T : List (List Bt)) (w : World) (l : Int) (h1 : 0 ≤ l) (h2 : l ≤ 1048576) (ht : ArgT w A T) (h : l < (szT T : Int)) :
    Calls Try.prog 63 #[.slice A T.length c, .int .i64 l] w fun e w' => e = .returned (.int .i64 (-1)) ∧ Below w.heap.size w w' := by
  have HT := vl ht
  have HS := vl (show l < (T.length : Int) + ((bts T).length : Int) by unfold szT at h; omega)
  have hn := ht.len
  clear ht h
  by_cases hb : l < (T.length : Int)
  · go_enter Try.func63, Try.ntmps63
    go_wp2
    go_ret
    exact ⟨rfl, Below.refl _ _⟩
  have hb' : (T.length : Int) ≤ l := by omega
  clear hb hn
  go_enter Try.func63, Try.ntmps63
  go_wp2
  go_loopw [1, 5] (fun v i wr => ∃ k : Nat, k ≤ T.length ∧ i = .int .i64 k ∧ Veil ((T.length : Int) + ((bts (T.take k)).length : Int) ≤ l) ∧ v = .int .i64 (l - (T.length : Int) - ((bts (T.take k)).length : Int)) ∧ Veil (Below w.heap.size w wr)) (fun _ i _ => T.length - (intOf i).toNat)
  case atStart => exact ⟨0, by omega, rfl, vl (by simp [bts]; omega), by simp [bts], vl (Below.refl _ _)⟩
  case round =>
    obtain ⟨k, hk, rfl, HZ, rfl, HB⟩ := hrel
    by_cases hlt : k < T.length
    · obtain ⟨r, hr⟩ := get_of hlt
      obtain ⟨ad, rfl, hc⟩ := (HT.out.src.below HB.out) (by omega)
      obtain ⟨Ai, ci, c0, HR⟩ := hc k r hr
      have n1 := HT.out.row k r hr
      have HE := vl (show (bts (T.take (k + 1))).length = (bts (T.take k)).length + r.length by rw [take_flat hr, List.length_append])
      have hz0 := HZ.out
      generalize (bts (T.take k)).length = q at hz0 HE ⊢
      clear hc hr HZ
      by_cases hbig : l - (T.length : Int) - (q : Int) < (r.length : Int)
      · go_wp2_with fail
        refine (szB_no _ _ _ _ _ (by omega) (by omega) n1 hbig).mono ?_
        rintro e w' ⟨rfl, rfl⟩
        go_wp2
        go_ret
        exact ⟨rfl, HB.out⟩
      · have hok : (r.length : Int) ≤ l - (T.length : Int) - (q : Int) := by omega
        clear hbig
        go_wp2_with fail
        refine (szB_yes _ _ _ _ _ (by omega) (by omega) hok).mono ?_
        rintro e w' ⟨rfl, rfl⟩
        go_wp2
        go_roundw
        case rel => exact ⟨k + 1, by omega, by go_num, vl (by rw [HE.out]; omega), congrArg (Value.int .i64) (by rw [HE.out]; omega), HB⟩
        case measure => simp [intOf]; omega
    · obtain rfl : k = T.length := by omega
      have := HZ.out
      rw [List.take_length] at this
      exact absurd HS.out (by omega)
set_option maxHeartbeats 1000000 in
theorem szSS_yes (A : Option Addr) (c : Nat) (T : List (List Bt)) (w : World) (l : Int) (h2 : l ≤ 1048576) (ht : ArgT w A T) (h : (szT T : Int) ≤ l) :
    Calls Try.prog 63 #[.slice A T.length c, .int .i64 l] w fun e w' => e = .returned (.int .i64 (l - (szT T : Int))) ∧ Below w.heap.size w w' := by
  have HT := vl ht
  have hs : (T.length : Int) + ((bts T).length : Int) ≤ l := by unfold szT at h; omega
  have HS := vl hs
  have HF := vl (show l - (szT T : Int) = l - (T.length : Int) - ((bts T).length : Int) by unfold szT; omega)
  have h1 : (0 : Int) ≤ l := by omega
  have hb' : (T.length : Int) ≤ l := by omega
  clear ht h hs
  rw [HF.out]
  go_enter Try.func63, Try.ntmps63
  go_wp2
  go_loopw [1, 5] (fun v i wr => ∃ k : Nat, k ≤ T.length ∧ i = .int .i64 k ∧ v = .int .i64 (l - (T.length : Int) - ((bts (T.take k)).length : Int)) ∧ Veil (Below w.heap.size w wr)) (fun _ i _ => T.length - (intOf i).toNat)
  case atStart => exact ⟨0, by omega, rfl, by simp [bts], vl (Below.refl _ _)⟩
  case round =>
    obtain ⟨k, hk, rfl, rfl, HB⟩ := hrel
    by_cases hlt : k < T.length
    · obtain ⟨r, hr⟩ := get_of hlt
      obtain ⟨ad, rfl, hc⟩ := (HT.out.src.below HB.out) (by omega)
      obtain ⟨Ai, ci, c0, HR⟩ := hc k r hr
      have he : (bts (T.take (k + 1))).length = (bts (T.take k)).length + r.length := by rw [take_flat hr, List.length_append]
      have hq := take_le T (k + 1)
      have hz := HS.out
      have HE := vl he
      generalize (bts (T.take k)).length = q at he HE ⊢
      have hok : (r.length : Int) ≤ l - (T.length : Int) - (q : Int) := by omega
      have h0 : 0 ≤ l - (T.length : Int) - (q : Int) - (r.length : Int) := by omega
      clear hc hr hq hz he
      go_wp2_with fail
      refine (szB_yes _ _ _ _ _ (by omega) (by omega) hok).mono ?_
      rintro e w' ⟨rfl, rfl⟩
      go_wp2
      go_roundw
      case rel => exact ⟨k + 1, by omega, by go_num, congrArg (Value.int .i64) (by rw [HE.out]; omega), HB⟩
      case measure => simp [intOf]; omega
    · obtain rfl : k = T.length := by omega
      go_wp2
      go_ret
      exact ⟨by rw [List.take_length]; rfl, HB.out⟩
theorem szTrain_no (up : Bool) (A : Option Addr) (c : Nat) (T : List (List Bt)) (w : World) (l : Int) (h1 : 0 ≤ l) (h2 : l ≤ 1048576) (ht : ArgT w A T) (h : l < (szT T : Int)) :
    Calls Try.prog 14 #[.agg #[.bool up, .slice A T.length c], .int .i64 l] w fun e w' => e = .returned (.int .i64 (-1)) ∧ Below w.heap.size w w' := by
  have HB0 := vl ((Below.refl w.heap.size w).alloc (Nat.le_refl _) (.cells #[.bool up, .slice A T.length c] 24))
  have HT := vl (show ArgT (w.alloc (.cells #[.bool up, .slice A T.length c] 24)) A T from ⟨ht.len, ht.row, ht.src.below HB0.out⟩)
  clear ht
  go_enter Try.func14, Try.ntmps14
  go_wp2_with fail
  refine (szSS_no _ _ _ _ _ h1 h2 HT.out h).mono ?_
  rintro e w1 ⟨rfl, hb1⟩
  have HB1 := vl (HB0.out.trans (hb1.mono HB0.out.size))
  clear hb1
  go_wp2
  go_ret
  exact ⟨rfl, HB1.out⟩
theorem szTrain_yes (up : Bool) (A : Option Addr) (c : Nat) (T : List (List Bt)) (w : World) (l : Int) (h2 : l ≤ 1048576) (ht : ArgT w A T) (h : (szT T : Int) ≤ l) :
    Calls Try.prog 14 #[.agg #[.bool up, .slice A T.length c], .int .i64 l] w fun e w' => e = .returned (.int .i64 (l - (szT T : Int))) ∧ Below w.heap.size w w' := by
  have HB0 := vl ((Below.refl w.heap.size w).alloc (Nat.le_refl _) (.cells #[.bool up, .slice A T.length c] 24))
  have HT := vl (show ArgT (w.alloc (.cells #[.bool up, .slice A T.length c] 24)) A T from ⟨ht.len, ht.row, ht.src.below HB0.out⟩)
  have h0 : 0 ≤ l - (szT T : Int) := by omega
  clear ht
  go_enter Try.func14, Try.ntmps14
  go_wp2_with fail
  refine (szSS_yes _ _ _ _ _ h2 HT.out h).mono ?_
  rintro e w1 ⟨rfl, hb1⟩
  have HB1 := vl (HB0.out.trans (hb1.mono HB0.out.size))
  clear hb1
  go_wp2
  go_ret
  exact ⟨rfl, HB1.out⟩
theorem eqBoat (b : Bt) (w : World) : Calls Try.prog 193 #[.agg #[.int .i64 b.i, .int .i64 b.l, .int .i64 b.w, .int .i64 b.d, .int .i64 b.s, .int .i64 b.c], .agg #[.int .i64 b.i, .int .i64 b.l, .int .i64 b.w, .int .i64 b.d, .int .i64 b.s, .int .i64 b.c]] w fun e w' => e = .returned (.bool true) ∧ Below w.heap.size w w' := by
  have HB0 := vl (((Below.refl w.heap.size w).alloc (Nat.le_refl _) (.cells #[.int .i64 b.i, .int .i64 b.l, .int .i64 b.w, .int .i64 b.d, .int .i64 b.s, .int .i64 b.c] 177)).alloc (by simp) (.cells #[.int .i64 b.i, .int .i64 b.l, .int .i64 b.w, .int .i64 b.d, .int .i64 b.s, .int .i64 b.c] 177))
  go_enter Try.func193, Try.ntmps193
  go_wp2
  go_ret
  exact ⟨rfl, HB0.out⟩
set_option maxRecDepth 100000 in
set_option maxHeartbeats 1000000 in
theorem eqBoatS (A A' : Option Addr) (c c' : Nat) (L : List Bt) (w : World) (hn : L.length ≤ 1048576) (hp : Bts w A L) (hp' : Bts w A' L) :
    Calls Try.prog 149 #[.slice A L.length c, .slice A' L.length c'] w fun e w' => e = .returned (.bool true) ∧ Below w.heap.size w w' := by
  have HP := vl hp
  have HP' := vl hp'
  clear hp hp'
  go_enter Try.func149, Try.ntmps149
  go_wp2
  go_loopw [5] (fun i wr => ∃ k : Nat, k ≤ L.length ∧ i = .int .i64 k ∧ Veil (Below w.heap.size w wr)) (fun i _ => L.length - (intOf i).toNat)
  case atStart => exact ⟨0, by omega, rfl, vl (Below.refl _ _)⟩
  case round =>
    obtain ⟨k, hk, rfl, HB⟩ := hrel
    by_cases hlt : k < L.length
    · obtain ⟨b, hb⟩ := get_of hlt
      obtain ⟨g, o, rfl, hc⟩ := (HP.out.below HB.out) (by omega)
      obtain ⟨x0, x1, x2, x3, x4, x5⟩ := hc k b hb
      obtain ⟨g', o', rfl, hc'⟩ := (HP'.out.below HB.out) (by omega)
      obtain ⟨y0, y1, y2, y3, y4, y5⟩ := hc' k b hb
      clear hc hc' hb
      go_wp2
      go_still_tail 8, (by kernel_rfl)
      change wpList _ _ _ _ _ wr.drew
      go_wp2_with (go_at_call 193; refine (eqBoat b _).mono ?_; rintro e w1 ⟨rfl, hb1⟩)
      have HB1 := vl (HB.out.drew.trans (hb1.mono HB.out.size))
      clear hb1
      go_roundw
      case rel => exact ⟨k + 1, by omega, by go_num, HB1⟩
      case measure => simp [intOf]; omega
    · go_wp2
      go_ret
      exact ⟨rfl, HB.out⟩
set_option maxRecDepth 100000 in
set_option maxHeartbeats 1000000 in
theorem eqBoatSS (A A' : Option Addr) (c c' : Nat) (T : List (List Bt)) (w : World) (hn : T.length ≤ 1048576) (hr : ∀ r ∈ T, r.length ≤ 1048576) (hp : Trn w A T) (hp' : Trn w A' T) :
    Calls Try.prog 72 #[.slice A T.length c, .slice A' T.length c'] w fun e w' => e = .returned (.bool true) ∧ Below w.heap.size w w' := by
  have HP := vl hp
  have HP' := vl hp'
  have HR := vl hr
  clear hp hp' hr
  go_enter Try.func72, Try.ntmps72
  go_wp2
  go_loopw [5] (fun i wr => ∃ k : Nat, k ≤ T.length ∧ i = .int .i64 k ∧ Veil (Below w.heap.size w wr)) (fun i _ => T.length - (intOf i).toNat)
  case atStart => exact ⟨0, by omega, rfl, vl (Below.refl _ _)⟩
  case round =>
    obtain ⟨k, hk, rfl, HB⟩ := hrel
    by_cases hlt : k < T.length
    · obtain ⟨r, hr⟩ := get_of hlt
      obtain ⟨g, o, rfl, hc⟩ := (HP.out.below HB.out) (by omega)
      obtain ⟨Ai, ci, x0, HA⟩ := hc k r hr
      obtain ⟨g', o', rfl, hc'⟩ := (HP'.out.below HB.out) (by omega)
      obtain ⟨Ai', ci', y0, HA'⟩ := hc' k r hr
      have hrn := HR.out r (mem_of hr)
      clear hc hc' hr
      go_wp2
      go_still_tail 8, (by kernel_rfl)
      change wpList _ _ _ _ _ wr.drew
      go_wp2_with (go_at_call 149; refine (eqBoatS Ai Ai' ci ci' r _ hrn HA.out.drew HA'.out.drew).mono ?_; rintro e w1 ⟨rfl, hb1⟩)
      have HB1 := vl (HB.out.drew.trans (hb1.mono HB.out.size))
      clear hb1
      go_roundw
      case rel => exact ⟨k + 1, by omega, by go_num, HB1⟩
      case measure => simp [intOf]; omega
    · go_wp2
      go_ret
      exact ⟨rfl, HB.out⟩
theorem eqTrain (up : Bool) (A A' : Option Addr) (c c' : Nat) (T : List (List Bt)) (w : World) (hn : T.length ≤ 1048576) (hr : ∀ r ∈ T, r.length ≤ 1048576) (hp : Trn w A T) (hp' : Trn w A' T) :
    Calls Try.prog 18 #[.agg #[.bool up, .slice A T.length c], .agg #[.bool up, .slice A' T.length c']] w fun e w' => e = .returned (.bool true) ∧ Below w.heap.size w w' := by
  have HB0 := vl (((Below.refl w.heap.size w).alloc (Nat.le_refl _) (.cells #[.bool up, .slice A T.length c] 29)).alloc (by simp) (.cells #[.bool up, .slice A' T.length c'] 29))
  have HP := vl (hp.below HB0.out)
  have HP' := vl (hp'.below HB0.out)
  have HR := vl hr
  clear hp hp' hr
  go_enter Try.func18, Try.ntmps18
  go_wp2_with fail
  refine (eqBoatSS _ _ _ _ _ _ hn HR.out HP.out HP'.out).mono ?_
  rintro e w1 ⟨rfl, hb1⟩
  have HB1 := vl (HB0.out.trans (hb1.mono HB0.out.size))
  clear hb1
  go_wp2
  go_ret
  exact ⟨rfl, HB1.out⟩
end Go.Proofs.Ytngmpimoebggdaa.C1
