/- ShareOut of the program. -/
import Derived.Test.YtngmpimoebggdaaSort
import Derived.Test.YtngmpimoebggdaaTab
namespace Go.Proofs.Ytngmpimoebggdaa.C1
open Go.ChangeShapes Go.WideShapes Go.ChangeAt Go.RowKit Go.Proofs.Ytngmpimoebggdaa.ShareM
set_option linter.unusedVariables false

/-- A slice of integers at the head of a block. -/
def SrcG (w : World) (A : Option Addr) (n : Nat) (W : Nat → Int) : Prop := 0 < n → ∃ g, A = some ⟨g, 0, none⟩ ∧ ∀ i, i < n → w.cell? ⟨g, i, none⟩ = some (.int .i64 (W i))
theorem SrcG.below {w w' : World} {A : Option Addr} {n : Nat} {W : Nat → Int} (h : SrcG w A n W) (hb : Below w.heap.size w w') : SrcG w' A n W := fun hn => by
  obtain ⟨g, e, hc⟩ := h hn
  exact ⟨g, e, fun i hi => (hb.cell (World.block_lt_of_cell? _ _ (hc i hi))).trans (hc i hi)⟩
theorem SrcG.of_row {w : World} {g n : Nat} {W : Nat → Int} (h : w.rowIs g 3 n (fun i => .int .i64 (W i))) : SrcG w (some ⟨g, 0, none⟩) n W := fun _ => ⟨g, rfl, fun i hi => h.cell hi⟩
theorem SrcG.congr {w : World} {A : Option Addr} {n : Nat} {W V : Nat → Int} (h : SrcG w A n W) (e : ∀ i, i < n → W i = V i) : SrcG w A n V := fun hn => by
  obtain ⟨g, e1, hc⟩ := h hn
  exact ⟨g, e1, fun i hi => by rw [← e i hi]; exact hc i hi⟩
def WOk (n : Nat) (W : Nat → Int) : Prop := n ≤ 12 ∧ ∀ i, i < n → 0 ≤ W i ∧ W i ≤ 1000000
open Classical in
noncomputable def sw (n : Nat) (W : Nat → Int) : Int := if WOk n W then sumTo W n else 0
theorem sw_yes {n : Nat} {W : Nat → Int} (h : WOk n W) : sw n W = sumTo W n := by classical exact if_pos h
theorem sw_no {n : Nat} {W : Nat → Int} (h : ¬ WOk n W) : sw n W = 0 := by classical exact if_neg h
theorem sum_part {n k : Nat} {W : Nat → Int} (hk : k ≤ 12) (h : ∀ i, i < k → 0 ≤ W i ∧ W i ≤ 1000000) : 0 ≤ sumTo W k ∧ sumTo W k ≤ 12000000 := by
  have h0 := sum_nonneg (f := W) (n := k) (fun i hi => (h i hi).1)
  have h1 := sum_bd (f := W) (n := k) (c := 1000000) (fun i hi => (h i hi).2)
  exact ⟨h0, by omega⟩
theorem sw_bd (n : Nat) (W : Nat → Int) : 0 ≤ sw n W ∧ sw n W ≤ 12000000 := by
  by_cases h : WOk n W
  · rw [sw_yes h]; exact sum_part (n := n) h.1 h.2
  · rw [sw_no h]; omega
theorem fine_of {total : Int} {n : Nat} {W : Nat → Int} (h0 : 0 ≤ total) (h1 : total ≤ 1000000000) (hs : 0 < sw n W) : Fine total n W := by
  have hw : WOk n W := Classical.byContradiction fun h => by rw [sw_no h] at hs; omega
  rw [sw_yes hw] at hs
  exact ⟨h0, h1, hw.1, hw.2, hs⟩
theorem fine_sw {total : Int} {n : Nat} {W : Nat → Int} (F : Fine total n W) : sw n W = sumTo W n := sw_yes ⟨F.n12, F.w⟩
theorem size_alloc1 (w : World) (o : Obj) : (w.alloc o).heap.size = w.heap.size + 1 := by simp
theorem weights_impl (A : Option Addr) (n c : Nat) (W : Nat → Int) (w : World) (hn : n ≤ 1048576) (hs : SrcG w A n W) :
    Calls Try.prog 161 #[.slice A n c] w fun e w' => e = .returned (.int .i64 (sw n W)) ∧ w = w' := by
  by_cases hlong : 12 < n
  · have H := Lib.hid (show sw n W = 0 from sw_no fun h => by have := h.1; omega)
    clear hs
    go_enter Try.func161, Try.ntmps161
    go_wp2
    go_ret
    exact ⟨by rw [H.out]; rfl, rfl⟩
  have hl : n ≤ 12 := by omega
  have HS := Lib.hid hs
  clear hs hlong
  go_enter Try.func161, Try.ntmps161
  go_wp2
  go_loop [3, 11] (fun s i => ∃ k : Nat, k ≤ n ∧ i = .int .i64 k ∧ s = .int .i64 (sumTo W k) ∧ Hid (∀ i, i < k → 0 ≤ W i ∧ W i ≤ 1000000)) (fun _ i => n - (intOf i).toNat)
  case atStart => exact ⟨0, by omega, rfl, rfl, fun i hi => by omega⟩
  case round =>
    obtain ⟨k, hk, rfl, rfl, HW⟩ := hrel
    have hb := sum_part (n := n) (by omega : k ≤ 12) HW
    by_cases hlt : k < n
    · obtain ⟨g, rfl, hc⟩ := HS.out (by omega)
      have c0 := hc k hlt
      clear hc
      by_cases h0 : 0 ≤ W k
      · by_cases h1 : W k ≤ 1000000
        · go_wp2
          go_round
          case rel => exact ⟨k + 1, by omega, by go_num, rfl, fun i hi => by
            rcases Nat.lt_or_ge i k with h | h
            · exact HW i h
            · obtain rfl : i = k := by omega
              exact ⟨h0, h1⟩⟩
          case measure => simp [intOf]; omega
        · have H := Lib.hid (show sw n W = 0 from sw_no fun h => by have := h.2 k hlt; omega)
          have h1' : 1000000 < W k := by omega
          go_wp2
          go_ret
          exact ⟨by rw [H.out]; rfl, rfl⟩
      · have H := Lib.hid (show sw n W = 0 from sw_no fun h => by have := h.2 k hlt; omega)
        have h0' : W k < 0 := by omega
        go_wp2
        go_ret
        exact ⟨by rw [H.out]; rfl, rfl⟩
    · obtain rfl : k = n := by omega
      have H := Lib.hid (show sw k W = sumTo W k from sw_yes ⟨hl, HW⟩)
      go_wp2
      go_ret
      exact ⟨by rw [H.out]; rfl, rfl⟩
theorem mkInts (n : Nat) (hn : n ≤ 1048576) : ∀ W : World, (Instr.makeSlice 47 (.int .i64 (n : Int)) (.int .i64 (n : Int))).run Try.prog W = .ok (.slice (some ⟨W.heap.size, 0, none⟩) n n) (W.alloc (.cells (madeCells #[.int .i64 0] n) 3)) := fun W =>
  run_make_row' 47 3 (.int .i64 0) 8 Try.underlying47 (by kernel_rfl) rfl .i64 .i64 n (by omega) (by omega) W
theorem set_far {w : World} {g k : Nat} {u : Value} : w.grownBy (w.setCell ⟨g, k, none⟩ u) (some g) := grown_set (World.grownBy.refl w (some g))
set_option maxHeartbeats 1000000 in
theorem greatest (gr n : Nat) (r : Nat → Int) (w : World) (hn : n ≤ 12) (hrow : w.rowIs gr 3 n (fun i => .int .i64 (r i))) :
    Calls Try.prog 167 #[.slice (some ⟨gr, 0, none⟩) n n] w fun e w' => (∃ g D, Ord r n D ∧ e = .returned (.slice (some ⟨g, 0, none⟩) n n) ∧ w.heap.size ≤ g ∧ w'.rowIs g 3 n (fun p => .int .i64 (D p : Int))) ∧ Below w.heap.size w w' := by
  have hgr := hrow.lt
  have HB0 : Hid (SBox ((w.alloc (.cells #[.slice (some ⟨gr, 0, none⟩) n n] 47)).alloc (.cells (madeCells #[.int .i64 0] n) 3)) w.heap.size gr n n r) := by
    have h1 : (w.alloc (.cells #[.slice (some ⟨gr, 0, none⟩) n n] 47)).cell? ⟨w.heap.size, 0, none⟩ = some (.slice (some ⟨gr, 0, none⟩) n n) := by
      unfold World.cell?; rw [heap_alloc_new]; rfl
    exact ⟨(World.cell?_alloc_lt _ _ _ (by simp)).trans h1, fun i hi => (World.cell?_alloc_lt _ _ _ (by simp; omega)).trans ((World.cell?_alloc_lt _ _ _ hgr).trans (hrow.cell hi))⟩
  have HR0 := Lib.hid (World.rowIs_made (w.alloc (.cells #[.slice (some ⟨gr, 0, none⟩) n n] 47)) (.int .i64 0) n 3)
  have hmk := mkInts n (by omega)
  clear hrow
  go_enter Try.func167, Try.ntmps167
  go_wp2
  clear hmk
  go_loopw [10] (fun i wr => ∃ k : Nat, k ≤ n ∧ i = .int .i64 k ∧ SBox wr w.heap.size gr n n r ∧ wr.rowIs (w.heap.size + 1) 3 n (fun p => if p < k then .int .i64 (p : Int) else .int .i64 0) ∧ Below w.heap.size w wr ∧ wr.cell? ⟨w.heap.size, 0, none⟩ = some (.slice (some ⟨gr, 0, none⟩) n n)) (fun i _ => n - (intOf i).toNat)
  case atStart =>
    refine ⟨0, by omega, rfl, HB0.out, ?_, ((Below.refl _ _).alloc (Nat.le_refl _) _).alloc (by simp) _, HB0.out.1⟩
    have h := HR0.out
    rw [size_alloc1] at h
    exact h.congr fun p hp => (if_neg (by omega)).symm
  case round =>
    obtain ⟨k, hk, rfl, hbox, hrow, hb, hc0⟩ := hrel
    have HX := Lib.hid hbox
    have HB := Lib.hid hb
    clear hbox hb
    by_cases hlt : k < n
    · have z0 := hrow.frozen k
      obtain ⟨u0, c0⟩ : ∃ u, wr.cell? ⟨w.heap.size + 1, k, none⟩ = some u := ⟨_, hrow.cell hlt⟩
      have HR := Lib.hid hrow
      clear hrow
      go_wp2
      go_roundw
      case rel =>
        refine ⟨k + 1, by omega, by go_num, HX.out.far set_far (by omega) (by omega), (HR.out.set _ _).congr fun p hp => ?_, HB.out.setCell (by simp) _, (HX.out.far set_far (by omega) (by omega)).1⟩
        by_cases e1 : p = k
        · rw [if_pos e1, if_pos (by omega), e1]
        · rw [if_neg e1]
          by_cases e2 : p < k
          · rw [if_pos e2, if_pos (by omega)]
          · rw [if_neg e2, if_neg (by omega)]
      case measure => simp [intOf]; omega
    · have HR := Lib.hid (show wr.rowIs (w.heap.size + 1) 3 n (fun p => .int .i64 (p : Int)) from hrow.congr fun p hp => if_pos (by omega))
      clear hrow
      go_wp2_with fail
      refine (sortStable _ _ gr n n r _ hn (by omega) (by omega) HX.out HR.out).mono ?_
      rintro e w1 ⟨⟨D, hD, hrow⟩, rfl, hg⟩
      have HD := Lib.hid hD
      have HW := Lib.hid hrow
      have HG := Lib.hid (HB.out.grown hg HB.out.size (fun q hq => by injection hq with hq; omega))
      clear hD hrow hg
      go_wp2
      go_ret
      exact ⟨⟨_, D, HD.out, rfl, by omega, HW.out⟩, HG.out⟩
theorem share_impl_no (total : Int) (A : Option Addr) (n c : Nat) (W : Nat → Int) (w : World) (hn : n ≤ 1048576) (hs : SrcG w A n W) (hf : ¬ Fine total n W) :
    Calls Try.prog 101 #[.int .i64 total, .slice A n c] w fun e w' => e = .returned (.slice none 0 0) ∧ w = w' := by
  have HS := Lib.hid hs
  have hb := sw_bd n W
  clear hs
  by_cases ht : 0 ≤ total ∧ total ≤ 1000000000
  · have hz : sw n W = 0 := by
      refine Classical.byContradiction fun h => hf (fine_of ht.1 ht.2 (by omega))
    have HZ := Lib.hid hz
    have hi : inB total 0 1000000000 = true := inB_yes ht.1 ht.2
    clear hz hf ht hb
    go_enter Try.func101, Try.ntmps101
    go_wp2_with fail
    refine (weights_impl A n c W _ hn HS.out).mono ?_
    rintro e w' ⟨rfl, rfl⟩
    rw [HZ.out]
    go_wp2_with fail
    refine (amount_impl total _).mono ?_
    rintro e w' ⟨rfl, rfl⟩
    go_wp2
    go_ret
    exact ⟨rfl, rfl⟩
  · have hi : inB total 0 1000000000 = false := inB_no (by omega)
    clear hf ht
    go_enter Try.func101, Try.ntmps101
    go_wp2_with fail
    refine (weights_impl A n c W _ hn HS.out).mono ?_
    rintro e w' ⟨rfl, rfl⟩
    go_wp2_with fail
    refine (amount_impl total _).mono ?_
    rintro e w' ⟨rfl, rfl⟩
    go_wp2
    go_ret
    exact ⟨rfl, rfl⟩
set_option maxHeartbeats 4000000 in
theorem share_impl (total : Int) (A : Option Addr) (n c : Nat) (W : Nat → Int) (w : World) (hs : SrcG w A n W) (F : Fine total n W) :
    Calls Try.prog 101 #[.int .i64 total, .slice A n c] w fun e w' => (∃ g E, Sel (rem total (sumTo W n) W) n (left total (sumTo W n) W n).toNat E ∧ e = .returned (.slice (some ⟨g, 0, none⟩) n n) ∧ w.heap.size ≤ g ∧ w'.rowIs g 3 n (fun i => .int .i64 (share total n W E i))) ∧ Below w.heap.size w w' := by
  have HS := Lib.hid hs
  have HF := Lib.hid F
  have t0 := F.t0
  have t1 := F.t1
  have n12 := F.n12
  have s0 := F.s
  have s1 := sum_bd12 F
  have HW := Lib.hid (fine_sw F)
  have hi : inB total 0 1000000000 = true := inB_yes t0 t1
  have hsz : (sumTo W n == 0) = false := by simp; omega
  have hmk := mkInts n (by omega)
  have HR1 := Lib.hid ((World.rowIs_made w (.int .i64 0) n 3).alloc (.cells (madeCells #[.int .i64 0] n) 3))
  have HR2 := Lib.hid (World.rowIs_made (w.alloc (.cells (madeCells #[.int .i64 0] n) 3)) (.int .i64 0) n 3)
  clear hs F
  go_enter Try.func101, Try.ntmps101
  go_wp2_with fail
  refine (weights_impl A n c W _ (by omega) HS.out).mono ?_
  rintro e w' ⟨rfl, rfl⟩
  rw [HW.out]
  go_wp2_with fail
  refine (amount_impl total _).mono ?_
  rintro e w' ⟨rfl, rfl⟩
  go_wp2
  clear hmk
  go_loopw [8, 31] (fun l i wr => ∃ k : Nat, k ≤ n ∧ i = .int .i64 k ∧ l = .int .i64 (total - sumTo (quo total (sumTo W n) W) k) ∧ wr.rowIs w.heap.size 3 n (fun p => if p < k then .int .i64 (quo total (sumTo W n) W p) else .int .i64 0) ∧ wr.rowIs (w.heap.size + 1) 3 n (fun p => if p < k then .int .i64 (rem total (sumTo W n) W p) else .int .i64 0) ∧ Below w.heap.size w wr) (fun _ i _ => n - (intOf i).toNat)
  case atStart =>
    refine ⟨0, by omega, rfl, by show _ = Value.int .i64 (total - 0); rw [Int.sub_zero], HR1.out.congr fun p hp => (if_neg (by omega)).symm, ?_, ((Below.refl _ _).alloc (Nat.le_refl _) _).alloc (by simp) _⟩
    have h := HR2.out
    rw [size_alloc1] at h
    exact h.congr fun p hp => (if_neg (by omega)).symm
  case round =>
    obtain ⟨k, hk, rfl, rfl, hq, hr, hb⟩ := hrel
    have HQ := Lib.hid hq
    have HR := Lib.hid hr
    have HB := Lib.hid hb
    have hps := part_sum_bd HF.out hk
    by_cases hlt : k < n
    · obtain ⟨g, rfl, hc⟩ := (HS.out.below hb) (by omega)
      have c0 := hc k hlt
      have hpb := prod_bd HF.out hlt
      have hqb := quo_bd HF.out hlt
      have z1 := hq.frozen k
      have z2 := hr.frozen k
      obtain ⟨u1, c1⟩ : ∃ u, wr.cell? ⟨w.heap.size, k, none⟩ = some u := ⟨_, hq.cell hlt⟩
      obtain ⟨u2, c2⟩ : ∃ u, wr.cell? ⟨w.heap.size + 1, k, none⟩ = some u := ⟨_, hr.cell hlt⟩
      have hps' := part_sum_bd HF.out (k := k + 1) (by omega)
      have hqb' : 0 ≤ total * W k / sumTo W n ∧ total * W k / sumTo W n ≤ 1000000000 := hqb
      have HQE := Lib.hid (show total * W k / sumTo W n = quo total (sumTo W n) W k from rfl)
      clear hc hq hr hb
      go_wp2
      go_roundw
      case rel =>
        refine ⟨k + 1, by omega, by go_num, congrArg (Value.int .i64) ?_, ((HQ.out.set k _).setOther (a := ⟨w.heap.size + 1, k, none⟩) (by show w.heap.size ≠ w.heap.size + 1; omega) _).congr fun p hp => ?_, ((HR.out.setOther (a := ⟨w.heap.size, k, none⟩) (by show w.heap.size + 1 ≠ w.heap.size; omega) _).set k _).congr fun p hp => ?_, (HB.out.setCell (Nat.le_refl _) _).setCell (by simp) _⟩
        · have e : sumTo (quo total (sumTo W n) W) (k + 1) = sumTo (quo total (sumTo W n) W) k + quo total (sumTo W n) W k := rfl
          have := HQE.out
          omega
        · by_cases e1 : p = k
          · rw [if_pos e1, if_pos (by omega), e1]; rfl
          · rw [if_neg e1]
            by_cases e2 : p < k
            · rw [if_pos e2, if_pos (by omega)]
            · rw [if_neg e2, if_neg (by omega)]
        · by_cases e1 : p = k
          · rw [if_pos e1, if_pos (by omega), e1]; rfl
          · rw [if_neg e1]
            by_cases e2 : p < k
            · rw [if_pos e2, if_pos (by omega)]
            · rw [if_neg e2, if_neg (by omega)]
      case measure => simp [intOf]; omega
    · obtain rfl : k = n := by omega
      have hlb := left_bd HF.out
      obtain ⟨L, hL⟩ := Int.eq_ofNat_of_zero_le hlb.1
      have hLn : L ≤ k := by omega
      have HL := Lib.hid hL
      have hl : total - sumTo (quo total (sumTo W k) W) k = (L : Int) := hL
      rw [hl]
      have HR' := Lib.hid (show wr.rowIs (w.heap.size + 1) 3 k (fun p => .int .i64 (rem total (sumTo W k) W p)) from hr.congr fun p hp => if_pos hp)
      have HQ' := Lib.hid (show wr.rowIs w.heap.size 3 k (fun p => .int .i64 (quo total (sumTo W k) W p)) from hq.congr fun p hp => if_pos hp)
      have hwl := hq.lt
      clear hq hr hb hl hL hlb HQ HR
      go_wp2_with fail
      refine (greatest _ k (rem total (sumTo W k) W) _ n12 HR'.out).mono ?_
      rintro e w1 ⟨⟨g, D, hD, rfl, hg, hrow⟩, hb1⟩
      have HD := Lib.hid hD
      have HRow := Lib.hid hrow
      have HQ1 := Lib.hid (HQ'.out.of_block (hb1.block _ hwl))
      have HB1 := Lib.hid (HB.out.trans (hb1.mono HB.out.size))
      have HSel := Lib.hid (hD.sel (L := L) hLn)
      clear hD hrow hb1
      go_wp2
      go_loopw [64] (fun i wr => ∃ t : Nat, t ≤ L ∧ i = .int .i64 t ∧ wr.rowIs w.heap.size 3 k (fun i => .int .i64 (quo total (sumTo W k) W i + inc D t i)) ∧ wr.rowIs g 3 k (fun p => .int .i64 (D p : Int)) ∧ Below w.heap.size w wr) (fun i _ => L - (intOf i).toNat)
      case atStart => exact ⟨0, by omega, rfl, HQ1.out.congr fun p hp => by show _ = Value.int .i64 (_ + 0); rw [Int.add_zero], HRow.out, HB1.out⟩
      case round =>
        obtain ⟨t, ht, rfl, hq, hr, hb⟩ := hrel
        have HQ2 := Lib.hid hq
        have HR2 := Lib.hid hr
        have HB2 := Lib.hid hb
        by_cases hlt2 : t < L
        · have hDt := HD.out.lt t (by omega)
          have c0 := hr.cell (i := t) (by omega)
          have c1 := hq.cell hDt
          have z1 := hq.frozen (D t)
          have hqb := quo_bd HF.out hDt
          have hin0 : inc D t (D t) = 0 := inc_no (fun s hs => HSel.out.new s t hs hlt2)
          rw [hin0, Int.add_zero] at c1
          have HI := Lib.hid hin0
          clear hq hr hb hin0
          go_wp2
          go_roundw
          case rel =>
            refine ⟨t + 1, by omega, by go_num, (HQ2.out.set (D t) _).congr fun p hp => ?_, HR2.out.setOther (a := ⟨w.heap.size, D t, none⟩) (by show g ≠ w.heap.size; omega) _, HB2.out.setCell (Nat.le_refl _) _⟩
            rw [inc_succ]
            by_cases e1 : p = D t
            · rw [if_pos e1, if_pos e1.symm, e1]
            · rw [if_neg e1, if_neg (fun e => e1 e.symm)]
          case measure => simp [intOf]; omega
        · obtain rfl : t = L := by omega
          have HSh := Lib.hid (show ∀ i, quo total (sumTo W k) W i + inc D t i = share total k W D i from fun i => by unfold share; rw [HL.out]; rfl)
          go_wp2
          go_ret
          exact ⟨⟨_, D, by rw [HL.out]; exact HSel.out, rfl, Nat.le_refl _, HQ2.out.congr fun p hp => by rw [HSh.out]⟩, HB2.out⟩
end Go.Proofs.Ytngmpimoebggdaa.C1
