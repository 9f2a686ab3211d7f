/- The laws' own functions on boats and trains: the conversion of an argument, its size, the comparison. -/
import Derived.Test.YtngmpimoebggdaaOpenT
import Derived.Test.YtngmpimoebggdaaTrn
namespace Go.Proofs.Ytngmpimoebggdaa.C1
open Go.ChangeShapes Go.WideShapes Go.ChangeAt Go.RowKit
set_option linter.unusedVariables false

/-- Cell j of a row of boats. -/
def btf (L : List Bt) (j : Nat) : Value := ((btl L)[j]?).getD (.int .i64 0)
theorem btf_at {L : List Bt} {k j : Nat} {b : Bt} {v : Value} (h : L[k]? = some b) (hj : j < 6) (hv : b.cells[j]? = some v) : btf L (k * 6 + j) = v := by
  unfold btf; rw [btl_at h hj, hv]; rfl
theorem rowB_of_row {w : World} {g : Nat} {t : TypeId} {L : List Bt} (h : w.rowIs g t (L.length * 6) (btf L)) : RowB w (some ⟨g, 0, none⟩) L g ∧ Free w (L.length * 6) g := by
  refine ⟨⟨fun _ => rfl, fun i b hi => ?_⟩, fun i hi => h.frozen i⟩
  have hl := len_of hi
  have e : ∀ j v, j < 6 → b.cells[j]? = some v → w.cell? ⟨g, i * 6 + j, none⟩ = some v := fun j v hj hv => by rw [h.cell (i := i * 6 + j) (by omega), btf_at hi hj hv]
  exact ⟨e 0 _ (by omega) rfl, e 1 _ (by omega) rfl, e 2 _ (by omega) rfl, e 3 _ (by omega) rfl, e 4 _ (by omega) rfl, e 5 _ (by omega) rfl⟩
theorem row_step {L : List Bt} {k : Nat} {b : Bt} (hb : L[k]? = some b) (j : Nat) :
    (if j = k * 6 + 5 then Value.int .i64 b.c else if j = k * 6 + 4 then .int .i64 b.s else if j = k * 6 + 3 then .int .i64 b.d else if j = k * 6 + 2 then .int .i64 b.w else if j = k * 6 + 1 then .int .i64 b.l else if j = k * 6 then .int .i64 b.i else
      if j < k * 6 then btf L j else .int .i64 0) = if j < (k + 1) * 6 then btf L j else .int .i64 0 := by
  rcases (by omega : j = k * 6 + 5 ∨ j = k * 6 + 4 ∨ j = k * 6 + 3 ∨ j = k * 6 + 2 ∨ j = k * 6 + 1 ∨ j = k * 6 ∨ j < k * 6 ∨ k * 6 + 6 ≤ j) with rfl | rfl | rfl | rfl | rfl | rfl | h | h
  · rw [if_pos rfl, if_pos (by omega)]; exact (btf_at hb (by omega) rfl).symm
  · rw [if_neg (by omega), if_pos rfl, if_pos (by omega)]; exact (btf_at hb (by omega) rfl).symm
  · rw [if_neg (by omega), if_neg (by omega), if_pos rfl, if_pos (by omega)]; exact (btf_at hb (by omega) rfl).symm
  · rw [if_neg (by omega), if_neg (by omega), if_neg (by omega), if_pos rfl, if_pos (by omega)]; exact (btf_at hb (by omega) rfl).symm
  · rw [if_neg (by omega), if_neg (by omega), if_neg (by omega), if_neg (by omega), if_pos rfl, if_pos (by omega)]; exact (btf_at hb (by omega) rfl).symm
  · rw [if_neg (by omega), if_neg (by omega), if_neg (by omega), if_neg (by omega), if_neg (by omega), if_pos rfl, if_pos (by omega)]; exact (btf_at (j := 0) hb (by omega) rfl).symm
  · rw [if_neg (by omega), if_neg (by omega), if_neg (by omega), if_neg (by omega), if_neg (by omega), if_neg (by omega), if_pos h, if_pos (by omega)]
  · rw [if_neg (by omega), if_neg (by omega), if_neg (by omega), if_neg (by omega), if_neg (by omega), if_neg (by omega), if_neg (by omega), if_neg (by omega)]

theorem toBoat (b : Bt) (w : World) : Calls Try.prog 187 #[.agg #[.int .i64 b.i, .int .i64 b.l, .int .i64 b.w, .int .i64 b.d, .int .i64 b.s, .int .i64 b.c]] w fun e w' => e = .returned (.agg #[.int .i64 b.i, .int .i64 b.l, .int .i64 b.w, .int .i64 b.d, .int .i64 b.s, .int .i64 b.c]) ∧ Below w.heap.size w w' := by
  go_enter Try.func187, Try.ntmps187
  go_wp2
  refine bodyPost_ret (v := .agg #[.int .i64 b.i, .int .i64 b.l, .int .i64 b.w, .int .i64 b.d, .int .i64 b.s, .int .i64 b.c]) (by simp [results, Try.results187, go_sem]) rfl ?_
  exact ⟨rfl, by (repeat' (first | (with_reducible exact Below.refl _ _) | (with_reducible refine Below.drew ?_) | (with_reducible refine Below.alloc ?_ ?_ _) | (with_reducible refine Below.setCell ?_ ?_ _) | (first | omega | (simp; omega) | (simp; done))))⟩
theorem infoB : (Try.prog.info? 177).map (fun i => (i.zero, i.size, i.bytes)) = some (some (.agg #[.int .i64 0, .int .i64 0, .int .i64 0, .int .i64 0, .int .i64 0, .int .i64 0]), 6, 48) := by kernel_rfl
set_option maxHeartbeats 1000000 in
theorem toBoatS (A : Option Addr) (c : Nat) (L : List Bt) (w : World) (hn : L.length ≤ 1048576) (hp : SrcBts w A L) :
    Calls Try.prog 140 #[.slice A L.length c] w fun e w' => e = .returned (.slice (some ⟨w.heap.size, 0, none⟩) L.length L.length) ∧ Below w.heap.size w w' ∧ w'.rowIs w.heap.size 177 (L.length * 6) (btf L) := by
  obtain ⟨i0, hi, hz0, hz1, hz2⟩ := info_parts infoB
  have hmk := make_eq (P := Try.prog) 173 177 i0 _ 6 48 Try.underlying173 hi hz0 hz1 hz2 L.length (by omega) (by omega)
  have HP := vl hp
  clear hp
  go_enter Try.func140, Try.ntmps140
  go_wp2
  clear hmk hi hz0 hz1 hz2
  go_loopw [4] (fun i wr => ∃ k : Nat, k ≤ L.length ∧ i = .int .i64 k ∧ Veil (Below w.heap.size w wr) ∧ Veil (wr.rowIs w.heap.size 177 (L.length * 6) (fun j => if j < k * 6 then btf L j else .int .i64 0))) (fun i _ => L.length - (intOf i).toNat)
  case atStart =>
    refine ⟨0, by omega, rfl, vl ((Below.refl _ _).alloc (Nat.le_refl _) _), vl ?_⟩
    have h := World.rowIs_alloc w (madeCells #[.int .i64 0, .int .i64 0, .int .i64 0, .int .i64 0, .int .i64 0, .int .i64 0] (L.length * 6)) 177 (fun j => if j < 0 * 6 then btf L j else .int .i64 0) (fun i hi => by
      rw [size_madeCells] at hi
      have : i % 6 = 0 ∨ i % 6 = 1 ∨ i % 6 = 2 ∨ i % 6 = 3 ∨ i % 6 = 4 ∨ i % 6 = 5 := by omega
      rcases this with h | h | h | h | h | h <;> simp [madeCells, hi, h])
    rw [size_madeCells] at h
    exact h
  case round =>
    obtain ⟨k, hk, rfl, HB, HR⟩ := hrel
    by_cases hlt : k < L.length
    · obtain ⟨ad, rfl, hsrc⟩ := HP.out.below HB.out (by omega)
      obtain ⟨b, hb⟩ := get_of hlt
      obtain ⟨x0, x1, x2, x3, x4, x5⟩ := hsrc k b hb
      have HK := vl hb
      have hz := HR.out.lt
      clear hsrc hb
      go_wp2_with fail
      refine (toBoat b _).mono ?_
      rintro e w1 ⟨rfl, hb1⟩
      have HR1 := vl (HR.out.of_block (hb1.block _ hz))
      have HB1 := vl (HB.out.trans (hb1.mono (by omega)))
      obtain ⟨u0, y0⟩ : ∃ u, w1.cell? ⟨w.heap.size, k * 6, none⟩ = some u := ⟨_, HR1.out.cell (by omega)⟩
      obtain ⟨u1, y1⟩ : ∃ u, w1.cell? ⟨w.heap.size, k * 6 + 1, none⟩ = some u := ⟨_, HR1.out.cell (by omega)⟩
      obtain ⟨u2, y2⟩ : ∃ u, w1.cell? ⟨w.heap.size, k * 6 + 2, none⟩ = some u := ⟨_, HR1.out.cell (by omega)⟩
      obtain ⟨u3, y3⟩ : ∃ u, w1.cell? ⟨w.heap.size, k * 6 + 3, none⟩ = some u := ⟨_, HR1.out.cell (by omega)⟩
      obtain ⟨u4, y4⟩ : ∃ u, w1.cell? ⟨w.heap.size, k * 6 + 4, none⟩ = some u := ⟨_, HR1.out.cell (by omega)⟩
      obtain ⟨u5, y5⟩ : ∃ u, w1.cell? ⟨w.heap.size, k * 6 + 5, none⟩ = some u := ⟨_, HR1.out.cell (by omega)⟩
      have z0 := HR1.out.frozen (k * 6); have z1 := HR1.out.frozen (k * 6 + 1); have z2 := HR1.out.frozen (k * 6 + 2)
      have z3 := HR1.out.frozen (k * 6 + 3); have z4 := HR1.out.frozen (k * 6 + 4); have z5 := HR1.out.frozen (k * 6 + 5)
      clear hb1 x0 x1 x2 x3 x4 x5
      go_wp2
      go_roundw
      case rel =>
        refine ⟨k + 1, by omega, by go_num, vl ((((((HB1.out.setCell (Nat.le_refl _) _).setCell (Nat.le_refl _) _).setCell (Nat.le_refl _) _).setCell (Nat.le_refl _) _).setCell (Nat.le_refl _) _).setCell (Nat.le_refl _) _), vl ?_⟩
        exact ((((((HR1.out.set _ _).set _ _).set _ _).set _ _).set _ _).set _ _).congr fun j hj => row_step HK.out j
      case measure => simp [intOf]; omega
    · go_wp2
      go_ret
      exact ⟨rfl, HB.out, HR.out.congr fun j hj => if_pos (by omega)⟩
/-- The rows that are converted already. -/
structure PartT (b0 : Nat) (wr : World) (T : List (List Bt)) (k : Nat) (G : Nat → Nat) : Prop where
  row : wr.rowIs b0 173 T.length (fun j => if j < k then .slice (some ⟨G j, 0, none⟩) ((T[j]?).getD []).length ((T[j]?).getD []).length else .slice none 0 0)
  inR : ∀ i r, i < k → T[i]? = some r → RowB wr (some ⟨G i, 0, none⟩) r (G i) ∧ Free wr (r.length * 6) (G i) ∧ b0 < G i ∧ G i < wr.heap.size
  lt : ∀ i j, i < j → j < k → G i < G j
theorem PartT.own {b0 : Nat} {w : World} {T : List (List Bt)} {G : Nat → Nat} (h : PartT b0 w T T.length G) : OwnT w b0 w.heap.size (some ⟨b0, 0, none⟩) T b0 G := by
  have hl := h.row.lt
  refine ⟨fun _ => rfl, fun _ => ⟨Nat.le_refl _, hl⟩, fun i r hi => ?_, fun i r hi _ => ?_, fun i j r s hi hj _ _ hne => ?_⟩
  · have hlt := len_of hi
    obtain ⟨h1, h2, _⟩ := h.inR i r hlt hi
    refine ⟨some ⟨G i, 0, none⟩, r.length, ?_, h1, h2⟩
    rw [h.row.cell hlt, if_pos hlt, hi]; rfl
  · obtain ⟨_, _, h3, h4⟩ := h.inR i r (len_of hi) hi
    exact ⟨by omega, h4, by omega⟩
  · have h1 := len_of hi
    have h2 := len_of hj
    rcases Nat.lt_or_gt_of_ne hne with h3 | h3
    · have := h.lt i j h3 h2; omega
    · have := h.lt j i h3 h1; omega
theorem mkSS (n : Nat) (hn : n ≤ 1048576) : ∀ W : World, (Instr.makeSlice 27 (.int .i64 (n : Int)) (.int .i64 (n : Int))).run Try.prog W = .ok (.slice (some ⟨W.heap.size, 0, none⟩) n n) (W.alloc (.cells (madeCells #[.slice none 0 0] n) 173)) := fun W =>
  run_make_row' 27 173 (.slice none 0 0) 24 Try.underlying27 (by kernel_rfl) rfl .i64 .i64 n (by omega) (by omega) W
set_option maxHeartbeats 1000000 in
theorem toBoatSS (A : Option Addr) (c : Nat) (T : List (List Bt)) (w : World) (hn : T.length ≤ 1048576) (hr : ∀ r ∈ T, r.length ≤ 1048576) (hp : SrcTrn w A T) :
    Calls Try.prog 68 #[.slice A T.length c] w fun e w' => e = .returned (.slice (some ⟨w.heap.size, 0, none⟩) T.length T.length) ∧ Below w.heap.size w w' ∧ ∃ G, OwnT w' w.heap.size w'.heap.size (some ⟨w.heap.size, 0, none⟩) T w.heap.size G := by
  have hmk := mkSS T.length hn
  have HP := vl hp
  have HN := vl hr
  have HR := vl (World.rowIs_made w (.slice none 0 0) T.length 173)
  clear hp hr
  go_enter Try.func68, Try.ntmps68
  go_wp2
  clear hmk
  go_loopw [4] (fun i wr => ∃ k : Nat, k ≤ T.length ∧ i = .int .i64 k ∧ Veil (Below w.heap.size w wr) ∧ ∃ G, Veil (PartT w.heap.size wr T k G)) (fun i _ => T.length - (intOf i).toNat)
  case atStart => exact ⟨0, by omega, rfl, vl ((Below.refl _ _).alloc (Nat.le_refl _) _), fun _ => 0, vl ⟨HR.out.congr fun j hj => (if_neg (by omega)).symm, fun i r hi => by omega, fun i j h1 h2 => by omega⟩⟩
  case round =>
    obtain ⟨k, hk, rfl, HB, G, HG⟩ := hrel
    by_cases hlt : k < T.length
    · obtain ⟨ad, rfl, hsrc⟩ := HP.out.below HB.out (by omega)
      obtain ⟨r, hr⟩ := get_of hlt
      obtain ⟨Ai, ci, x0, HS⟩ := hsrc k r hr
      have hrn := HN.out r (mem_of hr)
      have HK := vl hr
      have hz := HG.out.row.lt
      clear hsrc hr
      go_wp2_with fail
      refine (toBoatS Ai ci r _ hrn HS.out).mono ?_
      rintro e w1 ⟨rfl, hb1, hr1⟩
      have HR1 := vl (HG.out.row.of_block (hb1.block _ hz))
      have HB1 := vl (HB.out.trans (hb1.mono (by omega)))
      obtain ⟨u0, y0⟩ : ∃ u, w1.cell? ⟨w.heap.size, k, none⟩ = some u := ⟨_, HR1.out.cell (by omega)⟩
      have z0 := HR1.out.frozen k
      have HW := vl hb1
      have HQ := vl (rowB_of_row hr1)
      have hg1 := hr1.lt
      clear hb1 x0 hr1
      go_wp2
      go_roundw
      case rel =>
        refine ⟨k + 1, by omega, by go_num, vl (HB1.out.setCell (Nat.le_refl _) _), fun j => if j = k then wr.heap.size else G j, vl ⟨?_, fun i s hi hs => ?_, fun i j h1 h2 => ?_⟩⟩
        · refine (HR1.out.set _ _).congr fun j hj => ?_
          by_cases e : j = k
          · subst e; rw [if_pos rfl, if_pos (by omega), if_pos rfl, HK.out]; rfl
          · rw [if_neg e, if_neg e]
            by_cases e2 : j < k
            · rw [if_pos e2, if_pos (by omega)]
            · rw [if_neg e2, if_neg (by omega)]
        · have hs0 : (w1.setCell ⟨w.heap.size, k, none⟩ (.slice (some ⟨wr.heap.size, 0, none⟩) r.length r.length)).heap.size = w1.heap.size := by simp
          have hfar : ∀ q, w.heap.size < q → (w1.setCell ⟨w.heap.size, k, none⟩ (.slice (some ⟨wr.heap.size, 0, none⟩) r.length r.length)).heap[q]? = w1.heap[q]? := fun q hq => Below.heap_setCell w1 ⟨w.heap.size, k, none⟩ _ q (by show q ≠ w.heap.size; omega)
          by_cases e : i = k
          · subst e
            rw [HK.out] at hs
            injection hs with hs
            subst hs
            show RowB _ (some ⟨if i = i then _ else _, 0, none⟩) _ (if i = i then _ else _) ∧ Free _ _ (if i = i then _ else _) ∧ _ < (if i = i then _ else _) ∧ (if i = i then _ else _) < _
            rw [if_pos rfl, hs0]
            exact ⟨HQ.out.1.block fun _ => hfar _ (by omega), HQ.out.2.block fun _ => hfar _ (by omega), by omega, hg1⟩
          · obtain ⟨h1, h2, h3, h4⟩ := HG.out.inR i s (by omega) hs
            show RowB _ (some ⟨if i = k then _ else _, 0, none⟩) _ (if i = k then _ else _) ∧ Free _ _ (if i = k then _ else _) ∧ _ < (if i = k then _ else _) ∧ (if i = k then _ else _) < _
            rw [if_neg e, hs0]
            exact ⟨(h1.below HW.out).block fun _ => hfar _ h3, (h2.block fun _ => HW.out.block _ h4).block fun _ => hfar _ h3, h3, by have := HW.out.size; omega⟩
        · show (if i = k then _ else _) < (if j = k then _ else _)
          rw [if_neg (by omega)]
          by_cases e : j = k
          · rw [if_pos e]
            obtain ⟨s, hs⟩ := get_of (L := T) (k := i) (by omega)
            exact (HG.out.inR i s (by omega) hs).2.2.2
          · rw [if_neg e]; exact HG.out.lt i j h1 (by omega)
      case measure => simp [intOf]; omega
    · obtain rfl : k = T.length := by omega
      go_wp2
      go_ret
      exact ⟨rfl, HB.out, G, HG.out.own⟩
set_option maxHeartbeats 1000000 in
theorem toTrain (up : Bool) (A : Option Addr) (c : Nat) (T : List (List Bt)) (w : World) (hn : T.length ≤ 1048576) (hr : ∀ r ∈ T, r.length ≤ 1048576) (hp : SrcTrn w A T) :
    Calls Try.prog 16 #[.agg #[.bool up, .slice A T.length c]] w (GivesT w up T) := by
  have HP := vl hp
  have HN := vl hr
  clear hp hr
  go_enter Try.func16, Try.ntmps16
  go_wp2_with fail
  have HB0 := vl ((((Below.refl w.heap.size w).alloc (Nat.le_refl _) (.cells #[.bool up, .slice A T.length c] 24)).alloc (by simp) (.cells #[.bool false, .slice none 0 0] 29)).alloc (by simp; omega) (.cells #[.bool up, .slice none 0 0] 29))
  refine (toBoatSS A c T _ hn HN.out (HP.out.below HB0.out)).mono ?_
  rintro e w1 ⟨rfl, hb1, G, hG⟩
  have q1 : w.heap.size + 1 + 1 + 1 ≤ w1.heap.size := by have := hb1.size; simpa using this
  have q2 : w.heap.size + 1 + 1 < w1.heap.size := by omega
  have q3 : w.heap.size + 1 < w1.heap.size := by omega
  have HB1 := vl (HB0.out.trans (hb1.mono (by simp; omega)))
  obtain ⟨k1, f1⟩ := bcell hb1
  have HG := vl hG
  clear hb1 hG
  go_wp2
  refine bodyPost_ret (v := .agg #[.bool up, .slice (some ⟨w.heap.size + 1 + 1 + 1, 0, none⟩) T.length T.length]) (by simp [results, Try.results16, go_sem, k1]) rfl ?_
  clear k1 f1
  have HU := vl (((Touch.refl w1 (w.heap.size + 1) (w.heap.size + 1 + 1 + 1)).set (w.heap.size + 1 + 1) 1 (.slice (some ⟨w.heap.size + 1 + 1 + 1, 0, none⟩) T.length T.length) (by omega) (by omega)).set (w.heap.size + 1) 0 (.bool up) (by omega) (by omega) |>.set (w.heap.size + 1) 1 (.slice (some ⟨w.heap.size + 1 + 1 + 1, 0, none⟩) T.length T.length) (by omega) (by omega))
  have hs := HU.out.size
  have hG := HG.out
  simp only [World.size_alloc] at hG
  exact ⟨⟨_, _, w.heap.size + 1 + 1 + 1, G, rfl, Nat.le_refl _, (hG.touch HU.out (Or.inr (Nat.le_refl _))).wide (by omega) hs⟩, HU.out.below HB1.out (by omega)⟩
end Go.Proofs.Ytngmpimoebggdaa.C1
