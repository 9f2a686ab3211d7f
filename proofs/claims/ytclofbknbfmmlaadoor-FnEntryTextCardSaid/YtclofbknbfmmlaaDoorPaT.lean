/- The text of an entry, read by the model: the entry. -/
import Derived.Test.YtclofbknbfmmlaaDoorPaS
import Derived.Test.YtclofbknbfmmlaaDoorLast
import Derived.Test.YtclofbknbfmmlaaDoorHeld
namespace Go.Proofs.YtclofbknbfmmlaaDoor.C1
open Go.ChangeShapes Go.WideShapes Go.ChangeAt Go.RowKit Go.Proofs.YtclofbknbfmmlaaDoor.Lift
set_option linter.unusedVariables false
set_option linter.unusedSimpArgs false

theorem own_setE {w : World} {B n size g j : Nat} {e : TypeId} {v u : Value} {xs : List Value} (h : w.ownsRow B e size v n xs) (hne : ∀ k, v.ownBlock = some k → k ≠ g) : (w.setCell ⟨g, j, none⟩ u).ownsRow B e size v n xs :=
  h.kept (grown_set (World.grownBy.refl w (some g))) (by
    cases hv : v.ownBlock with
    | none => exact .inl rfl
    | some k => exact .inr (by intro e; injection e with e; exact hne k hv e))
/-- What a function that gives entries leaves. -/
def GivesE (w : World) (E : List En) (e : Ending) (w' : World) : Prop :=
  (∃ A' c' g, e = .returned (.slice A' E.length c') ∧ RowE w' A' E g ∧ Free w' (E.length * 5) g ∧ w.heap.size ≤ g ∧ (0 < E.length → g < w'.heap.size)) ∧ Below w.heap.size w w'
/-- The result's cell, before an entry stands in it. -/
def ZRow (w : World) (b : Nat) : Prop := w.rowIs b 36 5 (fun _ => .int .i64 0)
theorem zrow (w : World) : ZRow (w.alloc (.cells #[.int .i64 0, .int .i64 0, .int .i64 0, .int .i64 0, .int .i64 0] 36)) w.heap.size := World.rowIs_alloc w #[.int .i64 0, .int .i64 0, .int .i64 0, .int .i64 0, .int .i64 0] 36 (fun _ => .int .i64 0) (fun i hi => by
  have hi' : i < 5 := hi
  match i, hi' with
  | 0, _ => rfl
  | 1, _ => rfl
  | 2, _ => rfl
  | 3, _ => rfl
  | 4, _ => rfl)
theorem ZRow.below {w w' : World} {b : Nat} (h : ZRow w b) (hb : Below w.heap.size w w') : ZRow w' b := World.rowIs.of_block h (hb.block _ (World.rowIs.lt h))
theorem ZRow.set {w : World} {b g j : Nat} {v : Value} (h : ZRow w b) (hne : b ≠ g) : ZRow (w.setCell ⟨g, j, none⟩ v) b := World.rowIs.setOther h hne v
theorem ZRow.at {w : World} {b : Nat} (h : ZRow w b) : w.cell? ⟨b, 0, none⟩ = some (.int .i64 0) ∧ w.cell? ⟨b, 1, none⟩ = some (.int .i64 0) ∧ w.cell? ⟨b, 2, none⟩ = some (.int .i64 0) ∧ w.cell? ⟨b, 3, none⟩ = some (.int .i64 0) ∧ w.cell? ⟨b, 4, none⟩ = some (.int .i64 0) :=
  ⟨World.rowIs.cell h (by decide), World.rowIs.cell h (by decide), World.rowIs.cell h (by decide), World.rowIs.cell h (by decide), World.rowIs.cell h (by decide)⟩
theorem ZRow.free {w : World} {b : Nat} (h : ZRow w b) : w.frozen? ⟨b, 0, none⟩ = false ∧ w.frozen? ⟨b, 1, none⟩ = false ∧ w.frozen? ⟨b, 2, none⟩ = false ∧ w.frozen? ⟨b, 3, none⟩ = false ∧ w.frozen? ⟨b, 4, none⟩ = false :=
  ⟨World.rowIs.frozen h 0, World.rowIs.frozen h 1, World.rowIs.frozen h 2, World.rowIs.frozen h 3, World.rowIs.frozen h 4⟩
/-- The answer as a value. -/
noncomputable def parV (l : List UInt8) : Value := .tuple #[.agg #[.int .i64 (parE l).1.f, .int .i64 (parE l).1.t, .int .i64 (parE l).1.a, .int .i64 (parE l).1.m, .int .i64 (parE l).1.y], .bool (parE l).2]
theorem parV_of {l : List UInt8} {b : En} {ok : Bool} (h : parE l = (b, ok)) : parV l = .tuple #[.agg #[.int .i64 b.f, .int .i64 b.t, .int .i64 b.a, .int .i64 b.m, .int .i64 b.y], .bool ok] := by unfold parV; rw [h]
theorem below_set5 {w w' : World} {b : Nat} (h : Below b w w') (u0 u1 u2 u3 u4 : Value) : Below b w (((((w'.setCell ⟨b, 0, none⟩ u0).setCell ⟨b, 1, none⟩ u1).setCell ⟨b, 2, none⟩ u2).setCell ⟨b, 3, none⟩ u3).setCell ⟨b, 4, none⟩ u4) :=
  ((((h.setCell (Nat.le_refl _) _).setCell (Nat.le_refl _) _).setCell (Nat.le_refl _) _).setCell (Nat.le_refl _) _).setCell (Nat.le_refl _) _
theorem set5_at {w : World} {b : Nat} (h : ZRow w b) (q : En) : BxE (((((w.setCell ⟨b, 0, none⟩ (.int .i64 q.f)).setCell ⟨b, 1, none⟩ (.int .i64 q.t)).setCell ⟨b, 2, none⟩ (.int .i64 q.a)).setCell ⟨b, 3, none⟩ (.int .i64 q.m)).setCell ⟨b, 4, none⟩ (.int .i64 q.y)) b q := by
  have h5 := World.rowIs.set (World.rowIs.set (World.rowIs.set (World.rowIs.set (World.rowIs.set h 0 (.int .i64 q.f)) 1 (.int .i64 q.t)) 2 (.int .i64 q.a)) 3 (.int .i64 q.m)) 4 (.int .i64 q.y)
  exact ⟨World.rowIs.cell h5 (by decide), World.rowIs.cell h5 (by decide), World.rowIs.cell h5 (by decide), World.rowIs.cell h5 (by decide), World.rowIs.cell h5 (by decide)⟩
theorem mk5 : ∀ W : World, (Instr.makeSlice 24 (.int .i64 5) (.int .i64 5)).run Tryd.prog W = .ok (.slice (some ⟨W.heap.size, 0, none⟩) 5 5) (W.alloc (.cells (madeCells #[.int .i64 0] 5) 3)) := fun W =>
  run_make_row' 24 3 (.int .i64 0) 8 Tryd.underlying24 (by kernel_rfl) rfl .i64 .i64 5 (by omega) (by omega) W
set_option maxRecDepth 100000 in
set_option maxHeartbeats 2000000 in
theorem pare_spec (s : ByteArray) (w : World) (hl : s.size ≤ 1048576) :
    Calls Tryd.prog 34 #[.string s] w fun e w' => e = .returned (parV s.data.toList) ∧ Below w.heap.size w w' := by
  have hmk := mk5
  have HB0 := vl ((Below.refl w.heap.size w).alloc (Nat.le_refl _) (.cells #[.int .i64 0, .int .i64 0, .int .i64 0, .int .i64 0, .int .i64 0] 36))
  have HR0 := vl (zrow w)
  go_enter Tryd.func34, Tryd.ntmps34
  go_wp2_with fail
  refine (split4 s _ hl).mono ?_
  rintro e w1 ⟨A1, c1, rfl, ho, hb1⟩
  have HB1 := vl (HB0.out.trans (hb1.mono HB0.out.size))
  have HR1 := vl (HR0.out.below hb1)
  have HO1 := vl ho
  have HL := vl (show ∀ f ∈ spl [] s.data.toList, f.length ≤ 1048576 from fun f hf => by have := spl_len _ _ _ hf; simp at this; omega)
  have HF := vl (show spl [] s.data.toList = spl [] s.data.toList from rfl)
  generalize hfs : spl [] s.data.toList = fs at HO1 HL ⊢
  have HFS := vl hfs
  clear hb1 ho HB0 HR0 HF hfs
  have HA := vl (World.rowIs_made w1 (.int .i64 0) 5 3)
  have hs1 := HB1.out.size
  have hs1' : w.heap.size < w1.heap.size := World.rowIs.lt HR1.out
  go_wp2
  clear hmk
  go_loopw [6] (fun i wr => ∃ k : Nat, k ≤ 5 ∧ k ≤ fs.length ∧ i = .int .i64 k ∧ Veil (Below w.heap.size w wr) ∧ Veil (ZRow wr w.heap.size) ∧ Veil (wr.ownsRow (w.heap.size + 1) 9 1 (.slice A1 fs.length c1) fs.length (strs fs)) ∧ Veil (wr.rowIs w1.heap.size 3 5 (fun j => .int .i64 (if j < k then nums fs j else 0))) ∧ Veil (∀ b, (Value.slice A1 fs.length c1).ownBlock = some b → b < w1.heap.size)) (fun i _ => 5 - (intOf i).toNat)
  case atStart =>
    have hal := Below.refl w1.heap.size w1
    exact ⟨0, by omega, by omega, rfl, vl (HB1.out.alloc HB1.out.size _), vl (HR1.out.below (hal.alloc (Nat.le_refl _) _)), vl (by have := HO1.out.alloc (.cells (madeCells #[.int .i64 0] 5) 3); rw [World.size_alloc] at this; exact this), vl (HA.out.congr fun j hj => by simp), vl (fun b hb => (HO1.out.lt b hb).2)⟩
  case round =>
    obtain ⟨k, hk, hkf, rfl, HB, HR, HO, HW, HNE⟩ := hrel
    clear HB1 HR1 HO1 HA
    by_cases hlt : k < fs.length ∧ k < 5
    · obtain ⟨hl1, hl2⟩ := hlt
      obtain ⟨g, cap, hv, hg, hgl⟩ := HO.out.form (by omega)
      injection hv with hv1 _ hv2
      subst hv1 hv2
      have hgne : g ≠ w1.heap.size := by have := HNE.out g rfl; omega
      have cs := HO.out.cellAt k (by omega)
      rw [strs_at _ _ hl1] at cs
      obtain ⟨f, hf⟩ : ∃ f, f = fs.getD k [] := ⟨_, rfl⟩
      have hlen : (⟨f.toArray⟩ : ByteArray).size ≤ 1048576 := by rw [str_size, hf]; exact getD_len HL.out
      have HN := vl (show pv f = nums fs k from by unfold nums; rw [if_pos hl1, hf])
      rw [← hf] at cs
      clear hf
      have HWz := vl (World.rowIs.frozen HW.out k)
      go_wp2_with fail
      refine (parse_spec _ _ (by omega)).mono ?_
      rintro e w2 ⟨rfl, hb2⟩
      rw [pv_res]
      have HB2 := vl (HB.out.trans (hb2.mono HB.out.size))
      have HR2 := vl (HR.out.below hb2)
      have HO2 := vl (own_below HO.out hb2)
      have HW2 := vl (World.rowIs.of_block HW.out (hb2.block _ (World.rowIs.lt HW.out)))
      have ck := World.rowIs.cell HW2.out (i := k) hl2
      have zk := World.rowIs.frozen HW2.out k
      have e0 : (⟨f.toArray⟩ : ByteArray).data.toList = f := rfl
      rw [e0]
      generalize pv f = z at HN ⊢
      generalize parseOk f = ok
      have hws := HB.out.size
      have hw12 := World.rowIs.lt HW2.out
      have hgs := HO2.out.lt g rfl
      have HBs := vl (show Below w.heap.size w (w2.setCell ⟨w1.heap.size, k, none⟩ (.int .i64 z)) from HB2.out.setCell (by show w.heap.size ≤ w1.heap.size; exact hs1) _)
      have HRs := vl (show ZRow (w2.setCell ⟨w1.heap.size, k, none⟩ (.int .i64 z)) w.heap.size from HR2.out.set (by omega))
      have HOs := vl (show (w2.setCell ⟨w1.heap.size, k, none⟩ (.int .i64 z)).ownsRow (w.heap.size + 1) 9 1 (.slice (some ⟨g, 0, none⟩) fs.length c1) fs.length (strs fs) from own_setE HO2.out (fun q hq => by injection hq with hq; subst hq; exact hgne))
      have HWs := vl (show (w2.setCell ⟨w1.heap.size, k, none⟩ (.int .i64 z)).rowIs w1.heap.size 3 5 (fun j => .int .i64 (if j < k + 1 then nums fs j else 0)) from World.rowIs.congr (World.rowIs.set HW2.out k (.int .i64 z)) (fun j hj => by
        show (if j = k then Value.int .i64 z else .int .i64 (if j < k then nums fs j else 0)) = _
        by_cases h : j = k
        · subst h; rw [if_pos rfl, if_pos (by omega), HN.out]
        · rw [if_neg h]
          by_cases h2 : j < k
          · rw [if_pos h2, if_pos (by omega)]
          · rw [if_neg h2, if_neg (by omega)]))
      clear hb2 cs hlen e0 HWz HB HR HO HW
      go_wp2
      go_roundw
      case rel => exact ⟨k + 1, by omega, by omega, by go_num, HBs, HRs, HOs, HWs, HNE⟩
      case measure => simp [intOf]; omega
    · have HG := vl (show ∀ i, i < 5 → (if i < k then nums fs i else 0) = nums fs i from fun i hi => by
        by_cases h : i < k
        · rw [if_pos h]
        · rw [if_neg h]; unfold nums; rw [if_neg (by omega)])
      have HW3 := vl (World.rowIs.congr HW.out (g := fun i => .int .i64 (nums fs i)) (fun i hi => by rw [HG.out i hi]))
      have HO3 := HO
      clear HO HW HG HL
      obtain ⟨G, hG⟩ : ∃ G, G = nums fs := ⟨_, rfl⟩
      rw [← hG] at HW3
      have HGG := vl hG
      clear hG
      obtain ⟨q, hq⟩ : ∃ q : En, q = mkEn G := ⟨_, rfl⟩
      have d0 : wr.cell? ⟨w1.heap.size, 0, none⟩ = some (.int .i64 q.f) := by rw [hq]; exact World.rowIs.cell HW3.out (i := 0) (by decide)
      have d1 : wr.cell? ⟨w1.heap.size, 1, none⟩ = some (.int .i64 q.t) := by rw [hq]; exact World.rowIs.cell HW3.out (i := 1) (by decide)
      have d2 : wr.cell? ⟨w1.heap.size, 2, none⟩ = some (.int .i64 q.a) := by rw [hq]; exact World.rowIs.cell HW3.out (i := 2) (by decide)
      have d3 : wr.cell? ⟨w1.heap.size, 3, none⟩ = some (.int .i64 q.m) := by rw [hq]; exact World.rowIs.cell HW3.out (i := 3) (by decide)
      have d4 : wr.cell? ⟨w1.heap.size, 4, none⟩ = some (.int .i64 q.y) := by rw [hq]; exact World.rowIs.cell HW3.out (i := 4) (by decide)
      have HQ := vl (show q = mkEn (nums fs) from by rw [hq, HGG.out])
      clear hq
      have hcase : fs.length ≤ k ∨ (k = 5 ∧ 5 < fs.length) := by omega
      have HX := vl (BxE.new wr (q) 36)
      have hkl : k ≤ 5 := hk
      clear hlt
      rcases hcase with hl1 | ⟨rfl, hl1⟩
      all_goals
        go_wp2
        refine wp_region_last2 (fun w' => w'.cell? ⟨w1.heap.size, 0, none⟩ = some (.int .i64 q.f) ∧ w'.cell? ⟨w1.heap.size, 1, none⟩ = some (.int .i64 q.t) ∧ w'.cell? ⟨w1.heap.size, 2, none⟩ = some (.int .i64 q.a) ∧ w'.cell? ⟨w1.heap.size, 3, none⟩ = some (.int .i64 q.m) ∧ w'.cell? ⟨w1.heap.size, 4, none⟩ = some (.int .i64 q.y) ∧ Below wr.heap.size wr w') (by kernel_rfl) (by simp only [List.pop_toArray, List.dropLast_cons_cons, List.dropLast_singleton]; rfl) (by rfl) (by rfl) (by kernel_rfl) ⟨d0, d1, d2, d3, d4, (Below.refl _ _).drew⟩ (fun hHeld => ?_)
        try dsimp only at hHeld
        refine wpAnyH_take (i := 0) (oi := _) (v := ?_) rfl (by kernel_rfl) (by kernel_rfl) (by kernel_rfl) (fun _ _ _ h => h) (Or.inl ⟨by rfl, ?_⟩) (by assumption) ?_
        rotate_left 1
        · intro w hSw
          try dsimp only at hSw
          go_simp
          try with_reducible rfl
        try simp only [Act.put, List.getElem_toArray, List.getElem_cons_succ, List.getElem_cons_zero, List.setIfInBounds_toArray, List.set_cons_zero, List.set_cons_succ]
        refine wpAnyH_take (i := 1) (oi := _) (v := ?_) rfl (by kernel_rfl) (by kernel_rfl) (by kernel_rfl) (fun _ _ _ h => h) (Or.inl ⟨by rfl, ?_⟩) (by assumption) ?_
        rotate_left 1
        · intro w hSw
          try dsimp only at hSw
          go_simp
          try with_reducible rfl
        try simp only [Act.put, List.getElem_toArray, List.getElem_cons_succ, List.getElem_cons_zero, List.setIfInBounds_toArray, List.set_cons_zero, List.set_cons_succ]
        refine wpAnyH_take (i := 2) (oi := _) (v := ?_) rfl (by kernel_rfl) (by kernel_rfl) (by kernel_rfl) (fun _ _ _ h => h) (Or.inl ⟨by rfl, ?_⟩) (by assumption) ?_
        rotate_left 1
        · intro w hSw
          try dsimp only at hSw
          go_simp
          try with_reducible rfl
        try simp only [Act.put, List.getElem_toArray, List.getElem_cons_succ, List.getElem_cons_zero, List.setIfInBounds_toArray, List.set_cons_zero, List.set_cons_succ]
        refine wpAnyH_take (i := 3) (oi := _) (v := ?_) rfl (by kernel_rfl) (by kernel_rfl) (by kernel_rfl) (fun _ _ _ h => h) (Or.inl ⟨by rfl, ?_⟩) (by assumption) ?_
        rotate_left 1
        · intro w hSw
          try dsimp only at hSw
          go_simp
          try with_reducible rfl
        try simp only [Act.put, List.getElem_toArray, List.getElem_cons_succ, List.getElem_cons_zero, List.setIfInBounds_toArray, List.set_cons_zero, List.set_cons_succ]
        refine wpAnyH_take (i := 4) (oi := _) (v := ?_) rfl (by kernel_rfl) (by kernel_rfl) (by kernel_rfl) (fun _ _ _ h => h) (Or.inl ⟨by rfl, ?_⟩) (by assumption) ?_
        rotate_left 1
        · intro w hSw
          try dsimp only at hSw
          go_simp
          try with_reducible rfl
        try simp only [Act.put, List.getElem_toArray, List.getElem_cons_succ, List.getElem_cons_zero, List.setIfInBounds_toArray, List.set_cons_zero, List.set_cons_succ]
        refine wpAnyH_take (i := 5) (oi := _) (v := ?_) rfl (by kernel_rfl) (by kernel_rfl) (by kernel_rfl) (fun _ _ _ h => h) (Or.inl ⟨by rfl, ?_⟩) (by assumption) ?_
        rotate_left 1
        · intro w hSw
          try dsimp only at hSw
          go_simp
          try with_reducible rfl
        try simp only [Act.put, List.getElem_toArray, List.getElem_cons_succ, List.getElem_cons_zero, List.setIfInBounds_toArray, List.set_cons_zero, List.set_cons_succ]
        refine wpAnyH_take (i := 6) (oi := _) (v := ?_) rfl (by kernel_rfl) (by kernel_rfl) (by kernel_rfl) (fun _ _ _ h => h) (Or.inl ⟨by rfl, ?_⟩) (by assumption) ?_
        rotate_left 1
        · intro w hSw
          try dsimp only at hSw
          go_simp
          try with_reducible rfl
        try simp only [Act.put, List.getElem_toArray, List.getElem_cons_succ, List.getElem_cons_zero, List.setIfInBounds_toArray, List.set_cons_zero, List.set_cons_succ]
        refine wpAnyH_take (i := 7) (oi := _) (v := ?_) rfl (by kernel_rfl) (by kernel_rfl) (by kernel_rfl) (fun _ _ _ h => h) (Or.inl ⟨by rfl, ?_⟩) (by assumption) ?_
        rotate_left 1
        · intro w hSw
          try dsimp only at hSw
          go_simp
          try with_reducible rfl
        try simp only [Act.put, List.getElem_toArray, List.getElem_cons_succ, List.getElem_cons_zero, List.setIfInBounds_toArray, List.set_cons_zero, List.set_cons_succ]
        refine wpAnyH_take (i := 8) (oi := _) (v := ?_) rfl (by kernel_rfl) (by kernel_rfl) (by kernel_rfl) (fun _ _ _ h => h) (Or.inl ⟨by rfl, ?_⟩) (by assumption) ?_
        rotate_left 1
        · intro w hSw
          try dsimp only at hSw
          go_simp
          try with_reducible rfl
        try simp only [Act.put, List.getElem_toArray, List.getElem_cons_succ, List.getElem_cons_zero, List.setIfInBounds_toArray, List.set_cons_zero, List.set_cons_succ]
        refine wpAnyH_take (i := 9) (oi := _) (v := ?_) rfl (by kernel_rfl) (by kernel_rfl) (by kernel_rfl) (fun _ _ _ h => h) (Or.inl ⟨by rfl, ?_⟩) (by assumption) ?_
        rotate_left 1
        · intro w hSw
          try dsimp only at hSw
          go_simp
          try with_reducible rfl
        try simp only [Act.put, List.getElem_toArray, List.getElem_cons_succ, List.getElem_cons_zero, List.setIfInBounds_toArray, List.set_cons_zero, List.set_cons_succ]
        refine wpAnyH_take (i := 10) (oi := _) (v := ?_) rfl (by kernel_rfl) (by kernel_rfl) (by kernel_rfl) (fun _ _ _ h => h) (Or.inl ⟨by rfl, ?_⟩) (by assumption) ?_
        rotate_left 1
        · intro w hSw
          try dsimp only at hSw
          go_simp
          try with_reducible rfl
        try simp only [Act.put, List.getElem_toArray, List.getElem_cons_succ, List.getElem_cons_zero, List.setIfInBounds_toArray, List.set_cons_zero, List.set_cons_succ]
        refine wpAnyH_take (i := 11) (oi := _) (v := ?_) rfl (by kernel_rfl) (by kernel_rfl) (by kernel_rfl) (fun _ _ _ h => h) (Or.inl ⟨by rfl, ?_⟩) (by assumption) ?_
        rotate_left 1
        · intro w hSw
          try dsimp only at hSw
          go_simp
          try with_reducible rfl
        try simp only [Act.put, List.getElem_toArray, List.getElem_cons_succ, List.getElem_cons_zero, List.setIfInBounds_toArray, List.set_cons_zero, List.set_cons_succ]
        refine wpAnyH_take (i := 12) (oi := _) (v := ?_) rfl (by kernel_rfl) (by kernel_rfl) (by kernel_rfl) (fun _ _ _ h => h) (Or.inl ⟨by rfl, ?_⟩) (by assumption) ?_
        rotate_left 1
        · intro w hSw
          try dsimp only at hSw
          go_simp
          try with_reducible rfl
        try simp only [Act.put, List.getElem_toArray, List.getElem_cons_succ, List.getElem_cons_zero, List.setIfInBounds_toArray, List.set_cons_zero, List.set_cons_succ]
        refine wpAnyH_take (i := 13) (oi := _) (v := ?_) rfl (by kernel_rfl) (by kernel_rfl) (by kernel_rfl) (fun _ _ _ h => h) (Or.inl ⟨by rfl, ?_⟩) (by assumption) ?_
        rotate_left 1
        · intro w hSw
          try dsimp only at hSw
          go_simp
          try with_reducible rfl
        try simp only [Act.put, List.getElem_toArray, List.getElem_cons_succ, List.getElem_cons_zero, List.setIfInBounds_toArray, List.set_cons_zero, List.set_cons_succ]
        refine wpAnyH_take (i := 14) (oi := _) (v := ?_) rfl (by kernel_rfl) (by kernel_rfl) (by kernel_rfl) (fun _ _ _ h => h) (Or.inl ⟨by rfl, ?_⟩) (by assumption) ?_
        rotate_left 1
        · intro w hSw
          try dsimp only at hSw
          go_simp
          try with_reducible rfl
        try simp only [Act.put, List.getElem_toArray, List.getElem_cons_succ, List.getElem_cons_zero, List.setIfInBounds_toArray, List.set_cons_zero, List.set_cons_succ]
        refine wpAnyH_take (i := 15) (oi := _) (v := ?_) rfl (by kernel_rfl) (by kernel_rfl) (by kernel_rfl) (fun _ _ _ h => h) (Or.inl ⟨by rfl, ?_⟩) (by assumption) ?_
        rotate_left 1
        · intro w hSw
          try dsimp only at hSw
          go_simp
          try with_reducible rfl
        try simp only [Act.put, List.getElem_toArray, List.getElem_cons_succ, List.getElem_cons_zero, List.setIfInBounds_toArray, List.set_cons_zero, List.set_cons_succ]
        refine wpAnyH_ready (rs := [16]) (by kernel_rfl) (by simp) ?_
        refine AllReadyH.cons (o := _) rfl (fun K hK => ?_) AllReadyH.nil
        go_simp
        have hAl := (Below.refl wr.heap.size wr).drew.alloc (Nat.le_refl _) (.cells #[.int .i64 0, .int .i64 0, .int .i64 0, .int .i64 0, .int .i64 0] 36)
        refine hK.out _ _ ⟨(hAl.cell (cell_lt' d0)).trans d0, (hAl.cell (cell_lt' d1)).trans d1, (hAl.cell (cell_lt' d2)).trans d2, (hAl.cell (cell_lt' d3)).trans d3, (hAl.cell (cell_lt' d4)).trans d4, hAl⟩ (fun hHeld => ?_)
        clear hK K
        try simp only [Act.put, List.getElem_toArray, List.getElem_cons_succ, List.getElem_cons_zero, List.setIfInBounds_toArray, List.set_cons_zero, List.set_cons_succ]
        refine wpAnyH_done (by kernel_rfl) ?_ _
        unfold QL
        go_simp
        clear hHeld d0 d1 d2 d3 d4
        have HB4 := vl ((HB.out.alloc HB.out.size (.cells #[.int .i64 q.f, .int .i64 q.t, .int .i64 q.a, .int .i64 q.m, .int .i64 q.y] 36)).drew)
        have HX4 := vl (show BxE ((wr.alloc (.cells #[.int .i64 q.f, .int .i64 q.t, .int .i64 q.a, .int .i64 q.m, .int .i64 q.y] 36)).drew) wr.heap.size (q) from HX.out)
        have HR4 := vl (show ZRow ((wr.alloc (.cells #[.int .i64 q.f, .int .i64 q.t, .int .i64 q.a, .int .i64 q.m, .int .i64 q.y] 36)).drew) w.heap.size from HR.out.below ((Below.refl _ _).alloc (Nat.le_refl _) (.cells #[.int .i64 q.f, .int .i64 q.t, .int .i64 q.a, .int .i64 q.m, .int .i64 q.y] 36)).drew)
        generalize (wr.alloc (.cells #[.int .i64 q.f, .int .i64 q.t, .int .i64 q.a, .int .i64 q.m, .int .i64 q.y] 36)).drew = w4 at HB4 HX4 HR4 ⊢
        obtain ⟨x0, x1, x2, x3, x4⟩ := HX4.out
        obtain ⟨z0, z1, z2, z3, z4⟩ := HR4.out.at
        obtain ⟨f0, f1, f2, f3, f4⟩ := HR4.out.free
        clear HR HX HO3 HW3 HNE HB
        by_cases h0 : s = ⟨#[]⟩
        · have HRES := vl (show parE s.data.toList = (zEn, false) from enRes_no (Or.inl (by rw [h0])))
          have he : s.toList = [] := by rw [ByteArray.toList_eq, h0]
          have he2 : s.toList.isEmpty = true := by rw [he]; rfl
          clear h0
          go_wp2
          have HBZ := vl (below_set5 HB4.out (.int .i64 0) (.int .i64 0) (.int .i64 0) (.int .i64 0) (.int .i64 0))
          obtain ⟨r0, r1, r2, r3, r4⟩ := (show BxE (((((w4.setCell ⟨w.heap.size, 0, none⟩ (.int .i64 0)).setCell ⟨w.heap.size, 1, none⟩ (.int .i64 0)).setCell ⟨w.heap.size, 2, none⟩ (.int .i64 0)).setCell ⟨w.heap.size, 3, none⟩ (.int .i64 0)).setCell ⟨w.heap.size, 4, none⟩ (.int .i64 0)) w.heap.size zEn from set5_at HR4.out zEn)
          simp only [zEn] at r0 r1 r2 r3 r4
          change bodyPost _ _ _ _ _ (((((w4.setCell ⟨w.heap.size, 0, none⟩ (.int .i64 0)).setCell ⟨w.heap.size, 1, none⟩ (.int .i64 0)).setCell ⟨w.heap.size, 2, none⟩ (.int .i64 0)).setCell ⟨w.heap.size, 3, none⟩ (.int .i64 0)).setCell ⟨w.heap.size, 4, none⟩ (.int .i64 0))
          generalize hW9 : (((((w4.setCell ⟨w.heap.size, 0, none⟩ (.int .i64 0)).setCell ⟨w.heap.size, 1, none⟩ (.int .i64 0)).setCell ⟨w.heap.size, 2, none⟩ (.int .i64 0)).setCell ⟨w.heap.size, 3, none⟩ (.int .i64 0)).setCell ⟨w.heap.size, 4, none⟩ (.int .i64 0)) = w9 at HBZ r0 r1 r2 r3 r4 ⊢
          clear hW9
          refine bodyPost_ret (v := .tuple #[.agg #[.int .i64 zEn.f, .int .i64 zEn.t, .int .i64 zEn.a, .int .i64 zEn.m, .int .i64 zEn.y], .bool false]) (by simp [results, Tryd.results34, go_sem, r0, r1, r2, r3, r4, zEn]) rfl ?_
          exact ⟨congrArg Ending.returned (parV_of HRES.out).symm, HBZ.out⟩
        · have HS := vl (show (s.data.toList ≠ []) from fun e => h0 (by apply ByteArray.ext; exact Array.ext' e))
          have hne : ¬ s.toList = [] := by rw [ByteArray.toList_eq]; exact HS.out
          have hne2 : s.toList.isEmpty = false := by rw [List.isEmpty_eq_false_iff]; exact hne
          clear h0
          go_wp2_with fail
          refine (fmte_spec q _).mono ?_
          rintro e w5 ⟨rfl, hb5⟩
          have HB5 := vl (HB4.out.trans (hb5.mono HB4.out.size))
          have HX5 := vl (HX4.out.below hb5)
          have HR5 := vl (HR4.out.below hb5)
          clear hb5 x0 x1 x2 x3 x4 z0 z1 z2 z3 z4 f0 f1 f2 f3 f4 HX4 HR4 HB4
          obtain ⟨x0, x1, x2, x3, x4⟩ := HX5.out
          obtain ⟨z0, z1, z2, z3, z4⟩ := HR5.out.at
          obtain ⟨f0, f1, f2, f3, f4⟩ := HR5.out.free
          by_cases heq : fmtE q = s.data.toList
          · have HRES := vl (show parE s.data.toList = (q, true) from by unfold parE; rw [HFS.out, HQ.out]; exact enRes_yes HS.out (by rw [← HQ.out]; exact heq))
            have HE := vl (show (⟨(fmtE q).toArray⟩ : ByteArray) = s from by rw [heq])
            rw [HE.out]
            clear heq
            go_wp2
            have HBZ := vl (below_set5 HB5.out (.int .i64 q.f) (.int .i64 q.t) (.int .i64 q.a) (.int .i64 q.m) (.int .i64 q.y))
            obtain ⟨r0, r1, r2, r3, r4⟩ := set5_at HR5.out q
            change bodyPost _ _ _ _ _ (((((w5.setCell ⟨w.heap.size, 0, none⟩ (.int .i64 q.f)).setCell ⟨w.heap.size, 1, none⟩ (.int .i64 q.t)).setCell ⟨w.heap.size, 2, none⟩ (.int .i64 q.a)).setCell ⟨w.heap.size, 3, none⟩ (.int .i64 q.m)).setCell ⟨w.heap.size, 4, none⟩ (.int .i64 q.y))
            generalize hW9 : (((((w5.setCell ⟨w.heap.size, 0, none⟩ (.int .i64 q.f)).setCell ⟨w.heap.size, 1, none⟩ (.int .i64 q.t)).setCell ⟨w.heap.size, 2, none⟩ (.int .i64 q.a)).setCell ⟨w.heap.size, 3, none⟩ (.int .i64 q.m)).setCell ⟨w.heap.size, 4, none⟩ (.int .i64 q.y)) = w9 at HBZ r0 r1 r2 r3 r4 ⊢
            clear hW9
            refine bodyPost_ret (v := .tuple #[.agg #[.int .i64 q.f, .int .i64 q.t, .int .i64 q.a, .int .i64 q.m, .int .i64 q.y], .bool true]) (by simp [results, Tryd.results34, go_sem, r0, r1, r2, r3, r4]) rfl ?_
            exact ⟨congrArg Ending.returned (parV_of HRES.out).symm, HBZ.out⟩
          · have HRES := vl (show parE s.data.toList = (zEn, false) from by unfold parE; rw [HFS.out]; exact enRes_no (Or.inr (by rw [← HQ.out]; exact heq)))
            have hnb : ¬ (⟨(fmtE q).toArray⟩ : ByteArray).toList = s.toList := by rw [ByteArray.toList_eq, ByteArray.toList_eq]; exact heq
            generalize (⟨(fmtE q).toArray⟩ : ByteArray) = tb at hnb ⊢
            have hnb2 : (tb.toList == s.toList) = false := by rw [beq_eq_false_iff_ne]; exact hnb
            clear heq
            go_wp2
            have HBZ := vl (below_set5 HB5.out (.int .i64 0) (.int .i64 0) (.int .i64 0) (.int .i64 0) (.int .i64 0))
            obtain ⟨r0, r1, r2, r3, r4⟩ := (show BxE (((((w5.setCell ⟨w.heap.size, 0, none⟩ (.int .i64 0)).setCell ⟨w.heap.size, 1, none⟩ (.int .i64 0)).setCell ⟨w.heap.size, 2, none⟩ (.int .i64 0)).setCell ⟨w.heap.size, 3, none⟩ (.int .i64 0)).setCell ⟨w.heap.size, 4, none⟩ (.int .i64 0)) w.heap.size zEn from set5_at HR5.out zEn)
            simp only [zEn] at r0 r1 r2 r3 r4
            change bodyPost _ _ _ _ _ (((((w5.setCell ⟨w.heap.size, 0, none⟩ (.int .i64 0)).setCell ⟨w.heap.size, 1, none⟩ (.int .i64 0)).setCell ⟨w.heap.size, 2, none⟩ (.int .i64 0)).setCell ⟨w.heap.size, 3, none⟩ (.int .i64 0)).setCell ⟨w.heap.size, 4, none⟩ (.int .i64 0))
            generalize hW9 : (((((w5.setCell ⟨w.heap.size, 0, none⟩ (.int .i64 0)).setCell ⟨w.heap.size, 1, none⟩ (.int .i64 0)).setCell ⟨w.heap.size, 2, none⟩ (.int .i64 0)).setCell ⟨w.heap.size, 3, none⟩ (.int .i64 0)).setCell ⟨w.heap.size, 4, none⟩ (.int .i64 0)) = w9 at HBZ r0 r1 r2 r3 r4 ⊢
            clear hW9
            refine bodyPost_ret (v := .tuple #[.agg #[.int .i64 zEn.f, .int .i64 zEn.t, .int .i64 zEn.a, .int .i64 zEn.m, .int .i64 zEn.y], .bool false]) (by simp [results, Tryd.results34, go_sem, r0, r1, r2, r3, r4, zEn]) rfl ?_
            exact ⟨congrArg Ending.returned (parV_of HRES.out).symm, HBZ.out⟩
end Go.Proofs.YtclofbknbfmmlaaDoor.C1
