/- The standing of a call, and ComesBefore, of the program. -/
import Derived.Test.YtmfeleocjmdooaaSg
namespace Go.Proofs.Ytmfeleocjmdooaa.C1
open Go.ChangeShapes Go.WideShapes Go.ChangeAt Go.RowKit
set_option linter.unusedVariables false
set_option linter.unusedSimpArgs false

/-- Block b is just five cells. -/
def Bx5 (w : World) (b : Nat) (x y z u v : Value) (t : TypeId) : Prop := w.heap[b]? = some (.cells #[x, y, z, u, v] t (0, 0))
section
variable {w w' : World} {b : Nat} {x y z u v : Value} {t : TypeId}
theorem Bx5.lt (h : Bx5 w b x y z u v t) : b < w.heap.size := (Array.getElem?_eq_some_iff.1 h).1
theorem Bx5.new (w : World) (x y z u v : Value) (t : TypeId) : Bx5 (w.alloc (.cells #[x, y, z, u, v] t)) w.heap.size x y z u v t := heap_alloc_new w _
theorem Bx5.alloc (h : Bx5 w b x y z u v t) (o : Obj) : Bx5 (w.alloc o) b x y z u v t := (Below.heap_alloc w o b h.lt).trans h
theorem Bx5.below (h : Bx5 w b x y z u v t) (hb : Below w.heap.size w w') : Bx5 w' b x y z u v t := (hb.block b h.lt).trans h
theorem Bx5.at (h : Bx5 w b x y z u v t) : w.cell? ⟨b, 0, none⟩ = some x ∧ w.cell? ⟨b, 1, none⟩ = some y ∧ w.cell? ⟨b, 2, none⟩ = some z ∧ w.cell? ⟨b, 3, none⟩ = some u ∧ w.cell? ⟨b, 4, none⟩ = some v := by
  unfold Bx5 at h
  unfold World.cell?
  simp [h]
theorem Bx5.free (h : Bx5 w b x y z u v t) : w.frozen? ⟨b, 0, none⟩ = false ∧ w.frozen? ⟨b, 1, none⟩ = false ∧ w.frozen? ⟨b, 2, none⟩ = false ∧ w.frozen? ⟨b, 3, none⟩ = false ∧ w.frozen? ⟨b, 4, none⟩ = false := by
  unfold Bx5 at h
  unfold World.frozen?
  simp [h]
theorem Bx5.set0 (h : Bx5 w b x y z u v t) (s : Value) : Bx5 (w.setCell ⟨b, 0, none⟩ s) b s y z u v t := by
  unfold Bx5 at *
  simp [World.setCell, Array.getElem?_modify, h]
theorem Bx5.set1 (h : Bx5 w b x y z u v t) (s : Value) : Bx5 (w.setCell ⟨b, 1, none⟩ s) b x s z u v t := by
  unfold Bx5 at *
  simp [World.setCell, Array.getElem?_modify, h]
theorem Bx5.set2 (h : Bx5 w b x y z u v t) (s : Value) : Bx5 (w.setCell ⟨b, 2, none⟩ s) b x y s u v t := by
  unfold Bx5 at *
  simp [World.setCell, Array.getElem?_modify, h]
theorem Bx5.set3 (h : Bx5 w b x y z u v t) (s : Value) : Bx5 (w.setCell ⟨b, 3, none⟩ s) b x y z s v t := by
  unfold Bx5 at *
  simp [World.setCell, Array.getElem?_modify, h]
theorem Bx5.set4 (h : Bx5 w b x y z u v t) (s : Value) : Bx5 (w.setCell ⟨b, 4, none⟩ s) b x y z u s t := by
  unfold Bx5 at *
  simp [World.setCell, Array.getElem?_modify, h]
end
/-- What standingOf leaves. -/
def GivesZ (w : World) (z : Sg) (b : Bool) (e : Ending) (w' : World) : Prop := e = .returned (.tuple #[.agg #[.int .i64 z.rk, .int .i64 z.bk, .int .i64 z.sc, .int .i64 z.fi, .int .i64 z.ix], .bool b]) ∧ Below w.heap.size w w'
def stZ (C : Cl) (now : Int) : Sg := if rkZ C now = 3 then ⟨0, 0, 0, 0, 0⟩ else sgOf C now
def waits (C : Cl) (now : Int) : Bool := decide (rkZ C now ≠ 3)
set_option maxRecDepth 100000 in
set_option maxHeartbeats 4000000 in
theorem standing_impl (C : Cl) (now : Int) (A : Option Addr) (c : Nat) (w : World) (hm : Mod C.T) (hp : Trn w A C.T) :
    Calls Try.prog 113 #[.agg #[.bool C.up, .slice A C.T.length c, .int .i64 C.s, .int .i64 C.b], .int .i64 now] w (GivesZ w (stZ C now) (waits C now)) := by
  have HM := vl hm
  have HP := vl ((hp.alloc (.cells #[.bool C.up, .slice A C.T.length c, .int .i64 C.s, .int .i64 C.b] 44)).alloc (.cells #[.int .i64 0, .int .i64 0, .int .i64 0, .int .i64 0, .int .i64 0] 120))
  have HB0 := vl (((Below.refl w.heap.size w).alloc (Nat.le_refl _) (.cells #[.bool C.up, .slice A C.T.length c, .int .i64 C.s, .int .i64 C.b] 44)).alloc (by simp) (.cells #[.int .i64 0, .int .i64 0, .int .i64 0, .int .i64 0, .int .i64 0] 120))
  have hx0 : CBox ((w.alloc (.cells #[.bool C.up, .slice A C.T.length c, .int .i64 C.s, .int .i64 C.b] 44)).alloc (.cells #[.int .i64 0, .int .i64 0, .int .i64 0, .int .i64 0, .int .i64 0] 120)) w.heap.size C.up A C.T.length c C.s C.b := (CBox.new w C.up A C.T.length c C.s C.b 44).below ((Below.refl _ _).alloc (Nat.le_refl _) _)
  have hy0 : Bx5 ((w.alloc (.cells #[.bool C.up, .slice A C.T.length c, .int .i64 C.s, .int .i64 C.b] 44)).alloc (.cells #[.int .i64 0, .int .i64 0, .int .i64 0, .int .i64 0, .int .i64 0] 120)) (w.heap.size + 1) (.int .i64 0) (.int .i64 0) (.int .i64 0) (.int .i64 0) (.int .i64 0) 120 := by
    have := Bx5.new (w.alloc (.cells #[.bool C.up, .slice A C.T.length c, .int .i64 C.s, .int .i64 C.b] 44)) (.int .i64 0) (.int .i64 0) (.int .i64 0) (.int .i64 0) (.int .i64 0) 120
    simpa using this
  have HX0 := vl hx0
  have HY0 := vl hy0
  obtain ⟨x0, x1, x2, x3⟩ := hx0
  clear hp hm hy0
  have hk := rk_bd (C := C) (now := now)
  have HS := vl (show stZ C now = if rkZ C now = 3 then ⟨0, 0, 0, 0, 0⟩ else ⟨rkZ C now, if rkZ C now = -1 then C.b else 0, C.s, fstZ C, 0⟩ from rfl)
  have HW := vl (show waits C now = decide (rkZ C now ≠ 3) from rfl)
  have HOK := vl (fun h => rk_ok (C := C) (now := now) h)
  go_enter Try.func113, Try.ntmps113
  go_wp2_with fail
  refine (rank_impl C now A c _ HM.out HP.out).mono ?_
  rintro e w1 ⟨rfl, hb1⟩
  generalize rkZ C now = m at *
  have HB1 := vl (HB0.out.trans (hb1.mono HB0.out.size))
  have HX1 := vl (HX0.out.below hb1)
  have HY1 := vl (HY0.out.below hb1)
  have HP1 := vl (HP.out.below hb1)
  have q1 := HX1.out.lt
  have q2 := HY1.out.lt
  clear hb1 x0 x1 x2 x3 HX0 HY0 HP
  obtain ⟨x0, x1, x2, x3⟩ := HX1.out
  obtain ⟨y0, y1, y2, y3, y4⟩ := HY1.out.at
  obtain ⟨f0, f1, f2, f3, f4⟩ := HY1.out.free
  by_cases h3 : m = 3
  · subst h3
    have HS' := vl (HS.out.trans (if_pos rfl))
    have HW' := vl (HW.out.trans (decide_eq_false (by decide)))
    clear HS HW
    go_wp2
    refine bodyPost_ret (v := .tuple #[.agg #[.int .i64 0, .int .i64 0, .int .i64 0, .int .i64 0, .int .i64 0], .bool false]) (by simp [results, Try.results113, go_sem, y0, y1, y2, y3, y4]) rfl ?_
    exact ⟨by rw [HS'.out, HW'.out], by (repeat' (first | (with_reducible exact Below.refl _ _) | (with_reducible refine Below.drew ?_) | (with_reducible refine Below.alloc ?_ ?_ _) | (with_reducible refine Below.setCell ?_ ?_ _) | (with_reducible refine Below.trans ?_ (HB1.out.mono ?_)) | (first | omega | (simp; omega) | (simp; done))))⟩
  have h3' : (m == 3) = false := by simp [h3]
  have HTA := vl (clOk_iff.1 (HOK.out h3).1).t
  have hpa := idN_pos HTA.out
  have HS' := vl (HS.out.trans (if_neg h3))
  have HW' := vl (HW.out.trans (decide_eq_true h3))
  clear HS HW h3 HOK
  go_wp2
  generalize hpp : w.heap.size = p at *
  refine wp_region_held_drew (S := fun w' => w'.cell? ⟨p, 0, none⟩ = some (.bool C.up) ∧ w'.cell? ⟨p, 1, none⟩ = some (.slice A C.T.length c) ∧ w'.cell? ⟨p, 2, none⟩ = some (.int .i64 C.s) ∧ Below w1.heap.size w1 w') (by kernel_rfl) ⟨x0, x1, x2, (Below.refl _ _).drew⟩ (fun hHeld0 => ?_)
  clear x0 x1 x2 x3 y0 y1 y2 y3 y4 f0 f1 f2 f3 f4
  try dsimp only at hHeld0
  refine wpAnyH_take (i := 0) (oi := _) (v := ?_) rfl (by kernel_rfl) (by kernel_rfl) (by kernel_rfl) (fun _ _ _ h => h) (Or.inl ⟨by rfl, ?_⟩) (by assumption) ?_
  rotate_left 1
  · intro w hSw
    try dsimp only at hSw
    go_simp
    try with_reducible rfl
  try simp only [Act.put, List.setIfInBounds_toArray, List.set_cons_zero, List.set_cons_succ]
  refine wpAnyH_take (i := 1) (oi := _) (v := ?_) rfl (by kernel_rfl) (by kernel_rfl) (by kernel_rfl) (fun _ _ _ h => h) (Or.inl ⟨by rfl, ?_⟩) (by assumption) ?_
  rotate_left 1
  · intro w hSw
    try dsimp only at hSw
    go_simp
    try with_reducible rfl
  try simp only [Act.put, List.setIfInBounds_toArray, List.set_cons_zero, List.set_cons_succ]
  refine wpAnyH_take (i := 2) (oi := _) (v := ?_) rfl (by kernel_rfl) (by kernel_rfl) (by kernel_rfl) (fun _ _ _ h => h) (Or.inl ⟨by rfl, ?_⟩) (by assumption) ?_
  rotate_left 1
  · intro w hSw
    try dsimp only at hSw
    go_simp
    try with_reducible rfl
  try simp only [Act.put, List.setIfInBounds_toArray, List.set_cons_zero, List.set_cons_succ]
  refine wpAnyH_take (i := 3) (oi := _) (v := ?_) rfl (by kernel_rfl) (by kernel_rfl) (by kernel_rfl) (fun _ _ _ h => h) (Or.inl ⟨by rfl, ?_⟩) (by assumption) ?_
  rotate_left 1
  · intro w hSw
    try dsimp only at hSw
    go_simp
    try with_reducible rfl
  try simp only [Act.put, List.setIfInBounds_toArray, List.set_cons_zero, List.set_cons_succ]
  refine wpAnyH_take (i := 4) (oi := _) (v := ?_) rfl (by kernel_rfl) (by kernel_rfl) (by kernel_rfl) (fun _ _ _ h => h) (Or.inl ⟨by rfl, ?_⟩) (by assumption) ?_
  rotate_left 1
  · intro w hSw
    try dsimp only at hSw
    go_simp
    try with_reducible rfl
  try simp only [Act.put, List.setIfInBounds_toArray, List.set_cons_zero, List.set_cons_succ]
  refine wpAnyH_ready (rs := [5, 9]) (by kernel_rfl) (by simp) ?_
  refine AllReadyH.cons (o := _) rfl (fun K hK => ?_) (AllReadyH.cons (o := _) rfl (fun K hK => ?_) AllReadyH.nil)
  · obtain ⟨a0, a1, a2, hb7⟩ := hHeld0
    go_simp
    go_at_call 36
    with_reducible refine (idsof_impl C.up A c C.T _ HM.out (HP1.out.below hb7)).mono ?_
    rintro e w' ⟨⟨A', c', g, rfl, hr, _, hg, hl⟩, hb'⟩
    have ca : w'.cell? ⟨g, 0, none⟩ = some (.int .i64 (fstZ C)) := hr.2 0 (idN_pos HTA.out)
    obtain rfl := hr.1 (idN_pos HTA.out)
    have b0 := (hb'.cell (cell_lt' a0)).trans a0
    have b1 := (hb'.cell (cell_lt' a1)).trans a1
    have b2 := (hb'.cell (cell_lt' a2)).trans a2
    have hb8 := hb7.trans (hb'.mono hb7.size)
    clear hr hl
    go_simp
    refine hK.out _ _ ⟨b0, b1, b2, hb8⟩ (fun hHeld => ?_)
    clear hK K hHeld
    try simp only [Act.put, List.setIfInBounds_toArray, List.set_cons_zero, List.set_cons_succ]
    refine wpAnyH_strong (S' := fun w' => (w'.cell? ⟨p, 0, none⟩ = some (.bool C.up) ∧ w'.cell? ⟨p, 1, none⟩ = some (.slice A C.T.length c) ∧ w'.cell? ⟨p, 2, none⟩ = some (.int .i64 C.s) ∧ Below w1.heap.size w1 w') ∧ w'.cell? ⟨g, 0, none⟩ = some (.int .i64 (fstZ C))) (fun _ h => h.1) ?_
    have hHeld2 : (fun w' => (w'.cell? ⟨p, 0, none⟩ = some (.bool C.up) ∧ w'.cell? ⟨p, 1, none⟩ = some (.slice A C.T.length c) ∧ w'.cell? ⟨p, 2, none⟩ = some (.int .i64 C.s) ∧ Below w1.heap.size w1 w') ∧ w'.cell? ⟨g, 0, none⟩ = some (.int .i64 (fstZ C))) w' := ⟨⟨b0, b1, b2, hb8⟩, ca⟩
    try dsimp only at hHeld2
    refine wpAnyH_take (i := 6) (oi := _) (v := ?_) rfl (by kernel_rfl) (by kernel_rfl) (by kernel_rfl) (fun _ _ _ h => h) (Or.inl ⟨by rfl, ?_⟩) (by assumption) ?_
    rotate_left 1
    · intro w hSw
      try dsimp only at hSw
      go_simp
      try with_reducible rfl
    try simp only [Act.put, List.setIfInBounds_toArray, List.set_cons_zero, List.set_cons_succ]
    refine wpAnyH_take (i := 7) (oi := _) (v := ?_) rfl (by kernel_rfl) (by kernel_rfl) (by kernel_rfl) (fun _ _ _ h => h) (Or.inl ⟨by rfl, ?_⟩) (by assumption) ?_
    rotate_left 1
    · intro w hSw
      try dsimp only at hSw
      go_simp
      try with_reducible rfl
    try simp only [Act.put, List.setIfInBounds_toArray, List.set_cons_zero, List.set_cons_succ]
    refine wpAnyH_take (i := 8) (oi := _) (v := ?_) rfl (by kernel_rfl) (by kernel_rfl) (by kernel_rfl) (fun _ _ _ h => h) (Or.inl ⟨by rfl, ?_⟩) (by assumption) ?_
    rotate_left 1
    · intro w hSw
      try dsimp only at hSw
      go_simp
      try with_reducible rfl
    try simp only [Act.put, List.setIfInBounds_toArray, List.set_cons_zero, List.set_cons_succ]
    refine wpAnyH_ready (rs := [9]) (by kernel_rfl) (by simp) ?_
    refine AllReadyH.cons (o := _) rfl (fun K hK => ?_) AllReadyH.nil
    go_simp
    have hba := (Below.refl w'.heap.size w').alloc (Nat.le_refl _) (.cells #[.int .i64 0, .int .i64 0, .int .i64 0, .int .i64 0, .int .i64 0] 120)
    have hca := (hba.cell (cell_lt' ca)).trans ca
    refine hK.out _ _ ⟨⟨(hba.cell (cell_lt' b0)).trans b0, (hba.cell (cell_lt' b1)).trans b1, (hba.cell (cell_lt' b2)).trans b2, hb8.alloc hb8.size _⟩, hca⟩ (fun hHeld => ?_)
    clear hK K hHeld
    try simp only [Act.put, List.setIfInBounds_toArray, List.set_cons_zero, List.set_cons_succ]
    have hgr : g ≠ w'.heap.size := by have := cell_lt' ca; simp only at this; omega
    have hs8 := hb8.size
    have hst : Below w1.heap.size w1 (w'.alloc (.cells #[.int .i64 m, .int .i64 0, .int .i64 C.s, .int .i64 (fstZ C), .int .i64 0] 120)) := hb8.alloc hb8.size _
    refine wpAnyH_ready (rs := [10]) (by kernel_rfl) (by simp) ?_
    refine AllReadyH.cons (o := _) rfl (fun K hK => ?_) AllReadyH.nil
    go_simp
    have hxx : _ ∧ _ ∧ _ ∧ _ := HX1.out.below hst
    have HR4 := vl (Bx5.new w' (.int .i64 m) (.int .i64 0) (.int .i64 C.s) (.int .i64 (fstZ C)) (.int .i64 0) 120)
    have HX4 := vl hxx
    have HY4 := vl (HY1.out.below hst)
    have HB4 := vl (HB1.out.trans (hst.mono (by have := HB1.out.size; omega)))
    have hcg : (w'.alloc (.cells #[.int .i64 m, .int .i64 0, .int .i64 C.s, .int .i64 (fstZ C), .int .i64 0] 120)).cell? ⟨g, 0, none⟩ = some (.int .i64 (fstZ C)) := (((Below.refl w'.heap.size w').alloc (Nat.le_refl _) _).cell (cell_lt' ca)).trans ca
    with_reducible refine hK.out _ _ ⟨⟨hxx.1, hxx.2.1, hxx.2.2.1, hst⟩, hcg⟩ (fun hHeld3 => ?_)
    clear hK K hHeld3 hHeld2 hxx hcg
    try simp only [Act.put, List.setIfInBounds_toArray, List.set_cons_zero, List.set_cons_succ]
    refine wpAnyH_done (by kernel_rfl) ?_ _
    go_simp
    have hpr : ∀ j k : Nat, (⟨p + 1, j, none⟩ : Addr) ≠ ⟨w'.heap.size, k, none⟩ := fun j k h => by injection h with h _ _; omega
    generalize (w'.alloc (.cells #[.int .i64 m, .int .i64 0, .int .i64 C.s, .int .i64 (fstZ C), .int .i64 0] 120)) = W4 at *
    clear hst
    have q3 : p < W4.heap.size := cell_lt' HX4.out.1
    have q4 := HY4.out.lt
    have q5 := HR4.out.lt
    obtain ⟨x0, x1, x2, x3⟩ := HX4.out
    obtain ⟨r0, r1, r2, r3, r4⟩ := HR4.out.at
    obtain ⟨e0, e1, e2, e3, e4⟩ := HR4.out.free
    obtain ⟨y0, y1, y2, y3, y4⟩ := HY4.out.at
    obtain ⟨f0, f1, f2, f3, f4⟩ := HY4.out.free
    by_cases hm1 : m = -1
    · subst hm1
      rw [if_pos rfl] at HS'
      go_wp2
      refine bodyPost_ret (v := .tuple #[.agg #[.int .i64 (-1), .int .i64 C.b, .int .i64 C.s, .int .i64 (fstZ C), .int .i64 0], .bool true]) (by simp [results, Try.results113, go_sem, y0, y1, y2, y3, y4, hpr]) rfl ?_
      exact ⟨by rw [HS'.out, HW'.out], by (repeat' (first | (with_reducible exact Below.refl _ _) | (with_reducible refine Below.drew ?_) | (with_reducible refine Below.alloc ?_ ?_ _) | (with_reducible refine Below.setCell ?_ ?_ _) | (with_reducible refine Below.trans ?_ (HB4.out.mono ?_)) | (first | omega | (simp; omega) | (simp; done))))⟩
    · have hm1' : (m == -1) = false := by simp [hm1]
      rw [if_neg hm1] at HS'
      clear hm1
      go_wp2
      refine bodyPost_ret (v := .tuple #[.agg #[.int .i64 m, .int .i64 0, .int .i64 C.s, .int .i64 (fstZ C), .int .i64 0], .bool true]) (by simp [results, Try.results113, go_sem, y0, y1, y2, y3, y4, hpr]) rfl ?_
      exact ⟨by rw [HS'.out, HW'.out], by (repeat' (first | (with_reducible exact Below.refl _ _) | (with_reducible refine Below.drew ?_) | (with_reducible refine Below.alloc ?_ ?_ _) | (with_reducible refine Below.setCell ?_ ?_ _) | (with_reducible refine Below.trans ?_ (HB4.out.mono ?_)) | (first | omega | (simp; omega) | (simp; done))))⟩
  · go_simp
    obtain ⟨a0, a1, a2, hb7⟩ := hHeld0
    have hbx : Below w1.heap.size w1 (w1.alloc (.cells #[.int .i64 0, .int .i64 0, .int .i64 0, .int .i64 0, .int .i64 0] 120)).drew := ((Below.refl w1.heap.size w1).alloc (Nat.le_refl _) (.cells #[.int .i64 0, .int .i64 0, .int .i64 0, .int .i64 0, .int .i64 0] 120)).drew
    have a0 := (hbx.cell (cell_lt' a0)).trans a0
    have a1 := (hbx.cell (cell_lt' a1)).trans a1
    have a2 := (hbx.cell (cell_lt' a2)).trans a2
    refine hK.out _ _ ⟨a0, a1, a2, hbx⟩ (fun hHeld => ?_)
    clear hK K hHeld
    try simp only [Act.put, List.setIfInBounds_toArray, List.set_cons_zero, List.set_cons_succ]
    have hbox : Bx5 (w1.alloc (.cells #[.int .i64 0, .int .i64 0, .int .i64 0, .int .i64 0, .int .i64 0] 120)).drew w1.heap.size (.int .i64 0) (.int .i64 0) (.int .i64 0) (.int .i64 0) (.int .i64 0) 120 := Bx5.new w1 (.int .i64 0) (.int .i64 0) (.int .i64 0) (.int .i64 0) (.int .i64 0) 120
    refine wpAnyH_ready (rs := [5]) (by kernel_rfl) (by simp) ?_
    refine AllReadyH.cons (o := _) rfl (fun K hK => ?_) AllReadyH.nil
    go_simp
    go_at_call 36
    with_reducible refine (idsof_impl C.up A c C.T _ HM.out (HP1.out.below hbx)).mono ?_
    rintro e w' ⟨⟨A', c', g, rfl, hr, _, hg, hl⟩, hb'⟩
    have ca : w'.cell? ⟨g, 0, none⟩ = some (.int .i64 (fstZ C)) := hr.2 0 (idN_pos HTA.out)
    obtain rfl := hr.1 (idN_pos HTA.out)
    have b0 := (hb'.cell (cell_lt' a0)).trans a0
    have b1 := (hb'.cell (cell_lt' a1)).trans a1
    have b2 := (hb'.cell (cell_lt' a2)).trans a2
    have hb8 := hbx.trans (hb'.mono hbx.size)
    have HRB := vl (hbox.below hb')
    have hgr : g ≠ w1.heap.size := by have hg' : (w1.alloc (.cells #[.int .i64 0, .int .i64 0, .int .i64 0, .int .i64 0, .int .i64 0] 120)).heap.size ≤ g := hg; simp only [World.size_alloc] at hg'; omega
    clear hr hl
    go_simp
    refine hK.out _ _ ⟨b0, b1, b2, hb8⟩ (fun hHeld => ?_)
    clear hK K hHeld
    try simp only [Act.put, List.setIfInBounds_toArray, List.set_cons_zero, List.set_cons_succ]
    refine wpAnyH_strong (S' := fun w' => (w'.cell? ⟨p, 0, none⟩ = some (.bool C.up) ∧ w'.cell? ⟨p, 1, none⟩ = some (.slice A C.T.length c) ∧ w'.cell? ⟨p, 2, none⟩ = some (.int .i64 C.s) ∧ Below w1.heap.size w1 w') ∧ w'.cell? ⟨g, 0, none⟩ = some (.int .i64 (fstZ C))) (fun _ h => h.1) ?_
    have hHeld2 : (fun w' => (w'.cell? ⟨p, 0, none⟩ = some (.bool C.up) ∧ w'.cell? ⟨p, 1, none⟩ = some (.slice A C.T.length c) ∧ w'.cell? ⟨p, 2, none⟩ = some (.int .i64 C.s) ∧ Below w1.heap.size w1 w') ∧ w'.cell? ⟨g, 0, none⟩ = some (.int .i64 (fstZ C))) w' := ⟨⟨b0, b1, b2, hb8⟩, ca⟩
    try dsimp only at hHeld2
    refine wpAnyH_take (i := 6) (oi := _) (v := ?_) rfl (by kernel_rfl) (by kernel_rfl) (by kernel_rfl) (fun _ _ _ h => h) (Or.inl ⟨by rfl, ?_⟩) (by assumption) ?_
    rotate_left 1
    · intro w hSw
      try dsimp only at hSw
      go_simp
      try with_reducible rfl
    try simp only [Act.put, List.setIfInBounds_toArray, List.set_cons_zero, List.set_cons_succ]
    refine wpAnyH_take (i := 7) (oi := _) (v := ?_) rfl (by kernel_rfl) (by kernel_rfl) (by kernel_rfl) (fun _ _ _ h => h) (Or.inl ⟨by rfl, ?_⟩) (by assumption) ?_
    rotate_left 1
    · intro w hSw
      try dsimp only at hSw
      go_simp
      try with_reducible rfl
    try simp only [Act.put, List.setIfInBounds_toArray, List.set_cons_zero, List.set_cons_succ]
    refine wpAnyH_take (i := 8) (oi := _) (v := ?_) rfl (by kernel_rfl) (by kernel_rfl) (by kernel_rfl) (fun _ _ _ h => h) (Or.inl ⟨by rfl, ?_⟩) (by assumption) ?_
    rotate_left 1
    · intro w hSw
      try dsimp only at hSw
      go_simp
      try with_reducible rfl
    try simp only [Act.put, List.setIfInBounds_toArray, List.set_cons_zero, List.set_cons_succ]
    have hca := ca
    have hs8 : w1.heap.size ≤ w1.heap.size := Nat.le_refl _
    have hst : Below w1.heap.size w1 (((((w'.setCell ⟨w1.heap.size, 0, none⟩ (.int .i64 m)).setCell ⟨w1.heap.size, 1, none⟩ (.int .i64 0)).setCell ⟨w1.heap.size, 2, none⟩ (.int .i64 C.s)).setCell ⟨w1.heap.size, 3, none⟩ (.int .i64 (fstZ C))).setCell ⟨w1.heap.size, 4, none⟩ (.int .i64 0)) := (((((hb8).setCell (hs8) _).setCell (hs8) _).setCell (hs8) _).setCell (hs8) _).setCell (hs8) _
    refine wpAnyH_ready (rs := [10]) (by kernel_rfl) (by simp) ?_
    refine AllReadyH.cons (o := _) rfl (fun K hK => ?_) AllReadyH.nil
    obtain ⟨r0, r1, r2, r3, r4⟩ := (HRB.out).at
    obtain ⟨e0, e1, e2, e3, e4⟩ := (HRB.out).free
    go_simp
    have hxx : _ ∧ _ ∧ _ ∧ _ := HX1.out.below hst
    have HR4 := vl (((((((HRB.out).set0 (.int .i64 m)).set1 (.int .i64 0)).set2 (.int .i64 C.s)).set3 (.int .i64 (fstZ C))).set4 (.int .i64 0)))
    have HX4 := vl hxx
    have HY4 := vl (HY1.out.below hst)
    have HB4 := vl (HB1.out.trans (hst.mono (by have := HB1.out.size; omega)))
    have hcg : (((((w'.setCell ⟨w1.heap.size, 0, none⟩ (.int .i64 m)).setCell ⟨w1.heap.size, 1, none⟩ (.int .i64 0)).setCell ⟨w1.heap.size, 2, none⟩ (.int .i64 C.s)).setCell ⟨w1.heap.size, 3, none⟩ (.int .i64 (fstZ C))).setCell ⟨w1.heap.size, 4, none⟩ (.int .i64 0)).cell? ⟨g, 0, none⟩ = some (.int .i64 (fstZ C)) := (World.cell?_of_block (by rw [Below.heap_setCell _ _ _ _ hgr, Below.heap_setCell _ _ _ _ hgr, Below.heap_setCell _ _ _ _ hgr, Below.heap_setCell _ _ _ _ hgr, Below.heap_setCell _ _ _ _ hgr])).trans hca
    with_reducible refine hK.out _ _ ⟨⟨hxx.1, hxx.2.1, hxx.2.2.1, hst⟩, hcg⟩ (fun hHeld3 => ?_)
    clear hK K hHeld3 hHeld2 r0 r1 r2 r3 r4 e0 e1 e2 e3 e4 hxx hcg
    try simp only [Act.put, List.setIfInBounds_toArray, List.set_cons_zero, List.set_cons_succ]
    refine wpAnyH_done (by kernel_rfl) ?_ _
    go_simp
    have hpr : ∀ j k : Nat, (⟨p + 1, j, none⟩ : Addr) ≠ ⟨w1.heap.size, k, none⟩ := fun j k h => by injection h with h _ _; omega
    generalize (((((w'.setCell ⟨w1.heap.size, 0, none⟩ (.int .i64 m)).setCell ⟨w1.heap.size, 1, none⟩ (.int .i64 0)).setCell ⟨w1.heap.size, 2, none⟩ (.int .i64 C.s)).setCell ⟨w1.heap.size, 3, none⟩ (.int .i64 (fstZ C))).setCell ⟨w1.heap.size, 4, none⟩ (.int .i64 0)) = W4 at *
    clear hst
    have q3 : p < W4.heap.size := cell_lt' HX4.out.1
    have q4 := HY4.out.lt
    have q5 := HR4.out.lt
    obtain ⟨x0, x1, x2, x3⟩ := HX4.out
    obtain ⟨r0, r1, r2, r3, r4⟩ := HR4.out.at
    obtain ⟨e0, e1, e2, e3, e4⟩ := HR4.out.free
    obtain ⟨y0, y1, y2, y3, y4⟩ := HY4.out.at
    obtain ⟨f0, f1, f2, f3, f4⟩ := HY4.out.free
    by_cases hm1 : m = -1
    · subst hm1
      rw [if_pos rfl] at HS'
      go_wp2
      refine bodyPost_ret (v := .tuple #[.agg #[.int .i64 (-1), .int .i64 C.b, .int .i64 C.s, .int .i64 (fstZ C), .int .i64 0], .bool true]) (by simp [results, Try.results113, go_sem, y0, y1, y2, y3, y4, hpr]) rfl ?_
      exact ⟨by rw [HS'.out, HW'.out], by (repeat' (first | (with_reducible exact Below.refl _ _) | (with_reducible refine Below.drew ?_) | (with_reducible refine Below.alloc ?_ ?_ _) | (with_reducible refine Below.setCell ?_ ?_ _) | (with_reducible refine Below.trans ?_ (HB4.out.mono ?_)) | (first | omega | (simp; omega) | (simp; done))))⟩
    · have hm1' : (m == -1) = false := by simp [hm1]
      rw [if_neg hm1] at HS'
      clear hm1
      go_wp2
      refine bodyPost_ret (v := .tuple #[.agg #[.int .i64 m, .int .i64 0, .int .i64 C.s, .int .i64 (fstZ C), .int .i64 0], .bool true]) (by simp [results, Try.results113, go_sem, y0, y1, y2, y3, y4, hpr]) rfl ?_
      exact ⟨by rw [HS'.out, HW'.out], by (repeat' (first | (with_reducible exact Below.refl _ _) | (with_reducible refine Below.drew ?_) | (with_reducible refine Below.alloc ?_ ?_ _) | (with_reducible refine Below.setCell ?_ ?_ _) | (with_reducible refine Below.trans ?_ (HB4.out.mono ?_)) | (first | omega | (simp; omega) | (simp; done))))⟩
theorem bf_st (a b : Cl) (now : Int) : bfZ a b now = (waits a now && (waits b now && ltS (stZ a now) (stZ b now))) := by
  unfold bfZ waits stZ
  by_cases h1 : rkZ a now = 3 <;> by_cases h2 : rkZ b now = 3 <;> simp [h1, h2]
set_option maxRecDepth 100000 in
set_option maxHeartbeats 4000000 in
theorem before_impl (a b : Cl) (now : Int) (A B : Option Addr) (c d : Nat) (w : World) (ha : Mod a.T) (hb : Mod b.T) (hp : Trn w A a.T) (hq : Trn w B b.T) :
    Calls Try.prog 42 #[.agg #[.bool a.up, .slice A a.T.length c, .int .i64 a.s, .int .i64 a.b], .agg #[.bool b.up, .slice B b.T.length d, .int .i64 b.s, .int .i64 b.b], .int .i64 now] w (GivesB w (bfZ a b now)) := by
  have HB0 := vl (((Below.refl w.heap.size w).alloc (Nat.le_refl _) (.cells #[.bool a.up, .slice A a.T.length c, .int .i64 a.s, .int .i64 a.b] 44)).alloc (by simp) (.cells #[.bool b.up, .slice B b.T.length d, .int .i64 b.s, .int .i64 b.b] 44))
  have hx0 : CBox ((w.alloc (.cells #[.bool a.up, .slice A a.T.length c, .int .i64 a.s, .int .i64 a.b] 44)).alloc (.cells #[.bool b.up, .slice B b.T.length d, .int .i64 b.s, .int .i64 b.b] 44)) w.heap.size a.up A a.T.length c a.s a.b := (CBox.new w a.up A a.T.length c a.s a.b 44).below ((Below.refl _ _).alloc (Nat.le_refl _) _)
  have hy0 : CBox ((w.alloc (.cells #[.bool a.up, .slice A a.T.length c, .int .i64 a.s, .int .i64 a.b] 44)).alloc (.cells #[.bool b.up, .slice B b.T.length d, .int .i64 b.s, .int .i64 b.b] 44)) (w.heap.size + 1) b.up B b.T.length d b.s b.b := by
    have := CBox.new (w.alloc (.cells #[.bool a.up, .slice A a.T.length c, .int .i64 a.s, .int .i64 a.b] 44)) b.up B b.T.length d b.s b.b 44
    simpa using this
  have HY0 := vl hy0
  have HP := vl (hp.below HB0.out)
  have HQ := vl (hq.below HB0.out)
  have HMA := vl ha
  have HMB := vl hb
  have HF := vl (bf_st a b now)
  obtain ⟨x0, x1, x2, x3⟩ := hx0
  obtain ⟨y0, y1, y2, y3⟩ := hy0
  clear hp hq ha hb
  go_enter Try.func42, Try.ntmps42
  go_wp2_with fail
  refine (standing_impl a now A c _ HMA.out HP.out).mono ?_
  rintro e w1 ⟨rfl, hb1⟩
  generalize stZ a now = za at *
  generalize waits a now = wa at *
  have HB1 := vl (HB0.out.trans (hb1.mono HB0.out.size))
  have HY1 := vl (HY0.out.below hb1)
  have HQ1 := vl (HQ.out.below hb1)
  clear hb1 x0 x1 x2 x3 y0 y1 y2 y3 HY0 HP HQ
  have hba := (Below.refl w1.heap.size w1).alloc (Nat.le_refl _) (.cells #[.int .i64 za.rk, .int .i64 za.bk, .int .i64 za.sc, .int .i64 za.fi, .int .i64 za.ix] 120)
  have HZ1 := vl (Bx5.new w1 (.int .i64 za.rk) (.int .i64 za.bk) (.int .i64 za.sc) (.int .i64 za.fi) (.int .i64 za.ix) 120)
  have HB1a := vl (HB1.out.alloc HB1.out.size (.cells #[.int .i64 za.rk, .int .i64 za.bk, .int .i64 za.sc, .int .i64 za.fi, .int .i64 za.ix] 120))
  have HY1a := vl (HY1.out.below hba)
  have HQ1a := vl (HQ1.out.below hba)
  clear hba HY1 HQ1
  obtain ⟨y0, y1, y2, y3⟩ := HY1a.out
  go_wp2_with fail
  refine (standing_impl b now B d _ HMB.out HQ1a.out).mono ?_
  rintro e w2 ⟨rfl, hb2⟩
  generalize stZ b now = zb at *
  generalize waits b now = wb at *
  have HB2 := vl (HB1a.out.trans (hb2.mono HB1a.out.size))
  have HZ2 := vl (HZ1.out.below hb2)
  have q1 : w1.heap.size < w2.heap.size := HZ2.out.lt
  clear hb2 y0 y1 y2 y3 HY1a HQ1a
  have HB2a := vl (HB2.out.alloc HB2.out.size (.cells #[.int .i64 zb.rk, .int .i64 zb.bk, .int .i64 zb.sc, .int .i64 zb.fi, .int .i64 zb.ix] 120))
  have HZ2a := vl (HZ2.out.alloc (.cells #[.int .i64 zb.rk, .int .i64 zb.bk, .int .i64 zb.sc, .int .i64 zb.fi, .int .i64 zb.ix] 120))
  obtain ⟨z0, z1, z2, z3, z4⟩ := HZ2.out.at
  cases wa <;> cases wb
  all_goals
    first
    | (go_wp2
       go_ret
       exact ⟨ret_bool (by rw [HF.out]; rfl), HB2a.out⟩)
    | (go_wp2_with fail
       refine (goes_impl za zb _).mono ?_
       rintro e w3 ⟨rfl, hb3⟩
       have HB3 := vl (HB2a.out.trans (hb3.mono HB2a.out.size))
       clear hb3
       go_wp2
       go_ret
       exact ⟨ret_bool (by rw [HF.out]; rfl), HB3.out⟩)
end Go.Proofs.Ytmfeleocjmdooaa.C1
