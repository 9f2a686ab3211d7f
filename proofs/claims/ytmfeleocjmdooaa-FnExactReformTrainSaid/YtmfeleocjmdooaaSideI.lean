/- Boats, and trains, side by side: of the program, whatever their widths are. -/
import Derived.Test.YtmfeleocjmdooaaGRow
import Derived.Test.YtmfeleocjmdooaaTiS
import Derived.Test.YtmfeleocjmdooaaTrC
import Derived.Test.YtmfeleocjmdooaaLast
import Derived.Test.YtmfeleocjmdooaaHeld
import Derived.Deep.AppendLies
import Derived.Deep.RegionHeld3
namespace Go.Proofs.Ytmfeleocjmdooaa.C1
open Go.ChangeShapes Go.WideShapes Go.ChangeAt Go.RowKit
set_option linter.unusedVariables false
set_option linter.unusedSimpArgs false

/-- Whether one more fits beside a row. -/
def fits_b (W : Int) (r : List Bt) (b : Bt) : Bool := decide (wrap64 (widW r + b.w) ≤ W)
theorem own_row_b (w : World) (b : Bt) : (w.alloc (.cells #[.int .i64 b.i, .int .i64 b.l, .int .i64 b.w, .int .i64 b.d, .int .i64 b.s, .int .i64 b.c] 29)).ownsRow w.heap.size 29 6 (.slice (some ⟨w.heap.size, 0, none⟩) 1 1) 1 [.int .i64 b.i, .int .i64 b.l, .int .i64 b.w, .int .i64 b.d, .int .i64 b.s, .int .i64 b.c] :=
  ⟨rfl, Or.inr ⟨w.heap.size, 1, _, rfl, Nat.le_refl _, heap_alloc_new _ _, Nat.le_refl _, by decide, rfl, rfl⟩⟩
set_option maxRecDepth 100000 in
set_option maxHeartbeats 8000000 in
theorem side_b (W : Int) (A : Option Addr) (c : Nat) (L : List Bt) (w : World) (hn : L.length ≤ 1024) (hp : Bts w A L) :
    Calls Try.prog 111 #[.int .i64 W, .slice A L.length c] w fun e w' => (∃ v xs, e = .returned v ∧ GRows 29 30 6 btl w' w.heap.size v (sideP (fits_b W) L) xs) ∧ Below w.heap.size w w' := by
  have HP := vl hp
  clear hp
  obtain ⟨i0, hi, hz0, hz1, hz2⟩ := info_parts infoB2
  obtain ⟨j0, hj, hy0, hy1, hy2⟩ := info_parts infoR
  have hne : (29 : TypeId) ≠ 30 := by decide
  go_enter Try.func111, Try.ntmps111
  go_wp2
  go_loopw [5, 11] (fun v i wr => ∃ (k : Nat) (xs : List Value), k ≤ L.length ∧ i = .int .i64 k ∧ Veil (Below w.heap.size w wr) ∧ Veil (GRows 29 30 6 btl wr w.heap.size v (sideP (fits_b W) (L.take k)) xs)) (fun _ i _ => L.length - (intOf i).toNat)
  case atStart => exact ⟨0, [], by omega, rfl, vl (Below.refl _ _), vl (GRows.nil _ _)⟩
  case round =>
    obtain ⟨k, xs, hk, rfl, HB, HM⟩ := hrel
    by_cases hlt : k < L.length
    · obtain ⟨b, hb⟩ := get_of hlt
      obtain ⟨g, o, rfl, hc⟩ := (HP.out.below HB.out) (by omega)
      obtain ⟨x0, x1, x2, x3, x4, x5⟩ := hc k b hb
      have hba := (Below.refl wr.heap.size wr).alloc (Nat.le_refl _) (.cells #[.int .i64 b.i, .int .i64 b.l, .int .i64 b.w, .int .i64 b.d, .int .i64 b.s, .int .i64 b.c] 29)
      have HBa := vl hba
      have HMa := vl (HM.out.below hba)
      have hQ : (wr.alloc (.cells #[.int .i64 b.i, .int .i64 b.l, .int .i64 b.w, .int .i64 b.d, .int .i64 b.s, .int .i64 b.c] 29)).cell? ⟨wr.heap.size, 0, none⟩ = some (.int .i64 b.i) ∧ (wr.alloc (.cells #[.int .i64 b.i, .int .i64 b.l, .int .i64 b.w, .int .i64 b.d, .int .i64 b.s, .int .i64 b.c] 29)).cell? ⟨wr.heap.size, 1, none⟩ = some (.int .i64 b.l) ∧ (wr.alloc (.cells #[.int .i64 b.i, .int .i64 b.l, .int .i64 b.w, .int .i64 b.d, .int .i64 b.s, .int .i64 b.c] 29)).cell? ⟨wr.heap.size, 2, none⟩ = some (.int .i64 b.w) ∧ (wr.alloc (.cells #[.int .i64 b.i, .int .i64 b.l, .int .i64 b.w, .int .i64 b.d, .int .i64 b.s, .int .i64 b.c] 29)).cell? ⟨wr.heap.size, 3, none⟩ = some (.int .i64 b.d) ∧ (wr.alloc (.cells #[.int .i64 b.i, .int .i64 b.l, .int .i64 b.w, .int .i64 b.d, .int .i64 b.s, .int .i64 b.c] 29)).cell? ⟨wr.heap.size, 4, none⟩ = some (.int .i64 b.s) ∧ (wr.alloc (.cells #[.int .i64 b.i, .int .i64 b.l, .int .i64 b.w, .int .i64 b.d, .int .i64 b.s, .int .i64 b.c] 29)).cell? ⟨wr.heap.size, 5, none⟩ = some (.int .i64 b.c) := by simp
      have HQ := vl hQ
      have HS := vl (sideP_take (P := fits_b W) hb)
      have hMl : (sideP (fits_b W) (L.take k)).length ≤ k := by
        have := sideP_len (P := fits_b W) (L := L.take k)
        rw [List.length_take] at this; omega
      have HRow := vl (fun r hr => sideP_row (P := fits_b W) (L := L.take k) (r := r) hr)
      have HTk := vl (fun (x : Bt) (hx : x ∈ L.take k) => List.mem_of_mem_take hx)
      clear hc hb hba hQ
      generalize sideP (fits_b W) (L.take k) = M at HM HMa HS hMl HRow ⊢
      have hB0 := HB.out.size
      have hB0w := hB0
      rcases lastG M with rfl | ⟨M', r, rfl⟩
      · have HQ2 := vl (show sideP (fits_b W) (L.take (k + 1)) = [[b]] from HS.out)
        have hxs : xs = [] := List.eq_nil_of_length_eq_zero (by have := HMa.out.len; simpa using this)
        subst hxs
        obtain ⟨V, d, rfl, _⟩ := own_src HMa.out.own
        simp only [List.length_nil] at HM HMa ⊢
        go_wp2
        clear x0 x1 x2 x3 x4 x5
        generalize hwb : wr.alloc (.cells #[.int .i64 b.i, .int .i64 b.l, .int .i64 b.w, .int .i64 b.d, .int .i64 b.s, .int .i64 b.c] 29) = wb at HBa HMa HQ ⊢
        have hsb : wb.heap.size = wr.heap.size + 1 := by rw [← hwb]; simp
        have HSB := vl hsb
        have hq0 : wr.heap.size < wb.heap.size := by omega
        have hBb : w.heap.size ≤ wb.heap.size := by omega
        clear hwb hsb
        have HBb := vl (HB.out.trans (HBa.out.mono hB0))
        generalize hpe : wr.heap.size = p at HQ hq0 HSB hB0 ⊢
        have HPE := vl hpe
        clear hpe
        obtain ⟨q0, q1, q2, q3, q4, q5⟩ := HQ.out
        refine wp_region_held_drew (S := fun _ => True) (by kernel_rfl) trivial (fun hHeld => ?_)
        refine wpAnyH_take (i := 0) (oi := _) (v := ?_) rfl (by kernel_rfl) (by kernel_rfl) (by kernel_rfl) (fun _ _ _ h => h) (Or.inl ⟨by rfl, ?_⟩) (by assumption) ?_
        rotate_left 1
        · intro w hSw
          try dsimp only at hSw
          go_simp
          try with_reducible rfl
        try simp only [Act.put, List.getElem_toArray, List.getElem_cons_succ, List.getElem_cons_zero, List.setIfInBounds_toArray, List.set_cons_zero, List.set_cons_succ]
        refine wpAnyH_take (i := 1) (oi := _) (v := ?_) rfl (by kernel_rfl) (by kernel_rfl) (by kernel_rfl) (fun _ _ _ h => h) (Or.inl ⟨by rfl, ?_⟩) (by assumption) ?_
        rotate_left 1
        · intro w hSw
          try dsimp only at hSw
          go_simp
          try with_reducible rfl
        try simp only [Act.put, List.getElem_toArray, List.getElem_cons_succ, List.getElem_cons_zero, List.setIfInBounds_toArray, List.set_cons_zero, List.set_cons_succ]
        refine wpAnyH_take (i := 2) (oi := _) (v := ?_) rfl (by kernel_rfl) (by kernel_rfl) (by kernel_rfl) (fun _ _ _ h => h) (Or.inl ⟨by rfl, ?_⟩) (by assumption) ?_
        rotate_left 1
        · intro w hSw
          try dsimp only at hSw
          go_simp
          try with_reducible rfl
        try simp only [Act.put, List.getElem_toArray, List.getElem_cons_succ, List.getElem_cons_zero, List.setIfInBounds_toArray, List.set_cons_zero, List.set_cons_succ]
        refine wpAnyH_take (i := 3) (oi := _) (v := undef) rfl (by kernel_rfl) (by kernel_rfl) (by kernel_rfl) (fun _ _ _ h => h) (Or.inr ⟨by rfl, rfl⟩) (by assumption) ?_
        try simp only [Act.put, List.getElem_toArray, List.getElem_cons_succ, List.getElem_cons_zero, List.setIfInBounds_toArray, List.set_cons_zero, List.set_cons_succ]
        refine wpAnyH_take (i := 4) (oi := _) (v := undef) rfl (by kernel_rfl) (by kernel_rfl) (by kernel_rfl) (fun _ _ _ h => h) (Or.inr ⟨by rfl, rfl⟩) (by assumption) ?_
        try simp only [Act.put, List.getElem_toArray, List.getElem_cons_succ, List.getElem_cons_zero, List.setIfInBounds_toArray, List.set_cons_zero, List.set_cons_succ]
        refine wpAnyH_take (i := 5) (oi := _) (v := undef) rfl (by kernel_rfl) (by kernel_rfl) (by kernel_rfl) (fun _ _ _ h => h) (Or.inr ⟨by rfl, rfl⟩) (by assumption) ?_
        try simp only [Act.put, List.getElem_toArray, List.getElem_cons_succ, List.getElem_cons_zero, List.setIfInBounds_toArray, List.set_cons_zero, List.set_cons_succ]
        refine wpAnyH_take (i := 6) (oi := _) (v := undef) rfl (by kernel_rfl) (by kernel_rfl) (by kernel_rfl) (fun _ _ _ h => h) (Or.inr ⟨by rfl, rfl⟩) (by assumption) ?_
        try simp only [Act.put, List.getElem_toArray, List.getElem_cons_succ, List.getElem_cons_zero, List.setIfInBounds_toArray, List.set_cons_zero, List.set_cons_succ]
        refine wpAnyH_take (i := 7) (oi := _) (v := undef) rfl (by kernel_rfl) (by kernel_rfl) (by kernel_rfl) (fun _ _ _ h => h) (Or.inr ⟨by rfl, rfl⟩) (by assumption) ?_
        try simp only [Act.put, List.getElem_toArray, List.getElem_cons_succ, List.getElem_cons_zero, List.setIfInBounds_toArray, List.set_cons_zero, List.set_cons_succ]
        refine wpAnyH_take (i := 8) (oi := _) (v := undef) rfl (by kernel_rfl) (by kernel_rfl) (by kernel_rfl) (fun _ _ _ h => h) (Or.inr ⟨by rfl, rfl⟩) (by assumption) ?_
        try simp only [Act.put, List.getElem_toArray, List.getElem_cons_succ, List.getElem_cons_zero, List.setIfInBounds_toArray, List.set_cons_zero, List.set_cons_succ]
        refine wpAnyH_take (i := 9) (oi := _) (v := undef) rfl (by kernel_rfl) (by kernel_rfl) (by kernel_rfl) (fun _ _ _ h => h) (Or.inr ⟨by rfl, rfl⟩) (by assumption) ?_
        try simp only [Act.put, List.getElem_toArray, List.getElem_cons_succ, List.getElem_cons_zero, List.setIfInBounds_toArray, List.set_cons_zero, List.set_cons_succ]
        refine wpAnyH_take (i := 10) (oi := _) (v := undef) rfl (by kernel_rfl) (by kernel_rfl) (by kernel_rfl) (fun _ _ _ h => h) (Or.inr ⟨by rfl, rfl⟩) (by assumption) ?_
        try simp only [Act.put, List.getElem_toArray, List.getElem_cons_succ, List.getElem_cons_zero, List.setIfInBounds_toArray, List.set_cons_zero, List.set_cons_succ]
        refine wpAnyH_take (i := 11) (oi := _) (v := undef) rfl (by kernel_rfl) (by kernel_rfl) (by kernel_rfl) (fun _ _ _ h => h) (Or.inr ⟨by rfl, rfl⟩) (by assumption) ?_
        try simp only [Act.put, List.getElem_toArray, List.getElem_cons_succ, List.getElem_cons_zero, List.setIfInBounds_toArray, List.set_cons_zero, List.set_cons_succ]
        refine wpAnyH_take (i := 12) (oi := _) (v := undef) rfl (by kernel_rfl) (by kernel_rfl) (by kernel_rfl) (fun _ _ _ h => h) (Or.inr ⟨by rfl, rfl⟩) (by assumption) ?_
        try simp only [Act.put, List.getElem_toArray, List.getElem_cons_succ, List.getElem_cons_zero, List.setIfInBounds_toArray, List.set_cons_zero, List.set_cons_succ]
        refine wpAnyH_take (i := 13) (oi := _) (v := undef) rfl (by kernel_rfl) (by kernel_rfl) (by kernel_rfl) (fun _ _ _ h => h) (Or.inr ⟨by rfl, rfl⟩) (by assumption) ?_
        try simp only [Act.put, List.getElem_toArray, List.getElem_cons_succ, List.getElem_cons_zero, List.setIfInBounds_toArray, List.set_cons_zero, List.set_cons_succ]
        refine wpAnyH_take (i := 14) (oi := _) (v := ?_) rfl (by kernel_rfl) (by kernel_rfl) (by kernel_rfl) (fun _ _ _ h => h) (Or.inl ⟨by rfl, ?_⟩) (by assumption) ?_
        rotate_left 1
        · intro w hSw
          try dsimp only at hSw
          go_simp
          try with_reducible rfl
        try simp only [Act.put, List.getElem_toArray, List.getElem_cons_succ, List.getElem_cons_zero, List.setIfInBounds_toArray, List.set_cons_zero, List.set_cons_succ]
        refine wpAnyH_done (by kernel_rfl) ?_ _
        go_simp
        have HBq := vl (HBb.out.trans ((Below.refl wb.heap.size wb).drew.mono hBb))
        have HMq := vl (HMa.out.below (Below.refl wb.heap.size wb).drew)
        have z0 : wb.drew.cell? ⟨p, 0, none⟩ = some (.int .i64 b.i) ∧ wb.drew.cell? ⟨p, 1, none⟩ = some (.int .i64 b.l) ∧ wb.drew.cell? ⟨p, 2, none⟩ = some (.int .i64 b.w) ∧ wb.drew.cell? ⟨p, 3, none⟩ = some (.int .i64 b.d) ∧ wb.drew.cell? ⟨p, 4, none⟩ = some (.int .i64 b.s) ∧ wb.drew.cell? ⟨p, 5, none⟩ = some (.int .i64 b.c) := ⟨q0, q1, q2, q3, q4, q5⟩
        have hBq : w.heap.size ≤ wb.drew.heap.size := hBb
        clear q0 q1 q2 q3 q4 q5
        generalize wb.drew = wq at HBq HMq z0 hBq ⊢
        obtain ⟨q0, q1, q2, q3, q4, q5⟩ := z0
        have hml : ([] : List (List Bt)).length = 0 := rfl
        have hba2 := (Below.refl wq.heap.size wq).alloc (Nat.le_refl _) (.cells #[.int .i64 b.i, .int .i64 b.l, .int .i64 b.w, .int .i64 b.d, .int .i64 b.s, .int .i64 b.c] 29)
        have HBA2 := vl hba2
        have HMa2 := vl (HMq.out.below hba2)
        have HU := vl (show (wq.alloc (.cells #[.int .i64 b.i, .int .i64 b.l, .int .i64 b.w, .int .i64 b.d, .int .i64 b.s, .int .i64 b.c] 29)).ownsRow wq.heap.size 29 6 (.slice (some ⟨wq.heap.size, 0, none⟩) 1 1) 1 (btl [b]) from by rw [btl_one']; exact own_row_b wq b)
        clear hba2
        go_wp2_with (at_builtin; refine wpList_app rfl _ _ 24 rfl w.heap.size 30 j0 _ 1 24 Try.underlying24 hj hy0 hy1 hy2 rfl (by decide) (.slice V (0) d) (0) ([]) rfl (by have := HMa2.out.own; rw [hml] at this; exact this.alloc _) (some ⟨wq.heap.size + 1, 0, none⟩) 1 1 [.slice (some ⟨wq.heap.size, 0, none⟩) 1 1] rfl rfl (fun _ => ⟨⟨wq.heap.size + 1, 0, none⟩, rfl, fun j u hu => World.news_of_block (by have := heap_alloc_new (wq.alloc (.cells #[.int .i64 b.i, .int .i64 b.l, .int .i64 b.w, .int .i64 b.d, .int .i64 b.s, .int .i64 b.c] 29)) (.cells #[.slice (some ⟨wq.heap.size, 0, none⟩) 1 1] 30); simpa using this) j u (by simpa using hu)⟩) (fun x hx => by simp at hx; subst hx; rfl) (by unfold maxLen; omega) (by omega) (by simp; omega) ?_)
        intro v' w4 hown hgr
        have HM4 := vl (HMq.out.snoc hne (r := [b]) hBq HBA2.out HU.out (by rw [hml]; first | exact hown | (rw [List.append_assoc]; exact hown)) hgr)
        have hb4 : Below w.heap.size wq w4 := (HBA2.out.mono hBq).trans (((Below.refl w.heap.size _).alloc (by simp; omega) _).trans (below_app' (HMa2.out.own.alloc _) hgr (by simp; omega)))
        have HB4 := vl (HBq.out.trans hb4)
        clear hown hgr hb4
        go_wp2
        go_roundw
        case rel => exact ⟨k + 1, _, by omega, by go_num, HB4, vl (by rw [HQ2.out]; exact HM4.out)⟩
        case measure => simp [intOf]; omega
      · have hm' : (M' ++ [r]).length = M'.length + 1 := by simp
        have hMk : M'.length + 1 ≤ k := by simp at hMl; exact hMl
        obtain ⟨V, d, rfl, _⟩ := own_src HMa.out.own
        rw [hm'] at HM HMa ⊢
        obtain ⟨g0, rfl⟩ : ∃ g0, V = some ⟨g0, 0, none⟩ := by
          rcases HMa.out.own.2 with ⟨_, h0⟩ | ⟨g, cap, cur, e, _⟩
          · rw [hm'] at h0; omega
          · injection e with e1; exact ⟨g, e1⟩
        obtain ⟨xs', u, rfl⟩ : ∃ xs' u, xs = xs' ++ [u] := by
          rcases List.eq_nil_or_concat xs with h | ⟨M2, r2, h⟩
          · have := HMa.out.len; rw [hm', h] at this; simp at this
          · exact ⟨M2, r2, by simpa using h⟩
        have hxl : xs'.length = M'.length := by have := HMa.out.len; rw [hm'] at this; simpa using this
        obtain ⟨u', hu', hxo⟩ := HM.out.row M'.length r (by simp)
        have eu : u' = u := by
          rw [List.getElem?_append_right (by omega), hxl, Nat.sub_self] at hu'
          simpa using hu'.symm
        subst eu
        obtain ⟨Ax, cx, gx, rfl, _, hrx, _⟩ := rowB_of_own hxo hB0w
        have hmx := hrx.bts
        have hrr := HRow.out r (by simp)
        have hr8 : r.length ≤ 1024 := by have := hrr.1; rw [List.length_take] at this; omega
        have iw1 : IntKind.i64.wrap ((M'.length : Int) + 1 - 1) = (M'.length : Int) := by rw [show (M'.length : Int) + 1 - 1 = (M'.length : Int) by omega]; exact IntWalk.i64_in _ (by omega)
        have iw4 : IntKind.i64.wrap (M'.length : Int) = (M'.length : Int) := IntWalk.i64_in _ (by omega)
        have iw2 : (0 : Int) ≤ (M'.length : Int) := by omega
        have iw3 : (M'.length : Int) < (M'.length : Int) + 1 := by omega
        go_wp2
        clear x0 x1 x2 x3 x4 x5
        generalize hwb : wr.alloc (.cells #[.int .i64 b.i, .int .i64 b.l, .int .i64 b.w, .int .i64 b.d, .int .i64 b.s, .int .i64 b.c] 29) = wb at HBa HMa HQ ⊢
        have hsb : wb.heap.size = wr.heap.size + 1 := by rw [← hwb]; simp
        have HSB := vl hsb
        have hq0 : wr.heap.size < wb.heap.size := by omega
        have hBb : w.heap.size ≤ wb.heap.size := by omega
        clear hwb hsb
        have HBb := vl (HB.out.trans (HBa.out.mono hB0))
        generalize hpe : wr.heap.size = p at HQ hq0 HSB hB0 ⊢
        have HPE := vl hpe
        clear hpe
        obtain ⟨q0, q1, q2, q3, q4, q5⟩ := HQ.out
        have c1 : wb.cell? ⟨g0, M'.length, none⟩ = some (.slice Ax r.length cx) := by
          have h := HMa.out.own
          rw [hm'] at h
          rw [h.cellAt _ (by omega)]; exact hu'
        have HV := vl (hmx.below HBa.out)
        have hxL := vl (fun k (hk : (Value.slice Ax r.length cx).ownBlock = some k) => (hxo.lt k hk).2)
        have HXO := vl (own_below hxo HBa.out)
        have hg0 := HMa.out.own.lt g0 rfl
        have hm : ∀ w : World, (method 315 29 (.agg #[.int .i64 b.i, .int .i64 b.l, .int .i64 b.w, .int .i64 b.d, .int .i64 b.s, .int .i64 b.c]) "loop.example/g03317/impl.width").run Try.prog w = .ok (224, .agg #[.int .i64 b.i, .int .i64 b.l, .int .i64 b.w, .int .i64 b.d, .int .i64 b.s, .int .i64 b.c]) w := fun _ => by kernel_rfl
        clear hxo hu' hmx hrr hMl hrx
        go_region_held3 (fun w' => w'.cell? ⟨g0, M'.length, none⟩ = some (.slice Ax r.length cx) ∧ w'.cell? ⟨p, 0, none⟩ = some (.int .i64 b.i) ∧ w'.cell? ⟨p, 1, none⟩ = some (.int .i64 b.l) ∧ w'.cell? ⟨p, 2, none⟩ = some (.int .i64 b.w) ∧ w'.cell? ⟨p, 3, none⟩ = some (.int .i64 b.d) ∧ w'.cell? ⟨p, 4, none⟩ = some (.int .i64 b.s) ∧ w'.cell? ⟨p, 5, none⟩ = some (.int .i64 b.c))
          (first | assumption | exact ⟨c1, q0, q1, q2, q3, q4, q5⟩ | exact S2 | exact S3)
          (first
            | (refine (bwid_impl b _).mono ?_
               rintro e w3 ⟨rfl, hb3⟩
               have S3 : w3.cell? ⟨g0, M'.length, none⟩ = some (.slice Ax r.length cx) ∧ w3.cell? ⟨p, 0, none⟩ = some (.int .i64 b.i) ∧ w3.cell? ⟨p, 1, none⟩ = some (.int .i64 b.l) ∧ w3.cell? ⟨p, 2, none⟩ = some (.int .i64 b.w) ∧ w3.cell? ⟨p, 3, none⟩ = some (.int .i64 b.d) ∧ w3.cell? ⟨p, 4, none⟩ = some (.int .i64 b.s) ∧ w3.cell? ⟨p, 5, none⟩ = some (.int .i64 b.c) := by
                 obtain ⟨s0, s1, s2, s3, s4, s5, s6⟩ := S2
                 exact ⟨(hb3.cell (cell_lt' s0)).trans s0, (hb3.cell (cell_lt' s1)).trans s1, (hb3.cell (cell_lt' s2)).trans s2, (hb3.cell (cell_lt' s3)).trans s3, (hb3.cell (cell_lt' s4)).trans s4, (hb3.cell (cell_lt' s5)).trans s5, (hb3.cell (cell_lt' s6)).trans s6⟩)
            | (go_at_call 156
               refine (sumw_impl Ax cx r _ (by omega) (HV.out.below (Below.refl wb.heap.size wb).drew)).mono ?_
               rintro e w2 ⟨rfl, hb2⟩
               have S2 : w2.cell? ⟨g0, M'.length, none⟩ = some (.slice Ax r.length cx) ∧ w2.cell? ⟨p, 0, none⟩ = some (.int .i64 b.i) ∧ w2.cell? ⟨p, 1, none⟩ = some (.int .i64 b.l) ∧ w2.cell? ⟨p, 2, none⟩ = some (.int .i64 b.w) ∧ w2.cell? ⟨p, 3, none⟩ = some (.int .i64 b.d) ∧ w2.cell? ⟨p, 4, none⟩ = some (.int .i64 b.s) ∧ w2.cell? ⟨p, 5, none⟩ = some (.int .i64 b.c) := ⟨(hb2.cell (cell_lt' c1)).trans c1, (hb2.cell (cell_lt' q0)).trans q0, (hb2.cell (cell_lt' q1)).trans q1, (hb2.cell (cell_lt' q2)).trans q2, (hb2.cell (cell_lt' q3)).trans q3, (hb2.cell (cell_lt' q4)).trans q4, (hb2.cell (cell_lt' q5)).trans q5⟩))
        have hb13 : Below wb.heap.size wb w3 := (Below.refl wb.heap.size wb).drew.trans (hb2.trans (hb3.mono hb2.size))
        have HB3 := vl (HBb.out.trans (hb13.mono hBb))
        have HM3 := vl (HMa.out.below hb13)
        have HX3 := vl (own_below HXO.out hb13)
        have z3 : w3.cell? ⟨g0, M'.length, none⟩ = some (.slice Ax r.length cx) ∧ w3.cell? ⟨p, 0, none⟩ = some (.int .i64 b.i) ∧ w3.cell? ⟨p, 1, none⟩ = some (.int .i64 b.l) ∧ w3.cell? ⟨p, 2, none⟩ = some (.int .i64 b.w) ∧ w3.cell? ⟨p, 3, none⟩ = some (.int .i64 b.d) ∧ w3.cell? ⟨p, 4, none⟩ = some (.int .i64 b.s) ∧ w3.cell? ⟨p, 5, none⟩ = some (.int .i64 b.c) := S3
        have hB3 : w.heap.size ≤ w3.heap.size := HB3.out.size
        have hp3 : p < w3.heap.size := Nat.lt_of_lt_of_le hq0 hb13.size
        have hrl : (r ++ [b]).length = r.length + 1 := by simp
        clear hb2 hb3 hb13 S2 S3 c1 q0 q1 q2 q3 q4 q5
        obtain ⟨c3, q0, q1, q2, q3, q4, q5⟩ := z3
        rw [IntWalk.i64_left]
        generalize hsm : wrap64 (widW r + b.w) = sm
        by_cases hfit : sm ≤ W
        · have HQ2 := vl (show sideP (fits_b W) (L.take (k + 1)) = M' ++ [r ++ [b]] from by rw [HS.out]; exact putP_in (by unfold fits_b; rw [hsm]; exact decide_eq_true hfit))
          clear hsm hm
          go_wp2
          have hAl : ∀ o : Obj, (w3.alloc o).cell? ⟨p, 0, none⟩ = some (.int .i64 b.i) ∧ (w3.alloc o).cell? ⟨p, 1, none⟩ = some (.int .i64 b.l) ∧ (w3.alloc o).cell? ⟨p, 2, none⟩ = some (.int .i64 b.w) ∧ (w3.alloc o).cell? ⟨p, 3, none⟩ = some (.int .i64 b.d) ∧ (w3.alloc o).cell? ⟨p, 4, none⟩ = some (.int .i64 b.s) ∧ (w3.alloc o).cell? ⟨p, 5, none⟩ = some (.int .i64 b.c) ∧ (w3.alloc o).cell? ⟨g0, M'.length, none⟩ = some (.slice Ax r.length cx) := fun o => by
            have hb := (Below.refl w3.heap.size w3).alloc (Nat.le_refl _) o
            exact ⟨(hb.cell (cell_lt' q0)).trans q0, (hb.cell (cell_lt' q1)).trans q1, (hb.cell (cell_lt' q2)).trans q2, (hb.cell (cell_lt' q3)).trans q3, (hb.cell (cell_lt' q4)).trans q4, (hb.cell (cell_lt' q5)).trans q5, (hb.cell (cell_lt' c3)).trans c3⟩
          refine wp_region_last2 (fun w' => w'.cell? ⟨p, 0, none⟩ = some (.int .i64 b.i) ∧ w'.cell? ⟨p, 1, none⟩ = some (.int .i64 b.l) ∧ w'.cell? ⟨p, 2, none⟩ = some (.int .i64 b.w) ∧ w'.cell? ⟨p, 3, none⟩ = some (.int .i64 b.d) ∧ w'.cell? ⟨p, 4, none⟩ = some (.int .i64 b.s) ∧ w'.cell? ⟨p, 5, none⟩ = some (.int .i64 b.c) ∧ w'.cell? ⟨g0, M'.length, none⟩ = some (.slice Ax r.length cx)) (by kernel_rfl) (by simp only [List.pop_toArray, List.dropLast_cons_cons, List.dropLast_singleton]; rfl) (by rfl) (by rfl) (by kernel_rfl) ⟨q0, q1, q2, q3, q4, q5, c3⟩ (fun hHeld => ?_)
          refine wpAnyH_take (i := 0) (oi := _) (v := ?_) rfl (by kernel_rfl) (by kernel_rfl) (by kernel_rfl) (fun _ _ _ h => h) (Or.inl ⟨by rfl, ?_⟩) (by assumption) ?_
          rotate_left 1
          · intro w hSw
            try dsimp only at hSw
            go_simp
            try with_reducible rfl
          try simp only [Act.put, List.getElem_toArray, List.getElem_cons_succ, List.getElem_cons_zero, List.setIfInBounds_toArray, List.set_cons_zero, List.set_cons_succ]
          refine wpAnyH_take (i := 1) (oi := _) (v := ?_) rfl (by kernel_rfl) (by kernel_rfl) (by kernel_rfl) (fun _ _ _ h => h) (Or.inl ⟨by rfl, ?_⟩) (by assumption) ?_
          rotate_left 1
          · intro w hSw
            try dsimp only at hSw
            go_simp
            try with_reducible rfl
          try simp only [Act.put, List.getElem_toArray, List.getElem_cons_succ, List.getElem_cons_zero, List.setIfInBounds_toArray, List.set_cons_zero, List.set_cons_succ]
          refine wpAnyH_take (i := 2) (oi := _) (v := ?_) rfl (by kernel_rfl) (by kernel_rfl) (by kernel_rfl) (fun _ _ _ h => h) (Or.inl ⟨by rfl, ?_⟩) (by assumption) ?_
          rotate_left 1
          · intro w hSw
            try dsimp only at hSw
            go_simp
            try with_reducible rfl
          try simp only [Act.put, List.getElem_toArray, List.getElem_cons_succ, List.getElem_cons_zero, List.setIfInBounds_toArray, List.set_cons_zero, List.set_cons_succ]
          refine wpAnyH_take (i := 3) (oi := _) (v := ?_) rfl (by kernel_rfl) (by kernel_rfl) (by kernel_rfl) (fun _ _ _ h => h) (Or.inl ⟨by rfl, ?_⟩) (by assumption) ?_
          rotate_left 1
          · intro w hSw
            try dsimp only at hSw
            go_simp
            try with_reducible rfl
          try simp only [Act.put, List.getElem_toArray, List.getElem_cons_succ, List.getElem_cons_zero, List.setIfInBounds_toArray, List.set_cons_zero, List.set_cons_succ]
          refine wpAnyH_take (i := 4) (oi := _) (v := ?_) rfl (by kernel_rfl) (by kernel_rfl) (by kernel_rfl) (fun _ _ _ h => h) (Or.inl ⟨by rfl, ?_⟩) (by assumption) ?_
          rotate_left 1
          · intro w hSw
            try dsimp only at hSw
            go_simp
            try with_reducible rfl
          try simp only [Act.put, List.getElem_toArray, List.getElem_cons_succ, List.getElem_cons_zero, List.setIfInBounds_toArray, List.set_cons_zero, List.set_cons_succ]
          refine wpAnyH_take (i := 5) (oi := _) (v := ?_) rfl (by kernel_rfl) (by kernel_rfl) (by kernel_rfl) (fun _ _ _ h => h) (Or.inl ⟨by rfl, ?_⟩) (by assumption) ?_
          rotate_left 1
          · intro w hSw
            try dsimp only at hSw
            go_simp
            try with_reducible rfl
          try simp only [Act.put, List.getElem_toArray, List.getElem_cons_succ, List.getElem_cons_zero, List.setIfInBounds_toArray, List.set_cons_zero, List.set_cons_succ]
          refine wpAnyH_take (i := 6) (oi := _) (v := ?_) rfl (by kernel_rfl) (by kernel_rfl) (by kernel_rfl) (fun _ _ _ h => h) (Or.inl ⟨by rfl, ?_⟩) (by assumption) ?_
          rotate_left 1
          · intro w hSw
            try dsimp only at hSw
            go_simp
            try with_reducible rfl
          try simp only [Act.put, List.getElem_toArray, List.getElem_cons_succ, List.getElem_cons_zero, List.setIfInBounds_toArray, List.set_cons_zero, List.set_cons_succ]
          refine wpAnyH_ready (rs := [7]) (by kernel_rfl) (by simp) ?_
          refine AllReadyH.cons (o := _) rfl (fun K hK => ?_) AllReadyH.nil
          go_simp
          refine hK.out _ _ (hAl _) (fun hHeld => ?_)
          clear hK K
          try simp only [Act.put, List.getElem_toArray, List.getElem_cons_succ, List.getElem_cons_zero, List.setIfInBounds_toArray, List.set_cons_zero, List.set_cons_succ]
          refine wpAnyH_ready (rs := [8]) (by kernel_rfl) (by simp) ?_
          refine AllReadyH.cons (o := _) rfl (fun K hK => ?_) AllReadyH.nil
          refine step_append_lies _ (by rfl) _ _ 30 (by rfl) w.heap.size 29 i0 _ 6 48 Try.underlying30 hi hz0 hz1 hz2 rfl (by decide) (.slice Ax r.length cx) r.length (btl r) (by rfl) (HX3.out.alloc _) ⟨w3.heap.size, 0, none⟩ 1 1 b.cells (by rfl) rfl (fun j x hx => World.news_of_block (heap_alloc_new _ _) j x (by simpa [Bt.cells] using hx)) (by intro x hx; simp [Bt.cells] at hx; rcases hx with rfl | rfl | rfl | rfl | rfl | rfl <;> rfl) (by omega) (by unfold maxLen; omega) (by omega) (by simp; omega) _ rfl ?_
          intro g3 cap w4 hown hgrow hat hlt3
          have hown' : w4.ownsRow w.heap.size 29 6 (.slice (some ⟨g3, 0, none⟩) (r ++ [b]).length cap) (r ++ [b]).length (btl (r ++ [b])) := by rw [hrl, btl_app, btl_one']; exact hown
          have hbW := HM3.out.below (show Below w3.heap.size w3 _ from by first | exact ((Below.refl w3.heap.size w3).drew.alloc (Nat.le_refl _) (.cells #[.int .i64 b.i, .int .i64 b.l, .int .i64 b.w, .int .i64 b.d, .int .i64 b.s, .int .i64 b.c] 29)) | exact ((Below.refl w3.heap.size w3).alloc (Nat.le_refl _) (.cells #[.int .i64 b.i, .int .i64 b.l, .int .i64 b.w, .int .i64 b.d, .int .i64 b.s, .int .i64 b.c] 29)).drew)
          have HG4 := vl (hbW.growLast hne hown' hgrow (by simpa using hat))
          obtain ⟨d1, d2⟩ := hbW.slot hne hgrow
          have hb4 : Below w.heap.size w3 w4 := ((Below.refl w.heap.size w3).drew.alloc (show w.heap.size ≤ w3.heap.size by omega) (.cells #[.int .i64 b.i, .int .i64 b.l, .int .i64 b.w, .int .i64 b.d, .int .i64 b.s, .int .i64 b.c] 29)).trans (below_app' (HX3.out.alloc (.cells #[.int .i64 b.i, .int .i64 b.l, .int .i64 b.w, .int .i64 b.d, .int .i64 b.s, .int .i64 b.c] 29)) hgrow (by simp; omega))
          have hwx : (.slice Ax r.length cx : Value).ownBlock ≠ some p := fun e => by have h1 := hxL.out p e; have h2 := HPE.out; omega
          have hqe : ∀ j, w4.cell? ⟨p, j, none⟩ = w3.cell? ⟨p, j, none⟩ := fun j => (World.cell?_of_block (hgrow.block p (by simp; omega) (fun e => hwx e.symm))).trans ((((Below.refl w3.heap.size w3).drew.alloc (Nat.le_refl _) (.cells #[.int .i64 b.i, .int .i64 b.l, .int .i64 b.w, .int .i64 b.d, .int .i64 b.s, .int .i64 b.c] 29)).cell (p := ⟨p, j, none⟩) hp3))
          have Q4 : w4.cell? ⟨p, 0, none⟩ = some (.int .i64 b.i) ∧ w4.cell? ⟨p, 1, none⟩ = some (.int .i64 b.l) ∧ w4.cell? ⟨p, 2, none⟩ = some (.int .i64 b.w) ∧ w4.cell? ⟨p, 3, none⟩ = some (.int .i64 b.d) ∧ w4.cell? ⟨p, 4, none⟩ = some (.int .i64 b.s) ∧ w4.cell? ⟨p, 5, none⟩ = some (.int .i64 b.c) ∧ w4.cell? ⟨g0, M'.length, none⟩ = some (.slice Ax r.length cx) := ⟨(hqe 0).trans q0, (hqe 1).trans q1, (hqe 2).trans q2, (hqe 3).trans q3, (hqe 4).trans q4, (hqe 5).trans q5, d1⟩
          have HB4 := vl (HB3.out.trans hb4)
          clear hown hown' hgrow hat hlt3 hbW hb4 hwx hqe
          refine hK.out _ _ Q4 (fun hHeld => ?_)
          clear hK K
          try simp only [Act.put, List.getElem_toArray, List.getElem_cons_succ, List.getElem_cons_zero, List.setIfInBounds_toArray, List.set_cons_zero, List.set_cons_succ]
          refine wpAnyH_take (i := 9) (oi := _) (v := ?_) rfl (by kernel_rfl) (by kernel_rfl) (by kernel_rfl) (fun _ _ _ h => h) (Or.inl ⟨by rfl, ?_⟩) (by assumption) ?_
          rotate_left 1
          · intro w hSw
            try dsimp only at hSw
            go_simp
            try with_reducible rfl
          try simp only [Act.put, List.getElem_toArray, List.getElem_cons_succ, List.getElem_cons_zero, List.setIfInBounds_toArray, List.set_cons_zero, List.set_cons_succ]
          refine wpAnyH_done (by kernel_rfl) ?_ _
          unfold QL
          go_simp
          all_goals
            rw [hrl] at HG4
            clear Q4 d1 d2 c3 q0 q1 q2 q3 q4 q5 iw1 iw2 iw3 iw4
            go_wp2
            go_roundw
            case rel => exact ⟨k + 1, _, by omega, by go_num, vl (HB4.out.setCell hg0.1 _), vl (by rw [HQ2.out]; exact HG4.out)⟩
            case measure => simp [intOf]; omega
        · have hov : W < sm := by omega
          have HQ2 := vl (show sideP (fits_b W) (L.take (k + 1)) = (M' ++ [r]) ++ [[b]] from by rw [HS.out]; exact putP_new (by unfold fits_b; rw [hsm]; simp; omega))
          have HBq := HB3
          have HMq := HM3
          have hBq := hB3
          have hml : (M' ++ [r]).length = M'.length + 1 := hm'
          clear hsm hm hfit
          have hba2 := (Below.refl w3.heap.size w3).alloc (Nat.le_refl _) (.cells #[.int .i64 b.i, .int .i64 b.l, .int .i64 b.w, .int .i64 b.d, .int .i64 b.s, .int .i64 b.c] 29)
          have HBA2 := vl hba2
          have HMa2 := vl (HMq.out.below hba2)
          have HU := vl (show (w3.alloc (.cells #[.int .i64 b.i, .int .i64 b.l, .int .i64 b.w, .int .i64 b.d, .int .i64 b.s, .int .i64 b.c] 29)).ownsRow w3.heap.size 29 6 (.slice (some ⟨w3.heap.size, 0, none⟩) 1 1) 1 (btl [b]) from by rw [btl_one']; exact own_row_b w3 b)
          clear hba2
          go_wp2_with (at_builtin; refine wpList_app rfl _ _ 24 rfl w.heap.size 30 j0 _ 1 24 Try.underlying24 hj hy0 hy1 hy2 rfl (by decide) (.slice (some ⟨g0, 0, none⟩) (M'.length + 1) d) (M'.length + 1) (xs' ++ [.slice Ax r.length cx]) rfl (by have := HMa2.out.own; rw [hml] at this; exact this.alloc _) (some ⟨w3.heap.size + 1, 0, none⟩) 1 1 [.slice (some ⟨w3.heap.size, 0, none⟩) 1 1] rfl rfl (fun _ => ⟨⟨w3.heap.size + 1, 0, none⟩, rfl, fun j u hu => World.news_of_block (by have := heap_alloc_new (w3.alloc (.cells #[.int .i64 b.i, .int .i64 b.l, .int .i64 b.w, .int .i64 b.d, .int .i64 b.s, .int .i64 b.c] 29)) (.cells #[.slice (some ⟨w3.heap.size, 0, none⟩) 1 1] 30); simpa using this) j u (by simpa using hu)⟩) (fun x hx => by simp at hx; subst hx; rfl) (by unfold maxLen; omega) (by omega) (by simp; omega) ?_)
          intro v' w4 hown hgr
          have HM4 := vl (HMq.out.snoc hne (r := [b]) hBq HBA2.out HU.out (by rw [hml]; first | exact hown | (rw [List.append_assoc]; exact hown)) hgr)
          have hb4 : Below w.heap.size w3 w4 := (HBA2.out.mono hBq).trans (((Below.refl w.heap.size _).alloc (by simp; omega) _).trans (below_app' (HMa2.out.own.alloc _) hgr (by simp; omega)))
          have HB4 := vl (HBq.out.trans hb4)
          clear hown hgr hb4
          go_wp2
          go_roundw
          case rel => exact ⟨k + 1, _, by omega, by go_num, HB4, vl (by rw [HQ2.out]; exact HM4.out)⟩
          case measure => simp [intOf]; omega
    · obtain rfl : k = L.length := by omega
      have HM2 := HM
      rw [List.take_length] at HM2
      go_wp2
      go_ret
      exact ⟨⟨_, xs, rfl, HM2.out⟩, HB.out⟩
/-- Whether one more fits beside a row. -/
def fits_t (W : Int) (r : List Ti) (b : Ti) : Bool := decide (wrap64 (sumX r + widX b.t.R) ≤ W)
theorem infoTS : (Try.prog.info? 71).map (fun i => (i.zero, i.size, i.bytes)) = some (some (.slice none 0 0), 1, 24) := by kernel_rfl
theorem own_row_t (w : World) (b : Ti) : (w.alloc (.cells #[.bool b.t.up, .slice b.A b.t.R.length b.c] 26)).ownsRow w.heap.size 26 2 (.slice (some ⟨w.heap.size, 0, none⟩) 1 1) 1 [.bool b.t.up, .slice b.A b.t.R.length b.c] :=
  ⟨rfl, Or.inr ⟨w.heap.size, 1, _, rfl, Nat.le_refl _, heap_alloc_new _ _, Nat.le_refl _, by decide, rfl, rfl⟩⟩
set_option maxRecDepth 100000 in
set_option maxHeartbeats 8000000 in
theorem side_t (W : Int) (A : Option Addr) (c : Nat) (L : List Ti) (w : World) (hn : L.length ≤ 1024) (hk : TiOk w L) (hp : Tis w A L) :
    Calls Try.prog 181 #[.int .i64 W, .slice A L.length c] w fun e w' => (∃ v xs, e = .returned v ∧ GRows 26 71 2 til w' w.heap.size v (sideP (fits_t W) L) xs) ∧ Below w.heap.size w w' := by
  have HP := vl hp
  have HK0 := vl hk
  clear hp hk
  obtain ⟨i0, hi, hz0, hz1, hz2⟩ := info_parts infoT
  obtain ⟨j0, hj, hy0, hy1, hy2⟩ := info_parts infoTS
  have hne : (26 : TypeId) ≠ 71 := by decide
  go_enter Try.func181, Try.ntmps181
  go_wp2
  go_loopw [5, 11] (fun v i wr => ∃ (k : Nat) (xs : List Value), k ≤ L.length ∧ i = .int .i64 k ∧ Veil (Below w.heap.size w wr) ∧ Veil (GRows 26 71 2 til wr w.heap.size v (sideP (fits_t W) (L.take k)) xs)) (fun _ i _ => L.length - (intOf i).toNat)
  case atStart => exact ⟨0, [], by omega, rfl, vl (Below.refl _ _), vl (GRows.nil _ _)⟩
  case round =>
    obtain ⟨k, xs, hk, rfl, HB, HM⟩ := hrel
    by_cases hlt : k < L.length
    · obtain ⟨b, hb⟩ := get_of hlt
      obtain ⟨g, o, rfl, hc⟩ := (HP.out.below HB.out) (by omega)
      obtain ⟨x0, x1⟩ := hc k b hb
      have hba := (Below.refl wr.heap.size wr).alloc (Nat.le_refl _) (.cells #[.bool b.t.up, .slice b.A b.t.R.length b.c] 26)
      have HBa := vl hba
      have HMa := vl (HM.out.below hba)
      have hQ : (wr.alloc (.cells #[.bool b.t.up, .slice b.A b.t.R.length b.c] 26)).cell? ⟨wr.heap.size, 0, none⟩ = some (.bool b.t.up) ∧ (wr.alloc (.cells #[.bool b.t.up, .slice b.A b.t.R.length b.c] 26)).cell? ⟨wr.heap.size, 1, none⟩ = some (.slice b.A b.t.R.length b.c) := by simp
      have HQ := vl hQ
      obtain ⟨hm1, hp1⟩ := HK0.out b (mem_of hb)
      have HMb := vl hm1
      have HPb := vl (hp1.below (HB.out.trans (hba.mono HB.out.size)))
      have HKr := vl (fun (r : List Ti) (hr : ∀ x ∈ r, x ∈ L) => (show TiOk w r from fun x hx => HK0.out x (hr x hx)))
      clear hm1 hp1
      have HS := vl (sideP_take (P := fits_t W) hb)
      have hMl : (sideP (fits_t W) (L.take k)).length ≤ k := by
        have := sideP_len (P := fits_t W) (L := L.take k)
        rw [List.length_take] at this; omega
      have HRow := vl (fun r hr => sideP_row (P := fits_t W) (L := L.take k) (r := r) hr)
      have HTk := vl (fun (x : Ti) (hx : x ∈ L.take k) => List.mem_of_mem_take hx)
      clear hc hb hba hQ
      generalize sideP (fits_t W) (L.take k) = M at HM HMa HS hMl HRow ⊢
      have hB0 := HB.out.size
      have hB0w := hB0
      rcases lastG M with rfl | ⟨M', r, rfl⟩
      · have HQ2 := vl (show sideP (fits_t W) (L.take (k + 1)) = [[b]] from HS.out)
        have hxs : xs = [] := List.eq_nil_of_length_eq_zero (by have := HMa.out.len; simpa using this)
        subst hxs
        obtain ⟨V, d, rfl, _⟩ := own_src HMa.out.own
        simp only [List.length_nil] at HM HMa ⊢
        go_wp2
        clear x0 x1
        generalize hwb : wr.alloc (.cells #[.bool b.t.up, .slice b.A b.t.R.length b.c] 26) = wb at HBa HMa HQ HPb ⊢
        have hsb : wb.heap.size = wr.heap.size + 1 := by rw [← hwb]; simp
        have HSB := vl hsb
        have hq0 : wr.heap.size < wb.heap.size := by omega
        have hBb : w.heap.size ≤ wb.heap.size := by omega
        clear hwb hsb
        have HBb := vl (HB.out.trans (HBa.out.mono hB0))
        generalize hpe : wr.heap.size = p at HQ hq0 HSB hB0 ⊢
        have HPE := vl hpe
        clear hpe
        obtain ⟨q0, q1⟩ := HQ.out
        refine wp_region_held_drew (S := fun _ => True) (by kernel_rfl) trivial (fun hHeld => ?_)
        refine wpAnyH_take (i := 0) (oi := _) (v := ?_) rfl (by kernel_rfl) (by kernel_rfl) (by kernel_rfl) (fun _ _ _ h => h) (Or.inl ⟨by rfl, ?_⟩) (by assumption) ?_
        rotate_left 1
        · intro w hSw
          try dsimp only at hSw
          go_simp
          try with_reducible rfl
        try simp only [Act.put, List.getElem_toArray, List.getElem_cons_succ, List.getElem_cons_zero, List.setIfInBounds_toArray, List.set_cons_zero, List.set_cons_succ]
        refine wpAnyH_take (i := 1) (oi := _) (v := ?_) rfl (by kernel_rfl) (by kernel_rfl) (by kernel_rfl) (fun _ _ _ h => h) (Or.inl ⟨by rfl, ?_⟩) (by assumption) ?_
        rotate_left 1
        · intro w hSw
          try dsimp only at hSw
          go_simp
          try with_reducible rfl
        try simp only [Act.put, List.getElem_toArray, List.getElem_cons_succ, List.getElem_cons_zero, List.setIfInBounds_toArray, List.set_cons_zero, List.set_cons_succ]
        refine wpAnyH_take (i := 2) (oi := _) (v := ?_) rfl (by kernel_rfl) (by kernel_rfl) (by kernel_rfl) (fun _ _ _ h => h) (Or.inl ⟨by rfl, ?_⟩) (by assumption) ?_
        rotate_left 1
        · intro w hSw
          try dsimp only at hSw
          go_simp
          try with_reducible rfl
        try simp only [Act.put, List.getElem_toArray, List.getElem_cons_succ, List.getElem_cons_zero, List.setIfInBounds_toArray, List.set_cons_zero, List.set_cons_succ]
        refine wpAnyH_take (i := 3) (oi := _) (v := undef) rfl (by kernel_rfl) (by kernel_rfl) (by kernel_rfl) (fun _ _ _ h => h) (Or.inr ⟨by rfl, rfl⟩) (by assumption) ?_
        try simp only [Act.put, List.getElem_toArray, List.getElem_cons_succ, List.getElem_cons_zero, List.setIfInBounds_toArray, List.set_cons_zero, List.set_cons_succ]
        refine wpAnyH_take (i := 4) (oi := _) (v := undef) rfl (by kernel_rfl) (by kernel_rfl) (by kernel_rfl) (fun _ _ _ h => h) (Or.inr ⟨by rfl, rfl⟩) (by assumption) ?_
        try simp only [Act.put, List.getElem_toArray, List.getElem_cons_succ, List.getElem_cons_zero, List.setIfInBounds_toArray, List.set_cons_zero, List.set_cons_succ]
        refine wpAnyH_take (i := 5) (oi := _) (v := undef) rfl (by kernel_rfl) (by kernel_rfl) (by kernel_rfl) (fun _ _ _ h => h) (Or.inr ⟨by rfl, rfl⟩) (by assumption) ?_
        try simp only [Act.put, List.getElem_toArray, List.getElem_cons_succ, List.getElem_cons_zero, List.setIfInBounds_toArray, List.set_cons_zero, List.set_cons_succ]
        refine wpAnyH_take (i := 6) (oi := _) (v := undef) rfl (by kernel_rfl) (by kernel_rfl) (by kernel_rfl) (fun _ _ _ h => h) (Or.inr ⟨by rfl, rfl⟩) (by assumption) ?_
        try simp only [Act.put, List.getElem_toArray, List.getElem_cons_succ, List.getElem_cons_zero, List.setIfInBounds_toArray, List.set_cons_zero, List.set_cons_succ]
        refine wpAnyH_take (i := 7) (oi := _) (v := undef) rfl (by kernel_rfl) (by kernel_rfl) (by kernel_rfl) (fun _ _ _ h => h) (Or.inr ⟨by rfl, rfl⟩) (by assumption) ?_
        try simp only [Act.put, List.getElem_toArray, List.getElem_cons_succ, List.getElem_cons_zero, List.setIfInBounds_toArray, List.set_cons_zero, List.set_cons_succ]
        refine wpAnyH_take (i := 8) (oi := _) (v := undef) rfl (by kernel_rfl) (by kernel_rfl) (by kernel_rfl) (fun _ _ _ h => h) (Or.inr ⟨by rfl, rfl⟩) (by assumption) ?_
        try simp only [Act.put, List.getElem_toArray, List.getElem_cons_succ, List.getElem_cons_zero, List.setIfInBounds_toArray, List.set_cons_zero, List.set_cons_succ]
        refine wpAnyH_take (i := 9) (oi := _) (v := undef) rfl (by kernel_rfl) (by kernel_rfl) (by kernel_rfl) (fun _ _ _ h => h) (Or.inr ⟨by rfl, rfl⟩) (by assumption) ?_
        try simp only [Act.put, List.getElem_toArray, List.getElem_cons_succ, List.getElem_cons_zero, List.setIfInBounds_toArray, List.set_cons_zero, List.set_cons_succ]
        refine wpAnyH_take (i := 10) (oi := _) (v := undef) rfl (by kernel_rfl) (by kernel_rfl) (by kernel_rfl) (fun _ _ _ h => h) (Or.inr ⟨by rfl, rfl⟩) (by assumption) ?_
        try simp only [Act.put, List.getElem_toArray, List.getElem_cons_succ, List.getElem_cons_zero, List.setIfInBounds_toArray, List.set_cons_zero, List.set_cons_succ]
        refine wpAnyH_take (i := 11) (oi := _) (v := undef) rfl (by kernel_rfl) (by kernel_rfl) (by kernel_rfl) (fun _ _ _ h => h) (Or.inr ⟨by rfl, rfl⟩) (by assumption) ?_
        try simp only [Act.put, List.getElem_toArray, List.getElem_cons_succ, List.getElem_cons_zero, List.setIfInBounds_toArray, List.set_cons_zero, List.set_cons_succ]
        refine wpAnyH_take (i := 12) (oi := _) (v := undef) rfl (by kernel_rfl) (by kernel_rfl) (by kernel_rfl) (fun _ _ _ h => h) (Or.inr ⟨by rfl, rfl⟩) (by assumption) ?_
        try simp only [Act.put, List.getElem_toArray, List.getElem_cons_succ, List.getElem_cons_zero, List.setIfInBounds_toArray, List.set_cons_zero, List.set_cons_succ]
        refine wpAnyH_take (i := 13) (oi := _) (v := undef) rfl (by kernel_rfl) (by kernel_rfl) (by kernel_rfl) (fun _ _ _ h => h) (Or.inr ⟨by rfl, rfl⟩) (by assumption) ?_
        try simp only [Act.put, List.getElem_toArray, List.getElem_cons_succ, List.getElem_cons_zero, List.setIfInBounds_toArray, List.set_cons_zero, List.set_cons_succ]
        refine wpAnyH_take (i := 14) (oi := _) (v := ?_) rfl (by kernel_rfl) (by kernel_rfl) (by kernel_rfl) (fun _ _ _ h => h) (Or.inl ⟨by rfl, ?_⟩) (by assumption) ?_
        rotate_left 1
        · intro w hSw
          try dsimp only at hSw
          go_simp
          try with_reducible rfl
        try simp only [Act.put, List.getElem_toArray, List.getElem_cons_succ, List.getElem_cons_zero, List.setIfInBounds_toArray, List.set_cons_zero, List.set_cons_succ]
        refine wpAnyH_done (by kernel_rfl) ?_ _
        go_simp
        have HBq := vl (HBb.out.trans ((Below.refl wb.heap.size wb).drew.mono hBb))
        have HMq := vl (HMa.out.below (Below.refl wb.heap.size wb).drew)
        have z0 : wb.drew.cell? ⟨p, 0, none⟩ = some (.bool b.t.up) ∧ wb.drew.cell? ⟨p, 1, none⟩ = some (.slice b.A b.t.R.length b.c) := ⟨q0, q1⟩
        have hBq : w.heap.size ≤ wb.drew.heap.size := hBb
        clear q0 q1
        generalize wb.drew = wq at HBq HMq z0 hBq ⊢
        obtain ⟨q0, q1⟩ := z0
        have hml : ([] : List (List Ti)).length = 0 := rfl
        have hba2 := (Below.refl wq.heap.size wq).alloc (Nat.le_refl _) (.cells #[.bool b.t.up, .slice b.A b.t.R.length b.c] 26)
        have HBA2 := vl hba2
        have HMa2 := vl (HMq.out.below hba2)
        have HU := vl (show (wq.alloc (.cells #[.bool b.t.up, .slice b.A b.t.R.length b.c] 26)).ownsRow wq.heap.size 26 2 (.slice (some ⟨wq.heap.size, 0, none⟩) 1 1) 1 (til [b]) from by rw [til_one']; exact own_row_t wq b)
        clear hba2
        go_wp2_with (at_builtin; refine wpList_app rfl _ _ 175 rfl w.heap.size 71 j0 _ 1 24 Try.underlying175 hj hy0 hy1 hy2 rfl (by decide) (.slice V (0) d) (0) ([]) rfl (by have := HMa2.out.own; rw [hml] at this; exact this.alloc _) (some ⟨wq.heap.size + 1, 0, none⟩) 1 1 [.slice (some ⟨wq.heap.size, 0, none⟩) 1 1] rfl rfl (fun _ => ⟨⟨wq.heap.size + 1, 0, none⟩, rfl, fun j u hu => World.news_of_block (by have := heap_alloc_new (wq.alloc (.cells #[.bool b.t.up, .slice b.A b.t.R.length b.c] 26)) (.cells #[.slice (some ⟨wq.heap.size, 0, none⟩) 1 1] 71); simpa using this) j u (by simpa using hu)⟩) (fun x hx => by simp at hx; subst hx; rfl) (by unfold maxLen; omega) (by omega) (by simp; omega) ?_)
        intro v' w4 hown hgr
        have HM4 := vl (HMq.out.snoc hne (r := [b]) hBq HBA2.out HU.out (by rw [hml]; first | exact hown | (rw [List.append_assoc]; exact hown)) hgr)
        have hb4 : Below w.heap.size wq w4 := (HBA2.out.mono hBq).trans (((Below.refl w.heap.size _).alloc (by simp; omega) _).trans (below_app' (HMa2.out.own.alloc _) hgr (by simp; omega)))
        have HB4 := vl (HBq.out.trans hb4)
        clear hown hgr hb4
        go_wp2
        go_roundw
        case rel => exact ⟨k + 1, _, by omega, by go_num, HB4, vl (by rw [HQ2.out]; exact HM4.out)⟩
        case measure => simp [intOf]; omega
      · have hm' : (M' ++ [r]).length = M'.length + 1 := by simp
        have hMk : M'.length + 1 ≤ k := by simp at hMl; exact hMl
        obtain ⟨V, d, rfl, _⟩ := own_src HMa.out.own
        rw [hm'] at HM HMa ⊢
        obtain ⟨g0, rfl⟩ : ∃ g0, V = some ⟨g0, 0, none⟩ := by
          rcases HMa.out.own.2 with ⟨_, h0⟩ | ⟨g, cap, cur, e, _⟩
          · rw [hm'] at h0; omega
          · injection e with e1; exact ⟨g, e1⟩
        obtain ⟨xs', u, rfl⟩ : ∃ xs' u, xs = xs' ++ [u] := by
          rcases List.eq_nil_or_concat xs with h | ⟨M2, r2, h⟩
          · have := HMa.out.len; rw [hm', h] at this; simp at this
          · exact ⟨M2, r2, by simpa using h⟩
        have hxl : xs'.length = M'.length := by have := HMa.out.len; rw [hm'] at this; simpa using this
        obtain ⟨u', hu', hxo⟩ := HM.out.row M'.length r (by simp)
        have eu : u' = u := by
          rw [List.getElem?_append_right (by omega), hxl, Nat.sub_self] at hu'
          simpa using hu'.symm
        subst eu
        obtain ⟨Ax, cx, rfl, hmx⟩ := tis_of_own hxo
        have hrr := HRow.out r (by simp)
        have hr8 : r.length ≤ 1024 := by have := hrr.1; rw [List.length_take] at this; omega
        have iw1 : IntKind.i64.wrap ((M'.length : Int) + 1 - 1) = (M'.length : Int) := by rw [show (M'.length : Int) + 1 - 1 = (M'.length : Int) by omega]; exact IntWalk.i64_in _ (by omega)
        have iw4 : IntKind.i64.wrap (M'.length : Int) = (M'.length : Int) := IntWalk.i64_in _ (by omega)
        have iw2 : (0 : Int) ≤ (M'.length : Int) := by omega
        have iw3 : (M'.length : Int) < (M'.length : Int) + 1 := by omega
        go_wp2
        clear x0 x1
        generalize hwb : wr.alloc (.cells #[.bool b.t.up, .slice b.A b.t.R.length b.c] 26) = wb at HBa HMa HQ HPb ⊢
        have hsb : wb.heap.size = wr.heap.size + 1 := by rw [← hwb]; simp
        have HSB := vl hsb
        have hq0 : wr.heap.size < wb.heap.size := by omega
        have hBb : w.heap.size ≤ wb.heap.size := by omega
        clear hwb hsb
        have HBb := vl (HB.out.trans (HBa.out.mono hB0))
        generalize hpe : wr.heap.size = p at HQ hq0 HSB hB0 ⊢
        have HPE := vl hpe
        clear hpe
        obtain ⟨q0, q1⟩ := HQ.out
        have c1 : wb.cell? ⟨g0, M'.length, none⟩ = some (.slice Ax r.length cx) := by
          have h := HMa.out.own
          rw [hm'] at h
          rw [h.cellAt _ (by omega)]; exact hu'
        have HV := vl (hmx.below HBa.out)
        have hxL := vl (fun k (hk : (Value.slice Ax r.length cx).ownBlock = some k) => (hxo.lt k hk).2)
        have HXO := vl (own_below hxo HBa.out)
        have HKx := vl ((HKr.out r (fun x hx => HTk.out x (hrr.2 x hx))).below HBb.out)
        have hg0 := HMa.out.own.lt g0 rfl
        have hm : ∀ w : World, (method 315 26 (.agg #[.bool b.t.up, .slice b.A b.t.R.length b.c]) "loop.example/g03317/impl.width").run Try.prog w = .ok (102, .agg #[.bool b.t.up, .slice b.A b.t.R.length b.c]) w := fun _ => by kernel_rfl
        clear hxo hu' hmx hrr hMl
        go_region_held3 (fun w' => w'.cell? ⟨g0, M'.length, none⟩ = some (.slice Ax r.length cx) ∧ w'.cell? ⟨p, 0, none⟩ = some (.bool b.t.up) ∧ w'.cell? ⟨p, 1, none⟩ = some (.slice b.A b.t.R.length b.c))
          (first | assumption | exact ⟨c1, q0, q1⟩ | exact S2 | exact S3)
          (first
            | (refine (twid_impl b.t.up b.A b.c b.t.R _ HMb.out ((HPb.out.below (Below.refl wb.heap.size wb).drew).below hb2)).mono ?_
               rintro e w3 ⟨rfl, hb3⟩
               have S3 : w3.cell? ⟨g0, M'.length, none⟩ = some (.slice Ax r.length cx) ∧ w3.cell? ⟨p, 0, none⟩ = some (.bool b.t.up) ∧ w3.cell? ⟨p, 1, none⟩ = some (.slice b.A b.t.R.length b.c) := by
                 obtain ⟨s0, s1, s2⟩ := S2
                 exact ⟨(hb3.cell (cell_lt' s0)).trans s0, (hb3.cell (cell_lt' s1)).trans s1, (hb3.cell (cell_lt' s2)).trans s2⟩)
            | (go_at_call 182
               refine (sumT_impl Ax cx r _ (by omega) (HKx.out.below (Below.refl wb.heap.size wb).drew) (HV.out.below (Below.refl wb.heap.size wb).drew)).mono ?_
               rintro e w2 ⟨rfl, hb2⟩
               have S2 : w2.cell? ⟨g0, M'.length, none⟩ = some (.slice Ax r.length cx) ∧ w2.cell? ⟨p, 0, none⟩ = some (.bool b.t.up) ∧ w2.cell? ⟨p, 1, none⟩ = some (.slice b.A b.t.R.length b.c) := ⟨(hb2.cell (cell_lt' c1)).trans c1, (hb2.cell (cell_lt' q0)).trans q0, (hb2.cell (cell_lt' q1)).trans q1⟩))
        have hb13 : Below wb.heap.size wb w3 := (Below.refl wb.heap.size wb).drew.trans (hb2.trans (hb3.mono hb2.size))
        have HB3 := vl (HBb.out.trans (hb13.mono hBb))
        have HM3 := vl (HMa.out.below hb13)
        have HX3 := vl (own_below HXO.out hb13)
        have z3 : w3.cell? ⟨g0, M'.length, none⟩ = some (.slice Ax r.length cx) ∧ w3.cell? ⟨p, 0, none⟩ = some (.bool b.t.up) ∧ w3.cell? ⟨p, 1, none⟩ = some (.slice b.A b.t.R.length b.c) := S3
        have hB3 : w.heap.size ≤ w3.heap.size := HB3.out.size
        have hp3 : p < w3.heap.size := Nat.lt_of_lt_of_le hq0 hb13.size
        have hrl : (r ++ [b]).length = r.length + 1 := by simp
        clear hb2 hb3 hb13 S2 S3 c1 q0 q1
        obtain ⟨c3, q0, q1⟩ := z3
        rw [IntWalk.i64_left]
        generalize hsm : wrap64 (sumX r + widX b.t.R) = sm
        by_cases hfit : sm ≤ W
        · have HQ2 := vl (show sideP (fits_t W) (L.take (k + 1)) = M' ++ [r ++ [b]] from by rw [HS.out]; exact putP_in (by unfold fits_t; rw [hsm]; exact decide_eq_true hfit))
          clear hsm hm
          go_wp2
          have hAl : ∀ o : Obj, (w3.alloc o).cell? ⟨p, 0, none⟩ = some (.bool b.t.up) ∧ (w3.alloc o).cell? ⟨p, 1, none⟩ = some (.slice b.A b.t.R.length b.c) ∧ (w3.alloc o).cell? ⟨g0, M'.length, none⟩ = some (.slice Ax r.length cx) := fun o => by
            have hb := (Below.refl w3.heap.size w3).alloc (Nat.le_refl _) o
            exact ⟨(hb.cell (cell_lt' q0)).trans q0, (hb.cell (cell_lt' q1)).trans q1, (hb.cell (cell_lt' c3)).trans c3⟩
          refine wp_region_last2 (fun w' => w'.cell? ⟨p, 0, none⟩ = some (.bool b.t.up) ∧ w'.cell? ⟨p, 1, none⟩ = some (.slice b.A b.t.R.length b.c) ∧ w'.cell? ⟨g0, M'.length, none⟩ = some (.slice Ax r.length cx)) (by kernel_rfl) (by simp only [List.pop_toArray, List.dropLast_cons_cons, List.dropLast_singleton]; rfl) (by rfl) (by rfl) (by kernel_rfl) ⟨q0, q1, c3⟩ (fun hHeld => ?_)
          refine wpAnyH_take (i := 0) (oi := _) (v := ?_) rfl (by kernel_rfl) (by kernel_rfl) (by kernel_rfl) (fun _ _ _ h => h) (Or.inl ⟨by rfl, ?_⟩) (by assumption) ?_
          rotate_left 1
          · intro w hSw
            try dsimp only at hSw
            go_simp
            try with_reducible rfl
          try simp only [Act.put, List.getElem_toArray, List.getElem_cons_succ, List.getElem_cons_zero, List.setIfInBounds_toArray, List.set_cons_zero, List.set_cons_succ]
          refine wpAnyH_take (i := 1) (oi := _) (v := ?_) rfl (by kernel_rfl) (by kernel_rfl) (by kernel_rfl) (fun _ _ _ h => h) (Or.inl ⟨by rfl, ?_⟩) (by assumption) ?_
          rotate_left 1
          · intro w hSw
            try dsimp only at hSw
            go_simp
            try with_reducible rfl
          try simp only [Act.put, List.getElem_toArray, List.getElem_cons_succ, List.getElem_cons_zero, List.setIfInBounds_toArray, List.set_cons_zero, List.set_cons_succ]
          refine wpAnyH_take (i := 2) (oi := _) (v := ?_) rfl (by kernel_rfl) (by kernel_rfl) (by kernel_rfl) (fun _ _ _ h => h) (Or.inl ⟨by rfl, ?_⟩) (by assumption) ?_
          rotate_left 1
          · intro w hSw
            try dsimp only at hSw
            go_simp
            try with_reducible rfl
          try simp only [Act.put, List.getElem_toArray, List.getElem_cons_succ, List.getElem_cons_zero, List.setIfInBounds_toArray, List.set_cons_zero, List.set_cons_succ]
          refine wpAnyH_take (i := 3) (oi := _) (v := ?_) rfl (by kernel_rfl) (by kernel_rfl) (by kernel_rfl) (fun _ _ _ h => h) (Or.inl ⟨by rfl, ?_⟩) (by assumption) ?_
          rotate_left 1
          · intro w hSw
            try dsimp only at hSw
            go_simp
            try with_reducible rfl
          try simp only [Act.put, List.getElem_toArray, List.getElem_cons_succ, List.getElem_cons_zero, List.setIfInBounds_toArray, List.set_cons_zero, List.set_cons_succ]
          refine wpAnyH_take (i := 4) (oi := _) (v := ?_) rfl (by kernel_rfl) (by kernel_rfl) (by kernel_rfl) (fun _ _ _ h => h) (Or.inl ⟨by rfl, ?_⟩) (by assumption) ?_
          rotate_left 1
          · intro w hSw
            try dsimp only at hSw
            go_simp
            try with_reducible rfl
          try simp only [Act.put, List.getElem_toArray, List.getElem_cons_succ, List.getElem_cons_zero, List.setIfInBounds_toArray, List.set_cons_zero, List.set_cons_succ]
          refine wpAnyH_take (i := 5) (oi := _) (v := ?_) rfl (by kernel_rfl) (by kernel_rfl) (by kernel_rfl) (fun _ _ _ h => h) (Or.inl ⟨by rfl, ?_⟩) (by assumption) ?_
          rotate_left 1
          · intro w hSw
            try dsimp only at hSw
            go_simp
            try with_reducible rfl
          try simp only [Act.put, List.getElem_toArray, List.getElem_cons_succ, List.getElem_cons_zero, List.setIfInBounds_toArray, List.set_cons_zero, List.set_cons_succ]
          refine wpAnyH_take (i := 6) (oi := _) (v := ?_) rfl (by kernel_rfl) (by kernel_rfl) (by kernel_rfl) (fun _ _ _ h => h) (Or.inl ⟨by rfl, ?_⟩) (by assumption) ?_
          rotate_left 1
          · intro w hSw
            try dsimp only at hSw
            go_simp
            try with_reducible rfl
          try simp only [Act.put, List.getElem_toArray, List.getElem_cons_succ, List.getElem_cons_zero, List.setIfInBounds_toArray, List.set_cons_zero, List.set_cons_succ]
          refine wpAnyH_ready (rs := [7]) (by kernel_rfl) (by simp) ?_
          refine AllReadyH.cons (o := _) rfl (fun K hK => ?_) AllReadyH.nil
          go_simp
          refine hK.out _ _ (hAl _) (fun hHeld => ?_)
          clear hK K
          try simp only [Act.put, List.getElem_toArray, List.getElem_cons_succ, List.getElem_cons_zero, List.setIfInBounds_toArray, List.set_cons_zero, List.set_cons_succ]
          refine wpAnyH_ready (rs := [8]) (by kernel_rfl) (by simp) ?_
          refine AllReadyH.cons (o := _) rfl (fun K hK => ?_) AllReadyH.nil
          refine step_append_lies _ (by rfl) _ _ 71 (by rfl) w.heap.size 26 i0 _ 2 32 Try.underlying71 hi hz0 hz1 hz2 rfl (by decide) (.slice Ax r.length cx) r.length (til r) (by rfl) (HX3.out.alloc _) ⟨w3.heap.size, 0, none⟩ 1 1 b.cells (by rfl) rfl (fun j x hx => World.news_of_block (heap_alloc_new _ _) j x (by simpa [Ti.cells] using hx)) (by intro x hx; simp [Ti.cells] at hx; rcases hx with rfl | rfl <;> rfl) (by omega) (by unfold maxLen; omega) (by omega) (by simp; omega) _ rfl ?_
          intro g3 cap w4 hown hgrow hat hlt3
          have hown' : w4.ownsRow w.heap.size 26 2 (.slice (some ⟨g3, 0, none⟩) (r ++ [b]).length cap) (r ++ [b]).length (til (r ++ [b])) := by rw [hrl, til_app, til_one']; exact hown
          have hbW := HM3.out.below (show Below w3.heap.size w3 _ from by first | exact ((Below.refl w3.heap.size w3).drew.alloc (Nat.le_refl _) (.cells #[.bool b.t.up, .slice b.A b.t.R.length b.c] 26)) | exact ((Below.refl w3.heap.size w3).alloc (Nat.le_refl _) (.cells #[.bool b.t.up, .slice b.A b.t.R.length b.c] 26)).drew)
          have HG4 := vl (hbW.growLast hne hown' hgrow (by simpa using hat))
          obtain ⟨d1, d2⟩ := hbW.slot hne hgrow
          have hb4 : Below w.heap.size w3 w4 := ((Below.refl w.heap.size w3).drew.alloc (show w.heap.size ≤ w3.heap.size by omega) (.cells #[.bool b.t.up, .slice b.A b.t.R.length b.c] 26)).trans (below_app' (HX3.out.alloc (.cells #[.bool b.t.up, .slice b.A b.t.R.length b.c] 26)) hgrow (by simp; omega))
          have hwx : (.slice Ax r.length cx : Value).ownBlock ≠ some p := fun e => by have h1 := hxL.out p e; have h2 := HPE.out; omega
          have hqe : ∀ j, w4.cell? ⟨p, j, none⟩ = w3.cell? ⟨p, j, none⟩ := fun j => (World.cell?_of_block (hgrow.block p (by simp; omega) (fun e => hwx e.symm))).trans ((((Below.refl w3.heap.size w3).drew.alloc (Nat.le_refl _) (.cells #[.bool b.t.up, .slice b.A b.t.R.length b.c] 26)).cell (p := ⟨p, j, none⟩) hp3))
          have Q4 : w4.cell? ⟨p, 0, none⟩ = some (.bool b.t.up) ∧ w4.cell? ⟨p, 1, none⟩ = some (.slice b.A b.t.R.length b.c) ∧ w4.cell? ⟨g0, M'.length, none⟩ = some (.slice Ax r.length cx) := ⟨(hqe 0).trans q0, (hqe 1).trans q1, d1⟩
          have HB4 := vl (HB3.out.trans hb4)
          clear hown hown' hgrow hat hlt3 hbW hb4 hwx hqe
          refine hK.out _ _ Q4 (fun hHeld => ?_)
          clear hK K
          try simp only [Act.put, List.getElem_toArray, List.getElem_cons_succ, List.getElem_cons_zero, List.setIfInBounds_toArray, List.set_cons_zero, List.set_cons_succ]
          refine wpAnyH_take (i := 9) (oi := _) (v := ?_) rfl (by kernel_rfl) (by kernel_rfl) (by kernel_rfl) (fun _ _ _ h => h) (Or.inl ⟨by rfl, ?_⟩) (by assumption) ?_
          rotate_left 1
          · intro w hSw
            try dsimp only at hSw
            go_simp
            try with_reducible rfl
          try simp only [Act.put, List.getElem_toArray, List.getElem_cons_succ, List.getElem_cons_zero, List.setIfInBounds_toArray, List.set_cons_zero, List.set_cons_succ]
          refine wpAnyH_done (by kernel_rfl) ?_ _
          unfold QL
          go_simp
          all_goals
            rw [hrl] at HG4
            clear Q4 d1 d2 c3 q0 q1 iw1 iw2 iw3 iw4
            go_wp2
            go_roundw
            case rel => exact ⟨k + 1, _, by omega, by go_num, vl (HB4.out.setCell hg0.1 _), vl (by rw [HQ2.out]; exact HG4.out)⟩
            case measure => simp [intOf]; omega
        · have hov : W < sm := by omega
          have HQ2 := vl (show sideP (fits_t W) (L.take (k + 1)) = (M' ++ [r]) ++ [[b]] from by rw [HS.out]; exact putP_new (by unfold fits_t; rw [hsm]; simp; omega))
          have HBq := HB3
          have HMq := HM3
          have hBq := hB3
          have hml : (M' ++ [r]).length = M'.length + 1 := hm'
          clear hsm hm hfit
          have hba2 := (Below.refl w3.heap.size w3).alloc (Nat.le_refl _) (.cells #[.bool b.t.up, .slice b.A b.t.R.length b.c] 26)
          have HBA2 := vl hba2
          have HMa2 := vl (HMq.out.below hba2)
          have HU := vl (show (w3.alloc (.cells #[.bool b.t.up, .slice b.A b.t.R.length b.c] 26)).ownsRow w3.heap.size 26 2 (.slice (some ⟨w3.heap.size, 0, none⟩) 1 1) 1 (til [b]) from by rw [til_one']; exact own_row_t w3 b)
          clear hba2
          go_wp2_with (at_builtin; refine wpList_app rfl _ _ 175 rfl w.heap.size 71 j0 _ 1 24 Try.underlying175 hj hy0 hy1 hy2 rfl (by decide) (.slice (some ⟨g0, 0, none⟩) (M'.length + 1) d) (M'.length + 1) (xs' ++ [.slice Ax r.length cx]) rfl (by have := HMa2.out.own; rw [hml] at this; exact this.alloc _) (some ⟨w3.heap.size + 1, 0, none⟩) 1 1 [.slice (some ⟨w3.heap.size, 0, none⟩) 1 1] rfl rfl (fun _ => ⟨⟨w3.heap.size + 1, 0, none⟩, rfl, fun j u hu => World.news_of_block (by have := heap_alloc_new (w3.alloc (.cells #[.bool b.t.up, .slice b.A b.t.R.length b.c] 26)) (.cells #[.slice (some ⟨w3.heap.size, 0, none⟩) 1 1] 71); simpa using this) j u (by simpa using hu)⟩) (fun x hx => by simp at hx; subst hx; rfl) (by unfold maxLen; omega) (by omega) (by simp; omega) ?_)
          intro v' w4 hown hgr
          have HM4 := vl (HMq.out.snoc hne (r := [b]) hBq HBA2.out HU.out (by rw [hml]; first | exact hown | (rw [List.append_assoc]; exact hown)) hgr)
          have hb4 : Below w.heap.size w3 w4 := (HBA2.out.mono hBq).trans (((Below.refl w.heap.size _).alloc (by simp; omega) _).trans (below_app' (HMa2.out.own.alloc _) hgr (by simp; omega)))
          have HB4 := vl (HBq.out.trans hb4)
          clear hown hgr hb4
          go_wp2
          go_roundw
          case rel => exact ⟨k + 1, _, by omega, by go_num, HB4, vl (by rw [HQ2.out]; exact HM4.out)⟩
          case measure => simp [intOf]; omega
    · obtain rfl : k = L.length := by omega
      have HM2 := HM
      rw [List.take_length] at HM2
      go_wp2
      go_ret
      exact ⟨⟨_, xs, rfl, HM2.out⟩, HB.out⟩
end Go.Proofs.Ytmfeleocjmdooaa.C1
