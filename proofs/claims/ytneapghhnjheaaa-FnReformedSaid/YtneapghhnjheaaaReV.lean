/- What the program's ReformTrain calls: all boats of a row of vessels, whether one is too wide, boats side by side. -/
import Derived.Test.YtneapghhnjheaaaSideI
namespace Go.Proofs.Ytneapghhnjheaaa.C1
open Go.ChangeShapes Go.WideShapes Go.ChangeAt Go.RowKit
set_option linter.unusedVariables false

set_option maxRecDepth 100000 in
set_option maxHeartbeats 2000000 in
theorem boats_v (A : Option Addr) (c : Nat) (L : List Bt) (w : World) (hn : L.length ≤ 1048576) (hp : Vsl w A L) :
    Calls Try.prog 77 #[.slice A L.length c] w fun e w' => (∃ v, e = .returned v ∧ w'.ownsRow w.heap.size 29 6 v L.length (btl L)) ∧ Below w.heap.size w w' := by
  obtain ⟨i0, hi, hz0, hz1, hz2⟩ := info_parts infoB2
  have HP := vl hp
  clear hp
  go_enter Try.func77, Try.ntmps77
  go_wp2
  go_loopw [3, 10] (fun v i wr => ∃ k : Nat, k ≤ L.length ∧ i = .int .i64 k ∧ Veil (Below w.heap.size w wr) ∧ Veil (wr.ownsRow w.heap.size 29 6 v k (btl (L.take k)))) (fun _ i _ => L.length - (intOf i).toNat)
  case atStart => exact ⟨0, by omega, rfl, vl (Below.refl _ _), vl (own_nil _ _ _ _)⟩
  case round =>
    obtain ⟨k, hk, rfl, HB, HO⟩ := hrel
    by_cases hlt : k < L.length
    · obtain ⟨b, hb⟩ := get_of hlt
      obtain ⟨g, rfl, hc⟩ := (HP.out.below HB.out) (by omega)
      have x0 := hc k b hb
      have HI := vl (show btl (L.take (k + 1)) = btl (L.take k) ++ btl [b] by rw [List.take_add_one, hb, btl_app]; rfl)
      have q1 := as_bb (.agg #[.int .i64 b.i, .int .i64 b.l, .int .i64 b.w, .int .i64 b.d, .int .i64 b.s, .int .i64 b.c])
      clear hc hb
      go_wp2_with (at_builtin; refine wpList_app rfl _ _ 30 rfl w.heap.size 29 i0 _ 6 48 Try.underlying30 hi hz0 hz1 hz2 rfl (by decide) _ _ _ rfl ((HO.out.alloc _).alloc _) (some ⟨wr.heap.size + 1, 0, none⟩) 1 1 (btl [b]) rfl (btl_len _) ?c1 btl_cell ?c3 ?c4 ?c5 ?_)
      case c1 => exact fun _ => ⟨_, rfl, fun j u hu => World.news_of_block (by have := heap_alloc_new (wr.alloc (.cells #[.int .i64 b.i, .int .i64 b.l, .int .i64 b.w, .int .i64 b.d, .int .i64 b.s, .int .i64 b.c] 29)) (.cells #[.int .i64 b.i, .int .i64 b.l, .int .i64 b.w, .int .i64 b.d, .int .i64 b.s, .int .i64 b.c] 29); simpa using this) j u (by rw [btl_one'] at hu; simpa [Bt.cells] using hu)⟩
      case c3 => unfold maxLen; omega
      case c4 => omega
      case c5 => have := HB.out.size; simp; omega
      intro v' w2 hown hgr
      have HB2 := vl (((HB.out.alloc HB.out.size (.cells #[.int .i64 b.i, .int .i64 b.l, .int .i64 b.w, .int .i64 b.d, .int .i64 b.s, .int .i64 b.c] 29)).alloc (by have := HB.out.size; simp; omega) (.cells #[.int .i64 b.i, .int .i64 b.l, .int .i64 b.w, .int .i64 b.d, .int .i64 b.s, .int .i64 b.c] 29)).trans (below_app' ((HO.out.alloc (.cells #[.int .i64 b.i, .int .i64 b.l, .int .i64 b.w, .int .i64 b.d, .int .i64 b.s, .int .i64 b.c] 29)).alloc (.cells #[.int .i64 b.i, .int .i64 b.l, .int .i64 b.w, .int .i64 b.d, .int .i64 b.s, .int .i64 b.c] 29)) hgr (by have := HB.out.size; simp; omega)))
      rw [← HI.out] at hown
      have HO2 := vl hown
      clear hown hgr x0
      go_wp2
      go_roundw
      case rel => exact ⟨k + 1, by omega, by go_num, HB2, HO2⟩
      case measure => simp [intOf]; omega
    · obtain rfl : k = L.length := by omega
      have HO2 := HO
      rw [List.take_length] at HO2
      go_wp2
      go_ret
      exact ⟨⟨_, rfl, HO2.out⟩, HB.out⟩
def wide (W : Int) (b : Bt) : Bool := decide (W < b.w)
theorem wide_impl (W : Int) (q : Nat) (b : Bt) (w : World) (hq : w.cell? ⟨q, 0, none⟩ = some (.int .i64 W)) :
    Calls Try.prog 84 #[.agg #[.int .i64 b.i, .int .i64 b.l, .int .i64 b.w, .int .i64 b.d, .int .i64 b.s, .int .i64 b.c], .pointer (some ⟨q, 0, none⟩)] w fun e w' => e = .returned (.bool (wide W b)) ∧ Below w.heap.size w w' := by
  have hba := (Below.refl w.heap.size w).alloc (Nat.le_refl _) (.cells #[.int .i64 b.i, .int .i64 b.l, .int .i64 b.w, .int .i64 b.d, .int .i64 b.s, .int .i64 b.c] 29)
  have HB0 := vl hba
  have hq0 := (hba.cell (cell_lt' hq)).trans hq
  clear hba hq
  go_enter Try.func84, Try.ntmps84
  go_wp2
  go_ret
  exact ⟨rfl, by (repeat' (first | (with_reducible exact Below.refl _ _) | (with_reducible refine Below.drew ?_) | (with_reducible refine Below.alloc ?_ ?_ _) | (with_reducible refine Below.setCell ?_ ?_ _) | (with_reducible refine Below.trans ?_ (HB0.out.mono ?_)) | (first | omega | (simp; omega) | (simp; done))))⟩
set_option maxHeartbeats 1000000 in
theorem index_thin (W : Int) (q : Nat) (A : Option Addr) (c : Nat) (L : List Bt) (w : World) (hn : L.length ≤ 1048576) (hp : Bts w A L) (hq : w.cell? ⟨q, 0, none⟩ = some (.int .i64 W)) (h : ∀ b ∈ L, wide W b = false) :
    Calls Try.prog 141 #[.slice A L.length c, .func (Fn.func 84) #[] #[.pointer (some ⟨q, 0, none⟩)]] w fun e w' => e = .returned (.int .i64 (-1)) ∧ Below w.heap.size w w' := by
  have HP := vl hp
  have HO := vl h
  have HC := vl hq
  clear hp h hq
  go_enter Try.func141, Try.ntmps141
  go_wp2
  go_loopw [8] (fun i wr => ∃ k : Nat, k ≤ L.length ∧ i = .int .i64 k ∧ Veil (Below w.heap.size w wr)) (fun i _ => L.length - (intOf i).toNat)
  case atStart => exact ⟨0, by omega, rfl, vl (Below.refl _ _)⟩
  case round =>
    obtain ⟨k, hk, rfl, HB⟩ := hrel
    by_cases hlt : k < L.length
    · obtain ⟨b, hb⟩ := get_of hlt
      obtain ⟨g, o, rfl, hc⟩ := (HP.out.below HB.out) (by omega)
      obtain ⟨x0, x1, x2, x3, x4, x5⟩ := hc k b hb
      have HK := vl (HO.out b (mem_of hb))
      have HC1 := vl ((HB.out.cell (cell_lt' HC.out)).trans HC.out)
      clear hc hb
      go_wp2_with fail
      refine (wide_impl W q b _ HC1.out).mono ?_
      rintro e w1 ⟨rfl, hb1⟩
      rw [HK.out]
      have HB1 := vl (HB.out.trans (hb1.mono HB.out.size))
      clear hb1
      go_wp2
      go_roundw
      case rel => exact ⟨k + 1, by omega, by go_num, HB1⟩
      case measure => simp [intOf]; omega
    · go_wp2
      go_ret
      exact ⟨rfl, HB.out⟩
set_option maxHeartbeats 1000000 in
theorem index_wide (W : Int) (q : Nat) (A : Option Addr) (c : Nat) (L : List Bt) (w : World) (hn : L.length ≤ 1048576) (hp : Bts w A L) (hq : w.cell? ⟨q, 0, none⟩ = some (.int .i64 W)) (h : ∃ b ∈ L, wide W b = true) :
    Calls Try.prog 141 #[.slice A L.length c, .func (Fn.func 84) #[] #[.pointer (some ⟨q, 0, none⟩)]] w fun e w' => (∃ k : Nat, k < L.length ∧ e = .returned (.int .i64 (k : Int))) ∧ Below w.heap.size w w' := by
  obtain ⟨bj, hm, hbj⟩ := h
  obtain ⟨j, hj⟩ := List.getElem?_of_mem hm
  have hjl := len_of hj
  have HP := vl hp
  have HC := vl hq
  have HJ := vl (And.intro hj hbj)
  clear hp hj hbj hm hq
  go_enter Try.func141, Try.ntmps141
  go_wp2
  go_loopw [8] (fun i wr => ∃ k : Nat, k ≤ j ∧ i = .int .i64 k ∧ Veil (Below w.heap.size w wr)) (fun i _ => L.length - (intOf i).toNat)
  case atStart => exact ⟨0, by omega, rfl, vl (Below.refl _ _)⟩
  case round =>
    obtain ⟨k, hk, rfl, HB⟩ := hrel
    have hlt : k < L.length := by omega
    obtain ⟨b, hb⟩ := get_of hlt
    obtain ⟨g, o, rfl, hc⟩ := (HP.out.below HB.out) (by omega)
    obtain ⟨x0, x1, x2, x3, x4, x5⟩ := hc k b hb
    have HK := vl hb
    have HC1 := vl ((HB.out.cell (cell_lt' HC.out)).trans HC.out)
    clear hc hb
    go_wp2_with fail
    refine (wide_impl W q b _ HC1.out).mono ?_
    rintro e w1 ⟨rfl, hb1⟩
    have HB1 := vl (HB.out.trans (hb1.mono HB.out.size))
    clear hb1 x0 x1 x2 x3 x4 x5
    cases hok : wide W b with
    | false =>
      have hkj : k + 1 ≤ j := by
        rcases Nat.lt_or_ge k j with h | h
        · exact h
        · obtain rfl : k = j := by omega
          have := HJ.out.1
          rw [HK.out] at this
          injection this with this
          rw [this, HJ.out.2] at hok; cases hok
      clear hok
      go_wp2
      go_roundw
      case rel => exact ⟨k + 1, hkj, by go_num, HB1⟩
      case measure => simp [intOf]; omega
    | true =>
      clear hok
      go_wp2
      go_ret
      exact ⟨⟨k, hlt, rfl⟩, HB1.out⟩
theorem any_wide (W : Int) (q : Nat) (A : Option Addr) (c : Nat) (L : List Bt) (w : World) (hn : L.length ≤ 1048576) (hp : Bts w A L) (hq : w.cell? ⟨q, 0, none⟩ = some (.int .i64 W)) :
    Calls Try.prog 82 #[.slice A L.length c, .func (Fn.func 84) #[] #[.pointer (some ⟨q, 0, none⟩)]] w fun e w' => e = .returned (.bool (L.any (wide W))) ∧ Below w.heap.size w w' := by
  have HP := vl hp
  have HC := vl hq
  clear hp hq
  cases h : L.any (wide W) with
  | false =>
    have HO := vl (show ∀ b ∈ L, wide W b = false from fun b hb => by
      have := (List.any_eq_false.1 h) b hb
      simpa using this)
    clear h
    go_enter Try.func82, Try.ntmps82
    go_wp2_with fail
    refine (index_thin W q _ _ L _ hn HP.out HC.out HO.out).mono ?_
    rintro e w1 ⟨rfl, hb1⟩
    have HB1 := vl hb1
    clear hb1
    go_wp2
    go_ret
    exact ⟨rfl, HB1.out⟩
  | true =>
    have HO := vl (show ∃ b ∈ L, wide W b = true from List.any_eq_true.1 h)
    clear h
    go_enter Try.func82, Try.ntmps82
    go_wp2_with fail
    refine (index_wide W q _ _ L _ hn HP.out HC.out HO.out).mono ?_
    rintro e w1 ⟨⟨k, hk, rfl⟩, hb1⟩
    have HB1 := vl hb1
    have k0 : (0 : Int) ≤ (k : Int) := by omega
    clear hb1
    go_wp2
    go_ret
    exact ⟨rfl, HB1.out⟩
/-- A boat as a vessel. -/
def vb (b : Bt) : Vs := ⟨.iface 29 (.agg #[.int .i64 b.i, .int .i64 b.l, .int .i64 b.w, .int .i64 b.d, .int .i64 b.s, .int .i64 b.c]), b.l, b.w⟩
theorem sum_vb (r : List Bt) : sumG Vs.wd (r.map vb) = sumG Bt.w r := by
  unfold sumG; rw [List.foldl_map]; rfl
theorem put_vb (W : Int) (M : List (List Bt)) (b : Bt) : putG W Vs.wd (M.map (List.map vb)) (vb b) = (putG W Bt.w M b).map (List.map vb) := by
  rcases lastG M with rfl | ⟨M', r, rfl⟩
  · rfl
  · rw [List.map_append]
    show putG W Vs.wd (M'.map (List.map vb) ++ [r.map vb]) (vb b) = _
    by_cases h : sumG Bt.w r + b.w ≤ W
    · rw [putG_in (by rw [sum_vb]; exact h), putG_in h]; simp
    · rw [putG_new (by rw [sum_vb]; exact h), putG_new h]; simp
theorem side_vb (W : Int) (L : List Bt) : sideG W Vs.wd (L.map vb) = (reR W L).map (List.map vb) := by
  rw [reR_side]
  unfold sideG
  rw [List.foldl_map]
  have h : ∀ (L : List Bt) (M : List (List Bt)), L.foldl (fun M b => putG W Vs.wd M (vb b)) (M.map (List.map vb)) = (L.foldl (putG W Bt.w) M).map (List.map vb) := by
    intro L
    induction L with
    | nil => intro M; rfl
    | cons b L ih => intro M; rw [List.foldl_cons, List.foldl_cons, put_vb, ih]
  exact h L []
theorem rows_vb (M : List (List Bt)) : rowsV (M.map (List.map vb)) = M.map vsl := by
  unfold rowsV vsl
  rw [List.map_map]
  congr 1
  funext r
  simp [vb]
theorem wid_vb (w : World) (b : Bt) : WidV w (vb b).v (vb b).wd := by
  refine ⟨29, .agg #[.int .i64 b.i, .int .i64 b.l, .int .i64 b.w, .int .i64 b.d, .int .i64 b.s, .int .i64 b.c], 193, rfl, fun _ => by kernel_rfl, fun xs w' => by kernel_rfl, fun w' _ => bwid_impl b w'⟩
theorem side_boats (W : Int) (A : Option Addr) (c : Nat) (L : List Bt) (w : World) (hn : L.length ≤ 8) (hb : ∀ b ∈ L, 0 ≤ b.w ∧ b.w ≤ 200) (hp : Vsl w A L) :
    Calls Try.prog 85 #[.int .i64 W, .slice A L.length c] w fun e w' => (∃ v xs, e = .returned v ∧ VRows w' w.heap.size v ((reR W L).map vsl) xs) ∧ Below w.heap.size w w' := by
  have h := side_impl W A c (L.map vb) w (by simpa using hn) (by
    intro a ha
    obtain ⟨b, h1, rfl⟩ := List.mem_map.1 ha
    exact hb b h1) (by
    intro a ha
    obtain ⟨b, h1, rfl⟩ := List.mem_map.1 ha
    exact wid_vb w b) (by
    intro h0
    obtain ⟨g, e, hc⟩ := hp (by simpa using h0)
    refine ⟨g, e, fun i a hi => ?_⟩
    rw [List.getElem?_map] at hi
    cases hL : L[i]? with
    | none => rw [hL] at hi; cases hi
    | some b => rw [hL] at hi; injection hi with hi; subst hi; exact hc i b hL)
  rw [side_vb, rows_vb, List.length_map] at h
  exact h
end Go.Proofs.Ytneapghhnjheaaa.C1
