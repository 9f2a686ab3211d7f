/- What the program's ReformTrain calls: all boats of a row of vessels, whether one is too wide, boats side by side. -/
import Derived.Test.YtmfeleocjmdooaaSideI
namespace Go.Proofs.Ytmfeleocjmdooaa.C1
open Go.ChangeShapes Go.WideShapes Go.ChangeAt Go.RowKit
set_option linter.unusedVariables false

def wide (W : Int) (b : Bt) : Bool := decide (W < b.w)
theorem wide_impl (W : Int) (q : Nat) (b : Bt) (w : World) (hq : w.cell? ⟨q, 0, none⟩ = some (.int .i64 W)) :
    Calls Try.prog 109 #[.agg #[.int .i64 b.i, .int .i64 b.l, .int .i64 b.w, .int .i64 b.d, .int .i64 b.s, .int .i64 b.c], .pointer (some ⟨q, 0, none⟩)] w fun e w' => e = .returned (.bool (wide W b)) ∧ Below w.heap.size w w' := by
  have hba := (Below.refl w.heap.size w).alloc (Nat.le_refl _) (.cells #[.int .i64 b.i, .int .i64 b.l, .int .i64 b.w, .int .i64 b.d, .int .i64 b.s, .int .i64 b.c] 29)
  have HB0 := vl hba
  have hq0 := (hba.cell (cell_lt' hq)).trans hq
  clear hba hq
  go_enter Try.func109, Try.ntmps109
  go_wp2
  go_ret
  exact ⟨rfl, by (repeat' (first | (with_reducible exact Below.refl _ _) | (with_reducible refine Below.drew ?_) | (with_reducible refine Below.alloc ?_ ?_ _) | (with_reducible refine Below.setCell ?_ ?_ _) | (with_reducible refine Below.trans ?_ (HB0.out.mono ?_)) | (first | omega | (simp; omega) | (simp; done))))⟩
set_option maxHeartbeats 1000000 in
theorem index_thin (W : Int) (q : Nat) (A : Option Addr) (c : Nat) (L : List Bt) (w : World) (hn : L.length ≤ 1048576) (hp : Bts w A L) (hq : w.cell? ⟨q, 0, none⟩ = some (.int .i64 W)) (h : ∀ b ∈ L, wide W b = false) :
    Calls Try.prog 161 #[.slice A L.length c, .func (Fn.func 109) #[] #[.pointer (some ⟨q, 0, none⟩)]] w fun e w' => e = .returned (.int .i64 (-1)) ∧ Below w.heap.size w w' := by
  have HP := vl hp
  have HO := vl h
  have HC := vl hq
  clear hp h hq
  go_enter Try.func161, Try.ntmps161
  go_wp2
  go_loopw [8] (fun i wr => ∃ k : Nat, k ≤ L.length ∧ i = .int .i64 k ∧ Veil (Below w.heap.size w wr)) (fun i _ => L.length - (intOf i).toNat)
  case atStart => exact ⟨0, by omega, rfl, vl (Below.refl _ _)⟩
  case round =>
    obtain ⟨k, hk, rfl, HB⟩ := hrel
    by_cases hlt : k < L.length
    · obtain ⟨b, hb⟩ := get_of hlt
      obtain ⟨g, o, rfl, hc⟩ := (HP.out.below HB.out) (by omega)
      obtain ⟨x0, x1, x2, x3, x4, x5⟩ := hc k b hb
      have HK := vl (HO.out b (mem_of hb))
      have HC1 := vl ((HB.out.cell (cell_lt' HC.out)).trans HC.out)
      clear hc hb
      go_wp2_with fail
      refine (wide_impl W q b _ HC1.out).mono ?_
      rintro e w1 ⟨rfl, hb1⟩
      rw [HK.out]
      have HB1 := vl (HB.out.trans (hb1.mono HB.out.size))
      clear hb1
      go_wp2
      go_roundw
      case rel => exact ⟨k + 1, by omega, by go_num, HB1⟩
      case measure => simp [intOf]; omega
    · go_wp2
      go_ret
      exact ⟨rfl, HB.out⟩
set_option maxHeartbeats 1000000 in
theorem index_wide (W : Int) (q : Nat) (A : Option Addr) (c : Nat) (L : List Bt) (w : World) (hn : L.length ≤ 1048576) (hp : Bts w A L) (hq : w.cell? ⟨q, 0, none⟩ = some (.int .i64 W)) (h : ∃ b ∈ L, wide W b = true) :
    Calls Try.prog 161 #[.slice A L.length c, .func (Fn.func 109) #[] #[.pointer (some ⟨q, 0, none⟩)]] w fun e w' => (∃ k : Nat, k < L.length ∧ e = .returned (.int .i64 (k : Int))) ∧ Below w.heap.size w w' := by
  obtain ⟨bj, hm, hbj⟩ := h
  obtain ⟨j, hj⟩ := List.getElem?_of_mem hm
  have hjl := len_of hj
  have HP := vl hp
  have HC := vl hq
  have HJ := vl (And.intro hj hbj)
  clear hp hj hbj hm hq
  go_enter Try.func161, Try.ntmps161
  go_wp2
  go_loopw [8] (fun i wr => ∃ k : Nat, k ≤ j ∧ i = .int .i64 k ∧ Veil (Below w.heap.size w wr)) (fun i _ => L.length - (intOf i).toNat)
  case atStart => exact ⟨0, by omega, rfl, vl (Below.refl _ _)⟩
  case round =>
    obtain ⟨k, hk, rfl, HB⟩ := hrel
    have hlt : k < L.length := by omega
    obtain ⟨b, hb⟩ := get_of hlt
    obtain ⟨g, o, rfl, hc⟩ := (HP.out.below HB.out) (by omega)
    obtain ⟨x0, x1, x2, x3, x4, x5⟩ := hc k b hb
    have HK := vl hb
    have HC1 := vl ((HB.out.cell (cell_lt' HC.out)).trans HC.out)
    clear hc hb
    go_wp2_with fail
    refine (wide_impl W q b _ HC1.out).mono ?_
    rintro e w1 ⟨rfl, hb1⟩
    have HB1 := vl (HB.out.trans (hb1.mono HB.out.size))
    clear hb1 x0 x1 x2 x3 x4 x5
    cases hok : wide W b with
    | false =>
      have hkj : k + 1 ≤ j := by
        rcases Nat.lt_or_ge k j with h | h
        · exact h
        · obtain rfl : k = j := by omega
          have := HJ.out.1
          rw [HK.out] at this
          injection this with this
          rw [this, HJ.out.2] at hok; cases hok
      clear hok
      go_wp2
      go_roundw
      case rel => exact ⟨k + 1, hkj, by go_num, HB1⟩
      case measure => simp [intOf]; omega
    | true =>
      clear hok
      go_wp2
      go_ret
      exact ⟨⟨k, hlt, rfl⟩, HB1.out⟩
theorem any_wide (W : Int) (q : Nat) (A : Option Addr) (c : Nat) (L : List Bt) (w : World) (hn : L.length ≤ 1048576) (hp : Bts w A L) (hq : w.cell? ⟨q, 0, none⟩ = some (.int .i64 W)) :
    Calls Try.prog 110 #[.slice A L.length c, .func (Fn.func 109) #[] #[.pointer (some ⟨q, 0, none⟩)]] w fun e w' => e = .returned (.bool (L.any (wide W))) ∧ Below w.heap.size w w' := by
  have HP := vl hp
  have HC := vl hq
  clear hp hq
  cases h : L.any (wide W) with
  | false =>
    have HO := vl (show ∀ b ∈ L, wide W b = false from fun b hb => by
      have := (List.any_eq_false.1 h) b hb
      simpa using this)
    clear h
    go_enter Try.func110, Try.ntmps110
    go_wp2_with fail
    refine (index_thin W q _ _ L _ hn HP.out HC.out HO.out).mono ?_
    rintro e w1 ⟨rfl, hb1⟩
    have HB1 := vl hb1
    clear hb1
    go_wp2
    go_ret
    exact ⟨rfl, HB1.out⟩
  | true =>
    have HO := vl (show ∃ b ∈ L, wide W b = true from List.any_eq_true.1 h)
    clear h
    go_enter Try.func110, Try.ntmps110
    go_wp2_with fail
    refine (index_wide W q _ _ L _ hn HP.out HC.out HO.out).mono ?_
    rintro e w1 ⟨⟨k, hk, rfl⟩, hb1⟩
    have HB1 := vl hb1
    have k0 : (0 : Int) ≤ (k : Int) := by omega
    clear hb1
    go_wp2
    go_ret
    exact ⟨rfl, HB1.out⟩
theorem side_reR {W : Int} {L : List Bt} (h6 : L.length ≤ 6) (h : ∀ b ∈ L, BIn b) : sideP (fits_b W) L = reR W L := by
  rw [reR_side]
  refine side_same fun r a hr hx ha => ?_
  have e : widW r = sumG Bt.w r := widW_eq (by omega) fun b hb => h b (hx b hb)
  have h1 := (h a ha).w0
  have h2 := (h a ha).w1
  have h3 := sumG_bd (wd := Bt.w) (r := r) (hi := 200) (by omega) (fun b hb => by
    have := (h b (hx b hb)).w0
    have := (h b (hx b hb)).w1
    omega)
  have e2 : wrap64 (widW r + a.w) = sumG Bt.w r + a.w := by rw [e]; exact wrap_in64 (by omega)
  unfold fits_b
  rw [e2, decide_eq_true_eq]
theorem OwnRows.of_g {w : World} {B : Nat} {v : Value} {T : List (List Bt)} {xs : List Value} (h : GRows 29 30 6 btl w B v T xs) : OwnRows w B v T xs := ⟨h.own, h.row, h.ne⟩
end Go.Proofs.Ytmfeleocjmdooaa.C1
