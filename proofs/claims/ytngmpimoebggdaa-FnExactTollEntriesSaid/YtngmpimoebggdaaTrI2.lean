/- Boats and trains of the program: all boats of a train; whether it is valid. -/
import Derived.Test.YtngmpimoebggdaaTrI1
import Derived.Test.YtngmpimoebggdaaBtI
import Derived.Deep.AppendLies
namespace Go.Proofs.Ytngmpimoebggdaa.C1
open Go.ChangeShapes Go.WideShapes Go.ChangeAt Go.RowKit
set_option linter.unusedVariables false

theorem own_src {w : World} {B n size : Nat} {e : TypeId} {v : Value} {xs : List Value} (h : w.ownsRow B e size v n xs) : ∃ A c, v = .slice A n c ∧ (0 < n → ∃ ad, A = some ad ∧ ∀ j u, xs[j]? = some u → w.cell? (ad.add j) = some u) := by
  rcases h.2 with ⟨rfl, rfl⟩ | ⟨g, cap, cur, rfl, _⟩
  · exact ⟨none, 0, rfl, fun h => by omega⟩
  · exact ⟨some ⟨g, 0, none⟩, cap, rfl, fun _ => ⟨_, rfl, h.cells rfl⟩⟩
theorem as_bt (x : Value) (w : World) : (Instr.typeAssert (.iface 29 x) 215 177 true).run Try.prog w = .ok (.tuple #[.agg #[.int .i64 0, .int .i64 0, .int .i64 0, .int .i64 0, .int .i64 0, .int .i64 0], .bool false]) w := by kernel_rfl
theorem as_tt (x : Value) (w : World) : (Instr.typeAssert (.iface 29 x) 215 29 true).run Try.prog w = .ok (.tuple #[x, .bool true]) w := by kernel_rfl
theorem as_bb (x : Value) (w : World) : (Instr.typeAssert (.iface 177 x) 215 177 true).run Try.prog w = .ok (.tuple #[x, .bool true]) w := by kernel_rfl
set_option maxRecDepth 100000 in
set_option maxHeartbeats 2000000 in
theorem boats_t (up : Bool) (A : Option Addr) (c g : Nat) (T : List (List Bt)) (w : World) (hm : Mod T) (hp : Trn w A T) (hv : w.cell? ⟨g, 0, none⟩ = some (.iface 29 (.agg #[.bool up, .slice A T.length c]))) :
    Calls Try.prog 142 #[.slice (some ⟨g, 0, none⟩) 1 1] w fun e w' => (∃ v, e = .returned v ∧ w'.ownsRow w.heap.size 177 6 v (bts T).length (btl (bts T))) ∧ Below w.heap.size w w' := by
  obtain ⟨i0, hi, hz0, hz1, hz2⟩ := info_parts infoB2
  have HM := vl hm
  have HP := vl hp
  have HV := vl hv
  have hn := hm.rows
  have ha := hm.all
  have q1 := as_bt (.agg #[.bool up, .slice A T.length c])
  have q2 := as_tt (.agg #[.bool up, .slice A T.length c])
  clear hm hp hv
  go_enter Try.func142, Try.ntmps142
  go_wp2
  go_loopw [3, 10] (fun v i wr => (i = .int .i64 0 ∧ v = .slice none 0 0 ∧ w = wr) ∨ (i = .int .i64 1 ∧ Veil (wr.ownsRow w.heap.size 177 6 v (bts T).length (btl (bts T))) ∧ Veil (Below w.heap.size w wr))) (fun _ i _ => 2 - (intOf i).toNat)
  case atStart => exact Or.inl ⟨rfl, rfl, rfl⟩
  case round =>
    rcases hrel with ⟨rfl, rfl, rfl⟩ | ⟨rfl, HO, HB⟩
    · have c0 := HV.out
      have HB0 := vl ((Below.refl w.heap.size w).alloc (Nat.le_refl _) (.cells #[.bool up, .slice A T.length c] 29))
      go_wp2_with fail
      refine (concat_b A c T _ HM.out (HP.out.below HB0.out)).mono ?_
      rintro e w1 ⟨⟨v, rfl, ho1⟩, hb1⟩
      have HB1 := vl (HB0.out.trans (hb1.mono (by simp)))
      obtain ⟨A1, c1, rfl, hs1⟩ := own_src ho1
      have HS1 := vl hs1
      clear hb1 ho1 hs1
      go_wp2_with (at_builtin; refine wpList_app rfl _ _ 173 rfl w.heap.size 177 i0 _ 6 48 Try.underlying173 hi hz0 hz1 hz2 rfl (by decide) _ _ _ rfl (own_nil _ _ _ _) A1 (bts T).length c1 (btl (bts T)) rfl (btl_len _) HS1.out btl_cell ?c3 ?c4 ?c5 ?_)
      case c3 => unfold maxLen; omega
      case c4 => omega
      case c5 => exact HB1.out.size
      intro v' w2 hown hgr
      have HB2 := vl (HB1.out.trans (below_app' (own_nil _ w.heap.size 177 6) hgr HB1.out.size))
      try rw [Nat.zero_add] at hown
      try rw [List.nil_append] at hown
      have HO2 := vl hown
      clear hown hgr
      go_wp2
      go_roundw
      case rel => exact Or.inr ⟨by go_num, HO2, HB2⟩
      case measure => simp [intOf]
    · go_wp2
      go_ret
      exact ⟨⟨_, rfl, HO.out⟩, HB.out⟩
/-- The Ids of boats as a function of their place. -/
def idf (L : List Bt) (i : Nat) : Int := ((idz L)[i]?).getD 0
theorem idf_at {L : List Bt} {k : Nat} {b : Bt} (h : L[k]? = some b) : idf L k = b.i := by unfold idf; rw [idz_at h]; rfl
set_option maxRecDepth 100000 in
set_option maxHeartbeats 1000000 in
theorem ids_impl (A : Option Addr) (c : Nat) (L : List Bt) (w : World) (hn : L.length ≤ 1048576) (hp : Bts w A L) :
    Calls Try.prog 146 #[.slice A L.length c] w fun e w' => (∃ v, e = .returned v ∧ w'.ownsRow w.heap.size 3 1 v L.length (itl L.length (idf L))) ∧ Below w.heap.size w w' := by
  obtain ⟨i0, hi, hz0, hz1, hz2⟩ := info_parts infoI
  have HP := vl hp
  clear hp
  go_enter Try.func146, Try.ntmps146
  go_wp2_with (at_make; refine wpList_make_own _ rfl _ _ 47 rfl w.heap.size 3 i0 (.int .i64 0) 1 Try.underlying47 hi hz0 hz1 .i64 .i64 _ L.length rfl rfl (by rfl) (by rw [hz2]; omega) (by unfold maxLen; omega) (Nat.le_refl _) ?_; intro w0 hown0 hgr0)
  have HB0 := vl (below_none hgr0)
  have HO0 := vl hown0
  clear hown0 hgr0
  go_wp2
  go_loopw [3, 11] (fun v i wr => ∃ k : Nat, k ≤ L.length ∧ i = .int .i64 k ∧ Veil (Below w.heap.size w wr) ∧ Veil (wr.ownsRow w.heap.size 3 1 v k (itl k (idf L)))) (fun _ i _ => L.length - (intOf i).toNat)
  case atStart => exact ⟨0, by omega, rfl, HB0, HO0⟩
  case round =>
    obtain ⟨k, hk, rfl, HB, HO⟩ := hrel
    by_cases hlt : k < L.length
    · obtain ⟨b, hb⟩ := get_of hlt
      obtain ⟨g, o, rfl, hc⟩ := (HP.out.below HB.out) (by omega)
      obtain ⟨x0, x1, x2, x3, x4, x5⟩ := hc k b hb
      have HI := vl (idf_at hb)
      clear hc hb
      go_wp2_with (at_builtin; refine wpList_app rfl _ _ 47 rfl w.heap.size 3 i0 _ 1 8 Try.underlying47 hi hz0 hz1 hz2 rfl (by decide) _ _ _ rfl ((HO.out.alloc _).alloc _) (some ⟨wr.heap.size + 1, 0, none⟩) 1 1 [.int .i64 b.i] rfl rfl ?c1 ?c2 ?c3 ?c4 ?c5 ?_)
      case c1 => exact fun _ => ⟨_, rfl, fun j u hu => World.news_of_block (by have := heap_alloc_new (wr.alloc (.cells #[.int .i64 b.i, .int .i64 b.l, .int .i64 b.w, .int .i64 b.d, .int .i64 b.s, .int .i64 b.c] 177)) (.cells #[.int .i64 b.i] 3); simpa using this) j u (by simpa using hu)⟩
      case c2 => intro u hu; simp at hu; subst hu; rfl
      case c3 => unfold maxLen; omega
      case c4 => omega
      case c5 => have := HB.out.size; simp; omega
      intro v' w2 hown hgr
      have HB2 := vl (((HB.out.alloc HB.out.size (.cells #[.int .i64 b.i, .int .i64 b.l, .int .i64 b.w, .int .i64 b.d, .int .i64 b.s, .int .i64 b.c] 177)).alloc (by have := HB.out.size; simp; omega) (.cells #[.int .i64 b.i] 3)).trans (below_app' ((HO.out.alloc (.cells #[.int .i64 b.i, .int .i64 b.l, .int .i64 b.w, .int .i64 b.d, .int .i64 b.s, .int .i64 b.c] 177)).alloc (.cells #[.int .i64 b.i] 3)) hgr (by have := HB.out.size; simp; omega)))
      rw [← HI.out, itl_snoc] at hown
      have HO2 := vl hown
      clear hown hgr x0 x1 x2 x3 x4 x5
      go_wp2
      go_roundw
      case rel => exact ⟨k + 1, by omega, by go_num, HB2, HO2⟩
      case measure => simp [intOf]; omega
    · obtain rfl : k = L.length := by omega
      go_wp2
      go_ret
      exact ⟨⟨_, rfl, HO.out⟩, HB.out⟩
theorem index_yes (A : Option Addr) (n c : Nat) (Z : Nat → Int) (x : Int) (w : World) (hn : n ≤ 1048576) (hp : 0 < n → ∃ g, A = some ⟨g, 0, none⟩ ∧ ∀ i, i < n → w.cell? ⟨g, i, none⟩ = some (.int .i64 (Z i))) (hx : ∃ i, i < n ∧ Z i = x) :
    Calls Try.prog 172 #[.slice A n c, .int .i64 x] w fun e w' => (∃ k : Nat, k < n ∧ e = .returned (.int .i64 (k : Int))) ∧ w = w' := by
  obtain ⟨i, hi, hxi⟩ := hx
  have HP := vl hp
  have HX := vl hxi
  clear hp hxi
  go_enter Try.func172, Try.ntmps172
  go_wp2
  go_loop [8] (fun v => ∃ k : Nat, k ≤ i ∧ v = .int .i64 k) (fun v => n - (intOf v).toNat)
  case atStart => exact ⟨0, by omega, rfl⟩
  case round =>
    obtain ⟨k, hk, rfl⟩ := hrel
    obtain ⟨g, rfl, hc⟩ := HP.out (by omega)
    have c0 := hc k (by omega)
    have hlt : k < n := by omega
    clear hc
    by_cases he0 : Z k = x
    · have he : (x == Z k) = true := by simp [he0]
      have he' : (Z k == x) = true := by simp [he0]
      clear he0
      go_wp2
      go_ret
      exact ⟨⟨k, hlt, rfl⟩, rfl⟩
    · have he : (x == Z k) = false := beq_eq_false_iff_ne.2 fun e => he0 e.symm
      have he' : (Z k == x) = false := beq_eq_false_iff_ne.2 he0
      have hki : k + 1 ≤ i := by
        rcases Nat.lt_or_ge k i with h | h
        · exact h
        · obtain rfl : k = i := by omega
          exact absurd HX.out he0
      clear he0
      go_wp2
      go_round
      case rel => exact ⟨k + 1, hki, by go_num⟩
      case measure => simp [intOf]; omega
set_option maxHeartbeats 1000000 in
theorem index_no (A : Option Addr) (n c : Nat) (Z : Nat → Int) (x : Int) (w : World) (hn : n ≤ 1048576) (hp : 0 < n → ∃ g, A = some ⟨g, 0, none⟩ ∧ ∀ i, i < n → w.cell? ⟨g, i, none⟩ = some (.int .i64 (Z i))) (hx : ∀ i, i < n → Z i ≠ x) :
    Calls Try.prog 172 #[.slice A n c, .int .i64 x] w fun e w' => e = .returned (.int .i64 (-1)) ∧ w = w' := by
  have HP := vl hp
  have HX := vl hx
  clear hp hx
  go_enter Try.func172, Try.ntmps172
  go_wp2
  go_loop [8] (fun i => ∃ k : Nat, k ≤ n ∧ i = .int .i64 k) (fun i => n - (intOf i).toNat)
  case atStart => exact ⟨0, by omega, rfl⟩
  case round =>
    obtain ⟨k, hk, rfl⟩ := hrel
    by_cases hlt : k < n
    · obtain ⟨g, rfl, hc⟩ := HP.out (by omega)
      have c0 := hc k hlt
      have he : (x == Z k) = false := beq_eq_false_iff_ne.2 fun e => HX.out k hlt e.symm
      have he' : (Z k == x) = false := beq_eq_false_iff_ne.2 (HX.out k hlt)
      clear hc
      go_wp2
      go_round
      case rel => exact ⟨k + 1, by omega, by go_num⟩
      case measure => simp [intOf]; omega
    · go_wp2
      go_ret
      exact ⟨rfl, rfl⟩
theorem has_no (A : Option Addr) (n c : Nat) (Z : Nat → Int) (x : Int) (w : World) (hn : n ≤ 1048576) (hp : 0 < n → ∃ g, A = some ⟨g, 0, none⟩ ∧ ∀ i, i < n → w.cell? ⟨g, i, none⟩ = some (.int .i64 (Z i))) (hx : ∀ i, i < n → Z i ≠ x) :
    Calls Try.prog 192 #[.slice A n c, .int .i64 x] w fun e w' => e = .returned (.bool false) ∧ w = w' := by
  have HP := vl hp
  have HX := vl hx
  clear hp hx
  go_enter Try.func192, Try.ntmps192
  go_wp2_with fail
  refine (index_no A n c Z x _ hn HP.out HX.out).mono ?_
  rintro e w' ⟨rfl, rfl⟩
  go_wp2
  go_ret
  exact ⟨rfl, rfl⟩
theorem has_yes (A : Option Addr) (n c : Nat) (Z : Nat → Int) (x : Int) (w : World) (hn : n ≤ 1048576) (hp : 0 < n → ∃ g, A = some ⟨g, 0, none⟩ ∧ ∀ i, i < n → w.cell? ⟨g, i, none⟩ = some (.int .i64 (Z i))) (hx : ∃ i, i < n ∧ Z i = x) :
    Calls Try.prog 192 #[.slice A n c, .int .i64 x] w fun e w' => e = .returned (.bool true) ∧ w = w' := by
  have HP := vl hp
  have HX := vl hx
  clear hp hx
  go_enter Try.func192, Try.ntmps192
  go_wp2_with fail
  refine (index_yes A n c Z x _ hn HP.out HX.out).mono ?_
  rintro e w' ⟨⟨k, hk, rfl⟩, rfl⟩
  have h0 : (0 : Int) ≤ (k : Int) := by omega
  go_wp2
  go_ret
  exact ⟨rfl, rfl⟩
set_option maxHeartbeats 1000000 in
theorem differ_impl (A : Option Addr) (c : Nat) (L : List Int) (w : World) (hn : L.length ≤ 1048576) (hc : L.length ≤ c) (hp : 0 < L.length → ∃ g, A = some ⟨g, 0, none⟩ ∧ ∀ i, i < L.length → w.cell? ⟨g, i, none⟩ = some (.int .i64 ((L[i]?).getD 0))) :
    Calls Try.prog 145 #[.slice A L.length c] w fun e w' => e = .returned (.bool (difB L)) ∧ w = w' := by
  have HP := vl hp
  clear hp
  go_enter Try.func145, Try.ntmps145
  go_wp2
  go_loop [7] (fun i => ∃ k : Nat, k ≤ L.length ∧ i = .int .i64 k ∧ Veil (difK L k = true)) (fun i => L.length - (intOf i).toNat)
  case atStart => exact ⟨0, by omega, rfl, vl rfl⟩
  case round =>
    obtain ⟨k, hk, rfl, HD⟩ := hrel
    by_cases hlt : k < L.length
    · obtain ⟨x, hx⟩ := get_of hlt
      obtain ⟨g, rfl, hcl⟩ := HP.out (by omega)
      have c0 := hcl k hlt
      rw [hx, Option.getD_some] at c0
      have HS := vl (show 0 < k → ∃ g', (some ⟨g, 0, none⟩ : Option Addr) = some ⟨g', 0, none⟩ ∧ ∀ i, i < k → w.cell? ⟨g', i, none⟩ = some (.int .i64 ((L[i]?).getD 0)) from fun _ => ⟨g, rfl, fun i hi => hcl i (by omega)⟩)
      have hkc : k ≤ c := by omega
      have HX := vl hx
      clear hcl hx
      by_cases hex : ∃ i, i < k ∧ (L[i]?).getD 0 = x
      · have HE := vl (show difB L = false by
          obtain ⟨i, hi, he⟩ := hex
          obtain ⟨y, hy⟩ := get_of (L := L) (k := i) (by omega)
          rw [hy, Option.getD_some] at he
          exact difK_no HX.out hi (he ▸ hy))
        have HH := vl hex
        clear hex
        go_wp2_with fail
        refine (has_yes _ k c (fun i => (L[i]?).getD 0) x _ (by omega) HS.out HH.out).mono ?_
        rintro e w' ⟨rfl, rfl⟩
        go_wp2
        go_ret
        exact ⟨ret_bool HE.out.symm, rfl⟩
      · have HH := vl (show ∀ i, i < k → (L[i]?).getD 0 ≠ x from fun i hi he => hex ⟨i, hi, he⟩)
        clear hex
        go_wp2_with fail
        refine (has_no _ k c (fun i => (L[i]?).getD 0) x _ (by omega) HS.out HH.out).mono ?_
        rintro e w' ⟨rfl, rfl⟩
        go_wp2
        go_round
        case rel =>
          refine ⟨k + 1, by omega, by go_num, vl (difK_yes HX.out HD.out fun i y hi hy => ?_)⟩
          have := HH.out i hi
          rwa [hy, Option.getD_some] at this
        case measure => simp [intOf]; omega
    · obtain rfl : k = L.length := by omega
      go_wp2
      go_ret
      exact ⟨ret_bool HD.out.symm, rfl⟩
end Go.Proofs.Ytngmpimoebggdaa.C1
