/- Whether an entry, and a book, is valid: of the program and of its model. -/
import Derived.Test.YtngmpimoebggdaaEn
import Derived.Test.YtngmpimoebggdaaTs
import Derived.Test.YtngmpimoebggdaaEvM
import Derived.Laws.EntriesVeiled
namespace Go.Proofs.Ytngmpimoebggdaa.C1
open Go.ChangeShapes Go.WideShapes Go.ChangeAt Go.RowKit
set_option linter.unusedVariables false

theorem enOk_cases (b : En) : (enOk b = false ∧ (b.f != b.t) = false) ∨ (enOk b = false ∧ (b.f != b.t) = true ∧ inB b.f 0 11 = false) ∨ (enOk b = false ∧ (b.f != b.t) = true ∧ inB b.f 0 11 = true ∧ inB b.t 0 11 = false) ∨
    (enOk b = false ∧ (b.f != b.t) = true ∧ inB b.f 0 11 = true ∧ inB b.t 0 11 = true ∧ inB b.a 1 1000000000 = false) ∨ (enOk b = false ∧ (b.f != b.t) = true ∧ inB b.f 0 11 = true ∧ inB b.t 0 11 = true ∧ inB b.a 1 1000000000 = true ∧ inB b.m 0 1000000 = false) ∨
    (enOk b = inB b.y 0 9999 ∧ (b.f != b.t) = true ∧ inB b.f 0 11 = true ∧ inB b.t 0 11 = true ∧ inB b.a 1 1000000000 = true ∧ inB b.m 0 1000000 = true) := by
  unfold enOk
  by_cases h : b.f = b.t
  · left; simp [h]
  · right
    cases inB b.f 0 11 <;> cases inB b.t 0 11 <;> cases inB b.a 1 1000000000 <;> cases inB b.m 0 1000000 <;> simp [h]
set_option maxHeartbeats 2000000 in
theorem enok_spec (b : En) (w : World) : Calls Try.prog 93 #[.agg #[.int .i64 b.f, .int .i64 b.t, .int .i64 b.a, .int .i64 b.m, .int .i64 b.y]] w (GivesB w (enOk b)) := by
  have HB0 := vl ((Below.refl w.heap.size w).alloc (Nat.le_refl _) (.cells #[.int .i64 b.f, .int .i64 b.t, .int .i64 b.a, .int .i64 b.m, .int .i64 b.y] 136))
  rcases enOk_cases b with ⟨h, h1⟩ | ⟨h, h1, h2⟩ | ⟨h, h1, h2, h3⟩ | ⟨h, h1, h2, h3, h4⟩ | ⟨h, h1, h2, h3, h4, h5⟩ | ⟨h, h1, h2, h3, h4, h5⟩
  all_goals
    have H := vl h
    clear h
    go_enter Try.func93, Try.ntmps93
    go_wp2_with (go_at_call 65; refine (in_spec _ _ _ _).mono ?_; rintro e w' ⟨rfl, rfl⟩)
    go_ret
    exact ⟨ret_bool H.out.symm, HB0.out⟩
theorem acc_i (x : Int) (w : World) :
    Calls Try.prog 166 #[.int .i64 x] w fun e w' => e = .returned (.bool (inB x 0 11)) ∧ w = w' := by
  go_enter Try.func166, Try.ntmps166
  go_wp2_with (go_at_call 75; refine (within_i _ _ _ _).mono ?_; rintro e w' ⟨rfl, rfl⟩)
  go_ret
  exact ⟨rfl, rfl⟩
set_option maxHeartbeats 2000000 in
theorem enok_impl (b : En) (w : World) : Calls Try.prog 96 #[.agg #[.int .i64 b.f, .int .i64 b.t, .int .i64 b.a, .int .i64 b.m, .int .i64 b.y]] w (GivesB w (enOk b)) := by
  have HB0 := vl ((Below.refl w.heap.size w).alloc (Nat.le_refl _) (.cells #[.int .i64 b.f, .int .i64 b.t, .int .i64 b.a, .int .i64 b.m, .int .i64 b.y] 136))
  rcases enOk_cases b with ⟨h, h1⟩ | ⟨h, h1, h2⟩ | ⟨h, h1, h2, h3⟩ | ⟨h, h1, h2, h3, h4⟩ | ⟨h, h1, h2, h3, h4, h5⟩ | ⟨h, h1, h2, h3, h4, h5⟩
  all_goals
    have H := vl h
    clear h
    go_enter Try.func96, Try.ntmps96
    go_wp2_with (first | (go_at_call 166; refine (acc_i _ _).mono ?_; rintro e w' ⟨rfl, rfl⟩) | (go_at_call 100; refine (time_i _ _).mono ?_; rintro e w' ⟨rfl, rfl⟩) | (go_at_call 75; refine (within_i _ _ _ _).mono ?_; rintro e w' ⟨rfl, rfl⟩))
    go_ret
    exact ⟨ret_bool H.out.symm, HB0.out⟩
/-- The first k entries are valid. -/
def enTo (L : List En) (k : Nat) : Bool := (L.take k).all enOk
theorem enTo_succ {L : List En} {k : Nat} {b : En} (h : L[k]? = some b) : enTo L (k + 1) = (enTo L k && enOk b) := by
  unfold enTo
  rw [List.take_add_one, h]
  simp
theorem enTo_all (L : List En) : enTo L L.length = L.all enOk := by unfold enTo; rw [List.take_length]
theorem all_no {L : List En} {k : Nat} {b : En} (h : L[k]? = some b) (hb : enOk b = false) : L.all enOk = false := by
  rw [Bool.eq_false_iff]
  intro h'
  have := List.all_eq_true.1 h' b (List.mem_of_getElem? h)
  rw [hb] at this; cases this
theorem bk_no {L : List En} {k : Nat} {b : En} (h : L[k]? = some b) (hb : enOk b = false) : bkOk L = false := by unfold bkOk; rw [all_no h hb, Bool.and_false]
theorem bk_len {L : List En} (h : 2000 < L.length) : bkOk L = false := by unfold bkOk; rw [decide_eq_false (by omega), Bool.false_and]
theorem bk_all {L : List En} (h : L.all enOk = true) : bkOk L = decide (L.length ≤ 2000) := by unfold bkOk; rw [h, Bool.and_true]
theorem bk_in {L : List En} (h : L.length ≤ 2000) : bkOk L = L.all enOk := by unfold bkOk; rw [decide_eq_true h, Bool.true_and]
theorem bk_parts {L : List En} (h : bkOk L = true) : L.length ≤ 2000 ∧ L.all enOk = true := by unfold bkOk at h; simpa using h
set_option maxHeartbeats 2000000 in
theorem bkok_spec (A : Option Addr) (c : Nat) (L : List En) (w : World) (hn : L.length ≤ 2097152) (hp : Ens w A L) :
    Calls Try.prog 40 #[.slice A L.length c] w (GivesB w (bkOk L)) := by
  have HP := vl hp
  clear hp
  go_enter Try.func40, Try.ntmps40
  go_wp2
  go_loopw [3] (fun i wr => ∃ k : Nat, k ≤ L.length ∧ i = .int .i64 k ∧ Veil (Below w.heap.size w wr) ∧ Veil (enTo L k = true)) (fun i _ => L.length - (intOf i).toNat)
  case atStart => exact ⟨0, by omega, rfl, vl (Below.refl _ _), vl rfl⟩
  case round =>
    obtain ⟨k, hk, rfl, HB, HT⟩ := hrel
    by_cases hlt : k < L.length
    · obtain ⟨b, hb⟩ := get_of hlt
      obtain ⟨g, o, rfl, hsrc⟩ := HP.out.below HB.out (by omega)
      obtain ⟨x0, x1, x2, x3, x4⟩ := hsrc k b hb
      cases hv : enOk b with
      | false =>
        have H0 := vl (bk_no hb hv)
        have HV := vl hv
        clear hsrc hb hv
        go_wp2_with fail
        refine (enok_spec b _).mono ?_
        rintro e w1 ⟨rfl, hb1⟩
        rw [HV.out]
        have HB1 := vl (HB.out.trans (hb1.mono HB.out.size))
        clear hb1
        go_wp2
        go_ret
        exact ⟨ret_bool H0.out.symm, HB1.out⟩
      | true =>
        have HN := vl (show enTo L (k + 1) = true by rw [enTo_succ hb, HT.out, hv]; rfl)
        have HV := vl hv
        clear hsrc hb hv
        go_wp2_with fail
        refine (enok_spec b _).mono ?_
        rintro e w1 ⟨rfl, hb1⟩
        rw [HV.out]
        have HB1 := vl (HB.out.trans (hb1.mono HB.out.size))
        clear hb1
        go_wp2
        go_roundw
        case rel => exact ⟨k + 1, by omega, by go_num, HB1, HN⟩
        case measure => simp [intOf]; omega
    · obtain rfl : k = L.length := by omega
      have H1 := vl (bk_all ((enTo_all L).symm.trans HT.out))
      by_cases h8 : L.length ≤ 2000
      · have H2 := vl (H1.out.trans (decide_eq_true h8))
        go_wp2
        go_ret
        exact ⟨ret_bool (by rw [H2.out]; simp; omega), HB.out⟩
      · have H2 := vl (H1.out.trans (decide_eq_false h8))
        go_wp2
        go_ret
        exact ⟨ret_bool (by rw [H2.out]; simp; omega), HB.out⟩
set_option maxHeartbeats 1000000 in
theorem eve_one (P : Bool) (q : Nat) (b : En) (w : World) (hq : w.cell? ⟨q, 0, none⟩ = some (.func (Fn.func 96) #[] #[]))
    (hf : ∀ w', Below w.heap.size w w' → Calls Try.prog 96 #[.agg #[.int .i64 b.f, .int .i64 b.t, .int .i64 b.a, .int .i64 b.m, .int .i64 b.y]] w' fun e w'' => e = .returned (.bool P) ∧ Below w'.heap.size w' w'') :
    Calls Try.prog 165 #[.agg #[.int .i64 b.f, .int .i64 b.t, .int .i64 b.a, .int .i64 b.m, .int .i64 b.y], .pointer (some ⟨q, 0, none⟩)] w fun e w' => e = .returned (.bool (!P)) ∧ Below w.heap.size w w' := by
  have hlt := World.block_lt_of_cell? _ _ hq
  have HF := vl hf
  clear hf
  cases P
  all_goals
    go_enter Try.func165, Try.ntmps165
    go_wp2_with fail
    refine (HF.out _ ((Below.refl _ _).alloc (Nat.le_refl _) _)).mono ?_
    rintro e w1 ⟨rfl, hb1⟩
    have HB1 := vl (((Below.refl w.heap.size w).alloc (Nat.le_refl _) _).trans (hb1.mono (by simp)))
    clear hb1
    go_wp2
    go_ret
    exact ⟨rfl, HB1.out⟩
set_option maxHeartbeats 1000000 in
theorem eve_idx (P : Nat → Bool) (q : Nat) (A : Option Addr) (c : Nat) (L : List En) (w : World) (hn : L.length ≤ 1048576) (hp : Ens w A L) (hq : w.cell? ⟨q, 0, none⟩ = some (.func (Fn.func 96) #[] #[]))
    (hf : ∀ (k : Nat) (b : En) (w' : World), k < L.length → L[k]? = some b → Below w.heap.size w w' → Calls Try.prog 96 #[.agg #[.int .i64 b.f, .int .i64 b.t, .int .i64 b.a, .int .i64 b.m, .int .i64 b.y]] w' fun e w'' => e = .returned (.bool (P k)) ∧ Below w'.heap.size w' w'') :
    Calls Try.prog 203 #[.slice A L.length c, .func (Fn.func 165) #[] #[.pointer (some ⟨q, 0, none⟩)]] w fun e w' => ((allTo P L.length = true ∧ e = .returned (.int .i64 (-1))) ∨ (allTo P L.length = false ∧ ∃ k : Nat, e = .returned (.int .i64 (k : Int)))) ∧ Below w.heap.size w w' := by
  have HP := vl hp
  have HQ := vl hq
  have HF := vl hf
  clear hp hq hf
  go_enter Try.func203, Try.ntmps203
  go_wp2
  go_loopw [8] (fun i wr => ∃ k : Nat, k ≤ L.length ∧ i = .int .i64 k ∧ Veil (allTo P k = true) ∧ Veil (Below w.heap.size w wr)) (fun i _ => L.length - (intOf i).toNat)
  case atStart => exact ⟨0, by omega, rfl, vl rfl, vl (Below.refl _ _)⟩
  case round =>
    obtain ⟨k, hk, rfl, HA, HB⟩ := hrel
    by_cases hlt : k < L.length
    · obtain ⟨b, hb⟩ := get_of hlt
      obtain ⟨g, o, rfl, hc⟩ := (HP.out.below HB.out) (by omega)
      obtain ⟨x0, x1, x2, x3, x4⟩ := hc k b hb
      have HE0 := vl hb
      clear hc hb
      have HQ1 := vl ((HB.out.cell (World.block_lt_of_cell? _ _ HQ.out)).trans HQ.out)
      cases hkk : P k with
      | true =>
        have HN := vl (allTo_succ HA.out hkk)
        have HK := vl hkk
        clear hkk
        go_wp2_with fail
        refine (eve_one (P k) q b _ HQ1.out (fun w' h => HF.out k b w' hlt HE0.out (HB.out.trans (h.mono HB.out.size)))).mono ?_
        rintro e w1 ⟨rfl, hb1⟩
        rw [HK.out]
        have HB1 := vl (HB.out.trans (hb1.mono HB.out.size))
        clear hb1
        go_wp2
        go_roundw
        case rel => exact ⟨k + 1, by omega, by go_num, HN, HB1⟩
        case measure => simp [intOf]; omega
      | false =>
        have HN := vl (allTo_no hlt hkk)
        have HK := vl hkk
        clear hkk
        go_wp2_with fail
        refine (eve_one (P k) q b _ HQ1.out (fun w' h => HF.out k b w' hlt HE0.out (HB.out.trans (h.mono HB.out.size)))).mono ?_
        rintro e w1 ⟨rfl, hb1⟩
        rw [HK.out]
        have HB1 := vl (HB.out.trans (hb1.mono HB.out.size))
        clear hb1
        go_wp2
        go_ret
        exact ⟨Or.inr ⟨HN.out, k, rfl⟩, HB1.out⟩
    · obtain rfl : k = L.length := by omega
      go_wp2
      go_ret
      exact ⟨Or.inl ⟨HA.out, rfl⟩, HB.out⟩
theorem eve_con (P : Nat → Bool) (q : Nat) (A : Option Addr) (c : Nat) (L : List En) (w : World) (hn : L.length ≤ 1048576) (hp : Ens w A L) (hq : w.cell? ⟨q, 0, none⟩ = some (.func (Fn.func 96) #[] #[]))
    (hf : ∀ (k : Nat) (b : En) (w' : World), k < L.length → L[k]? = some b → Below w.heap.size w w' → Calls Try.prog 96 #[.agg #[.int .i64 b.f, .int .i64 b.t, .int .i64 b.a, .int .i64 b.m, .int .i64 b.y]] w' fun e w'' => e = .returned (.bool (P k)) ∧ Below w'.heap.size w' w'') :
    Calls Try.prog 164 #[.slice A L.length c, .func (Fn.func 165) #[] #[.pointer (some ⟨q, 0, none⟩)]] w fun e w' => e = .returned (.bool (!allTo P L.length)) ∧ Below w.heap.size w w' := by
  have HP := vl hp
  have HQ := vl hq
  have HF := vl hf
  clear hp hq hf
  go_enter Try.func164, Try.ntmps164
  go_wp2_with fail
  refine (eve_idx P q A c L _ hn HP.out HQ.out HF.out).mono ?_
  rintro e w1 ⟨⟨ha, rfl⟩ | ⟨ha, j, rfl⟩, hb1⟩
  · have HV := vl ha
    have HB1 := vl hb1
    clear hb1 ha
    go_wp2
    go_ret
    exact ⟨by rw [HV.out]; rfl, HB1.out⟩
  · have HV := vl ha
    have HB1 := vl hb1
    have k0 : (0 : Int) ≤ (j : Int) := by omega
    clear hb1 ha
    go_wp2
    go_ret
    exact ⟨by rw [HV.out]; rfl, HB1.out⟩
theorem eve_every (P : Nat → Bool) (A : Option Addr) (c : Nat) (L : List En) (w : World) (hn : L.length ≤ 1048576) (hp : Ens w A L)
    (hf : ∀ (k : Nat) (b : En) (w' : World), k < L.length → L[k]? = some b → Below w.heap.size w w' → Calls Try.prog 96 #[.agg #[.int .i64 b.f, .int .i64 b.t, .int .i64 b.a, .int .i64 b.m, .int .i64 b.y]] w' fun e w'' => e = .returned (.bool (P k)) ∧ Below w'.heap.size w' w'') :
    Calls Try.prog 95 #[.slice A L.length c, .func (Fn.func 96) #[] #[]] w fun e w' => e = .returned (.bool (allTo P L.length)) ∧ Below w.heap.size w w' := by
  have HP := vl hp
  have HF := vl hf
  clear hp hf
  cases hv : allTo P L.length
  all_goals
    have HV := vl hv
    clear hv
    go_enter Try.func95, Try.ntmps95
    go_wp2_with fail
    refine (eve_con P _ A c L _ hn ?_ ?_ ?_).mono ?_
    · exact HP.out.below ((Below.refl _ _).alloc (Nat.le_refl _) _)
    · simp; done
    · intro k b w' hk h0 h
      exact HF.out k b w' hk h0 (((Below.refl w.heap.size w).alloc (Nat.le_refl _) _).trans (h.mono (by simp)))
    rintro e w1 ⟨rfl, hb1⟩
    rw [HV.out]
    have HB1 := vl (((Below.refl w.heap.size w).alloc (Nat.le_refl _) _).trans (hb1.mono (by simp)))
    clear hb1
    go_wp2
    go_ret
    exact ⟨rfl, HB1.out⟩
set_option maxHeartbeats 1000000 in
theorem bkok_impl (A : Option Addr) (c : Nat) (L : List En) (w : World) (hn : L.length ≤ 1048576) (hp : Ens w A L) :
    Calls Try.prog 42 #[.slice A L.length c] w (GivesB w (bkOk L)) := by
  have HP := vl hp
  clear hp
  by_cases h8 : 2000 < L.length
  · have H1 := vl (bk_len h8)
    go_enter Try.func42, Try.ntmps42
    go_wp2
    go_ret
    exact ⟨ret_bool H1.out.symm, Below.refl _ _⟩
  have b8 : L.length ≤ 2000 := by omega
  have H1 := vl (bk_in b8)
  clear h8
  cases ha : L.all enOk
  all_goals
    have H2 := vl (H1.out.trans ha)
    have HA := vl ha
    clear ha
    go_enter Try.func42, Try.ntmps42
    go_wp2_with fail
    refine (eve_every (atL enOk L) _ _ L _ hn HP.out (fun k b w' _ hb _ => by rw [atL_at hb]; exact enok_impl b w')).mono ?_
    rintro e w1 ⟨rfl, hb1⟩
    rw [allTo_list, HA.out]
    have HB1 := vl hb1
    clear hb1
    go_wp2
    go_ret
    exact ⟨ret_bool H2.out.symm, HB1.out⟩
end Go.Proofs.Ytngmpimoebggdaa.C1
