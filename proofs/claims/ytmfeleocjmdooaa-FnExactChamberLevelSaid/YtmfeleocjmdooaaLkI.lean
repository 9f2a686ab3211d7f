/- Whether a lock is valid, and its level: of the program. -/
import Derived.Test.YtmfeleocjmdooaaLkO
import Derived.Test.YtmfeleocjmdooaaTrI5
namespace Go.Proofs.Ytmfeleocjmdooaa.C1
open Go.ChangeShapes Go.WideShapes Go.ChangeAt Go.RowKit
set_option linter.unusedVariables false

theorem within_impl (x l h : Int) (w : World) :
    Calls Try.prog 115 #[.int .i64 x, .int .i64 l, .int .i64 h] w fun e w' => e = .returned (.bool (inB x l h)) ∧ w = w' := by
  by_cases h1 : l ≤ x
  · by_cases h2 : x ≤ h
    · go_enter Try.func115, Try.ntmps115
      go_wp2
      go_ret
      exact ⟨ret_bool (inB_yes h1 h2).symm, rfl⟩
    · have h2' : h < x := by omega
      go_enter Try.func115, Try.ntmps115
      go_wp2
      go_ret
      exact ⟨ret_bool (inB_no (Or.inr h2')).symm, rfl⟩
  · have h1' : x < l := by omega
    go_enter Try.func115, Try.ntmps115
    go_wp2
    go_ret
    exact ⟨ret_bool (inB_no (Or.inl h1')).symm, rfl⟩
theorem lev_impl' (s : Int) (w : World) :
    Calls Try.prog 178 #[.int .i64 s] w fun e w' => e = .returned (.bool (inB s 0 100000)) ∧ w = w' := by
  by_cases h1 : 0 ≤ s
  · by_cases h2 : s ≤ 100000
    · go_enter Try.func178, Try.ntmps178
      go_wp2
      go_ret
      exact ⟨ret_bool (inB_yes h1 (by omega)).symm, rfl⟩
    · have h2' : 100000 < s := by omega
      go_enter Try.func178, Try.ntmps178
      go_wp2
      go_ret
      exact ⟨ret_bool (inB_no (Or.inr (by omega))).symm, rfl⟩
  · have h1' : s < 0 := by omega
    go_enter Try.func178, Try.ntmps178
    go_wp2
    go_ret
    exact ⟨ret_bool (inB_no (Or.inl (by omega))).symm, rfl⟩
theorem amt_impl' (s : Int) (w : World) :
    Calls Try.prog 169 #[.int .i64 s] w fun e w' => e = .returned (.bool (inB s 0 1000000000)) ∧ w = w' := by
  by_cases h1 : 0 ≤ s
  · by_cases h2 : s ≤ 1000000000
    · go_enter Try.func169, Try.ntmps169
      go_wp2
      go_ret
      exact ⟨ret_bool (inB_yes h1 (by omega)).symm, rfl⟩
    · have h2' : 1000000000 < s := by omega
      go_enter Try.func169, Try.ntmps169
      go_wp2
      go_ret
      exact ⟨ret_bool (inB_no (Or.inr (by omega))).symm, rfl⟩
  · have h1' : s < 0 := by omega
    go_enter Try.func169, Try.ntmps169
    go_wp2
    go_ret
    exact ⟨ret_bool (inB_no (Or.inl (by omega))).symm, rfl⟩
set_option maxRecDepth 100000 in
set_option maxHeartbeats 4000000 in
theorem chamber_impl (k : Lk) (v : Value) (hv : v.cells.size = 1) (A : Option Addr) (n c : Nat) (ev : v = .slice A n c) (w : World) :
    Calls Try.prog 132 #[.agg #[.int .i64 k.le, .int .i64 k.wi, .int .i64 k.sa, .int .i64 k.sb, .int .i64 k.ba, .int .i64 k.ar, .int .i64 k.ra, .int .i64 k.wa, .int .i64 k.ga, v]] w fun e w' => e = .returned (.bool (chB k)) ∧ Below w.heap.size w w' := by
  subst ev
  have HB0 := vl ((Below.refl w.heap.size w).alloc (Nat.le_refl _) (.cells #[.int .i64 k.le, .int .i64 k.wi, .int .i64 k.sa, .int .i64 k.sb, .int .i64 k.ba, .int .i64 k.ar, .int .i64 k.ra, .int .i64 k.wa, .int .i64 k.ga, .slice A n c] 73))
  have HE := vl (show chB k = (inB k.le 1 1000 && (inB k.wi 1 100 && (inB k.sa 0 100000 && (inB k.sb 0 100000 && (inB k.ba 0 100000 && (inB k.ar 1 10000 && (inB k.ra 1 100000 && (inB k.wa 0 1000000000 && inB k.ga 0 2)))))))) from rfl)
  go_enter Try.func132, Try.ntmps132
  cases h1 : inB k.le 1 1000 with
  | false =>
    have HF := vl (show chB k = false by rw [HE.out, h1]; rfl)
    go_wp2_with (first | (go_at_call 115; refine (within_impl _ _ _ _).mono ?_; rintro e w' ⟨rfl, rfl⟩) | (go_at_call 178; refine (lev_impl' _ _).mono ?_; rintro e w' ⟨rfl, rfl⟩) | (go_at_call 169; refine (amt_impl' _ _).mono ?_; rintro e w' ⟨rfl, rfl⟩))
    go_ret
    exact ⟨ret_bool HF.out.symm, HB0.out⟩
  | true =>
  cases h2 : inB k.wi 1 100 with
  | false =>
    have HF := vl (show chB k = false by rw [HE.out, h1, h2]; rfl)
    go_wp2_with (first | (go_at_call 115; refine (within_impl _ _ _ _).mono ?_; rintro e w' ⟨rfl, rfl⟩) | (go_at_call 178; refine (lev_impl' _ _).mono ?_; rintro e w' ⟨rfl, rfl⟩) | (go_at_call 169; refine (amt_impl' _ _).mono ?_; rintro e w' ⟨rfl, rfl⟩))
    go_ret
    exact ⟨ret_bool HF.out.symm, HB0.out⟩
  | true =>
  cases h3 : inB k.sa 0 100000 with
  | false =>
    have HF := vl (show chB k = false by rw [HE.out, h1, h2, h3]; rfl)
    go_wp2_with (first | (go_at_call 115; refine (within_impl _ _ _ _).mono ?_; rintro e w' ⟨rfl, rfl⟩) | (go_at_call 178; refine (lev_impl' _ _).mono ?_; rintro e w' ⟨rfl, rfl⟩) | (go_at_call 169; refine (amt_impl' _ _).mono ?_; rintro e w' ⟨rfl, rfl⟩))
    go_ret
    exact ⟨ret_bool HF.out.symm, HB0.out⟩
  | true =>
  cases h4 : inB k.sb 0 100000 with
  | false =>
    have HF := vl (show chB k = false by rw [HE.out, h1, h2, h3, h4]; rfl)
    go_wp2_with (first | (go_at_call 115; refine (within_impl _ _ _ _).mono ?_; rintro e w' ⟨rfl, rfl⟩) | (go_at_call 178; refine (lev_impl' _ _).mono ?_; rintro e w' ⟨rfl, rfl⟩) | (go_at_call 169; refine (amt_impl' _ _).mono ?_; rintro e w' ⟨rfl, rfl⟩))
    go_ret
    exact ⟨ret_bool HF.out.symm, HB0.out⟩
  | true =>
  cases h5 : inB k.ba 0 100000 with
  | false =>
    have HF := vl (show chB k = false by rw [HE.out, h1, h2, h3, h4, h5]; rfl)
    go_wp2_with (first | (go_at_call 115; refine (within_impl _ _ _ _).mono ?_; rintro e w' ⟨rfl, rfl⟩) | (go_at_call 178; refine (lev_impl' _ _).mono ?_; rintro e w' ⟨rfl, rfl⟩) | (go_at_call 169; refine (amt_impl' _ _).mono ?_; rintro e w' ⟨rfl, rfl⟩))
    go_ret
    exact ⟨ret_bool HF.out.symm, HB0.out⟩
  | true =>
  cases h6 : inB k.ar 1 10000 with
  | false =>
    have HF := vl (show chB k = false by rw [HE.out, h1, h2, h3, h4, h5, h6]; rfl)
    go_wp2_with (first | (go_at_call 115; refine (within_impl _ _ _ _).mono ?_; rintro e w' ⟨rfl, rfl⟩) | (go_at_call 178; refine (lev_impl' _ _).mono ?_; rintro e w' ⟨rfl, rfl⟩) | (go_at_call 169; refine (amt_impl' _ _).mono ?_; rintro e w' ⟨rfl, rfl⟩))
    go_ret
    exact ⟨ret_bool HF.out.symm, HB0.out⟩
  | true =>
  cases h7 : inB k.ra 1 100000 with
  | false =>
    have HF := vl (show chB k = false by rw [HE.out, h1, h2, h3, h4, h5, h6, h7]; rfl)
    go_wp2_with (first | (go_at_call 115; refine (within_impl _ _ _ _).mono ?_; rintro e w' ⟨rfl, rfl⟩) | (go_at_call 178; refine (lev_impl' _ _).mono ?_; rintro e w' ⟨rfl, rfl⟩) | (go_at_call 169; refine (amt_impl' _ _).mono ?_; rintro e w' ⟨rfl, rfl⟩))
    go_ret
    exact ⟨ret_bool HF.out.symm, HB0.out⟩
  | true =>
  cases h8 : inB k.wa 0 1000000000 with
  | false =>
    have HF := vl (show chB k = false by rw [HE.out, h1, h2, h3, h4, h5, h6, h7, h8]; rfl)
    go_wp2_with (first | (go_at_call 115; refine (within_impl _ _ _ _).mono ?_; rintro e w' ⟨rfl, rfl⟩) | (go_at_call 178; refine (lev_impl' _ _).mono ?_; rintro e w' ⟨rfl, rfl⟩) | (go_at_call 169; refine (amt_impl' _ _).mono ?_; rintro e w' ⟨rfl, rfl⟩))
    go_ret
    exact ⟨ret_bool HF.out.symm, HB0.out⟩
  | true =>
    have HF := vl (show chB k = inB k.ga 0 2 by rw [HE.out, h1, h2, h3, h4, h5, h6, h7, h8]; rfl)
    go_wp2_with (first | (go_at_call 115; refine (within_impl _ _ _ _).mono ?_; rintro e w' ⟨rfl, rfl⟩) | (go_at_call 178; refine (lev_impl' _ _).mono ?_; rintro e w' ⟨rfl, rfl⟩) | (go_at_call 169; refine (amt_impl' _ _).mono ?_; rintro e w' ⟨rfl, rfl⟩))
    go_ret
    exact ⟨ret_bool HF.out.symm, HB0.out⟩
set_option maxHeartbeats 1000000 in
theorem evt_one (P : Bool) (q : Nat) (t : Tr) (Ai : Option Addr) (ci : Nat) (w : World) (hq : w.cell? ⟨q, 0, none⟩ = some (.func (Fn.func 37) #[] #[]))
    (hf : ∀ w', Below w.heap.size w w' → Calls Try.prog 37 #[.agg #[.bool t.up, .slice Ai t.R.length ci]] w' fun e w'' => e = .returned (.bool P) ∧ Below w'.heap.size w' w'') :
    Calls Try.prog 202 #[.agg #[.bool t.up, .slice Ai t.R.length ci], .pointer (some ⟨q, 0, none⟩)] w fun e w' => e = .returned (.bool (!P)) ∧ Below w.heap.size w w' := by
  have hlt := World.block_lt_of_cell? _ _ hq
  have HF := vl hf
  clear hf
  cases P
  all_goals
    go_enter Try.func202, Try.ntmps202
    go_wp2_with fail
    refine (HF.out _ ((Below.refl _ _).alloc (Nat.le_refl _) _)).mono ?_
    rintro e w1 ⟨rfl, hb1⟩
    have HB1 := vl (((Below.refl w.heap.size w).alloc (Nat.le_refl _) _).trans (hb1.mono (by simp)))
    clear hb1
    go_wp2
    go_ret
    exact ⟨rfl, HB1.out⟩
set_option maxHeartbeats 1000000 in
theorem evt_idx (P : Nat → Bool) (q : Nat) (A : Option Addr) (c : Nat) (L : List Tr) (w : World) (hn : L.length ≤ 1048576) (hp : Trs w A L) (hq : w.cell? ⟨q, 0, none⟩ = some (.func (Fn.func 37) #[] #[]))
    (hf : ∀ (k : Nat) (t : Tr) (Ai : Option Addr) (ci : Nat) (w' : World), k < L.length → L[k]? = some t → Trn w' Ai t.R → Below w.heap.size w w' → Calls Try.prog 37 #[.agg #[.bool t.up, .slice Ai t.R.length ci]] w' fun e w'' => e = .returned (.bool (P k)) ∧ Below w'.heap.size w' w'') :
    Calls Try.prog 206 #[.slice A L.length c, .func (Fn.func 202) #[] #[.pointer (some ⟨q, 0, none⟩)]] w fun e w' => ((allTo P L.length = true ∧ e = .returned (.int .i64 (-1))) ∨ (allTo P L.length = false ∧ ∃ k : Nat, e = .returned (.int .i64 (k : Int)))) ∧ Below w.heap.size w w' := by
  have HP := vl hp
  have HQ := vl hq
  have HF := vl hf
  clear hp hq hf
  go_enter Try.func206, Try.ntmps206
  go_wp2
  go_loopw [8] (fun i wr => ∃ k : Nat, k ≤ L.length ∧ i = .int .i64 k ∧ Veil (allTo P k = true) ∧ Veil (Below w.heap.size w wr)) (fun i _ => L.length - (intOf i).toNat)
  case atStart => exact ⟨0, by omega, rfl, vl rfl, vl (Below.refl _ _)⟩
  case round =>
    obtain ⟨k, hk, rfl, HA, HB⟩ := hrel
    by_cases hlt : k < L.length
    · obtain ⟨t, ht⟩ := get_of hlt
      obtain ⟨g, o, rfl, hc⟩ := (HP.out.below HB.out) (by omega)
      obtain ⟨x0, Ai, ci, x1, HT⟩ := hc k t ht
      have HE0 := vl ht
      have HE1 := HT
      clear hc ht HT
      have HQ1 := vl ((HB.out.cell (World.block_lt_of_cell? _ _ HQ.out)).trans HQ.out)
      cases hkk : P k with
      | true =>
        have HN := vl (allTo_succ HA.out hkk)
        have HK := vl hkk
        clear hkk
        go_wp2_with fail
        refine (evt_one (P k) q t Ai ci _ HQ1.out (fun w' h => HF.out k t Ai ci w' hlt HE0.out (HE1.out.below h) (HB.out.trans (h.mono HB.out.size)))).mono ?_
        rintro e w1 ⟨rfl, hb1⟩
        rw [HK.out]
        have HB1 := vl (HB.out.trans (hb1.mono HB.out.size))
        clear hb1
        go_wp2
        go_roundw
        case rel => exact ⟨k + 1, by omega, by go_num, HN, HB1⟩
        case measure => simp [intOf]; omega
      | false =>
        have HN := vl (allTo_no hlt hkk)
        have HK := vl hkk
        clear hkk
        go_wp2_with fail
        refine (evt_one (P k) q t Ai ci _ HQ1.out (fun w' h => HF.out k t Ai ci w' hlt HE0.out (HE1.out.below h) (HB.out.trans (h.mono HB.out.size)))).mono ?_
        rintro e w1 ⟨rfl, hb1⟩
        rw [HK.out]
        have HB1 := vl (HB.out.trans (hb1.mono HB.out.size))
        clear hb1
        go_wp2
        go_ret
        exact ⟨Or.inr ⟨HN.out, k, rfl⟩, HB1.out⟩
    · obtain rfl : k = L.length := by omega
      go_wp2
      go_ret
      exact ⟨Or.inl ⟨HA.out, rfl⟩, HB.out⟩
theorem evt_con (P : Nat → Bool) (q : Nat) (A : Option Addr) (c : Nat) (L : List Tr) (w : World) (hn : L.length ≤ 1048576) (hp : Trs w A L) (hq : w.cell? ⟨q, 0, none⟩ = some (.func (Fn.func 37) #[] #[]))
    (hf : ∀ (k : Nat) (t : Tr) (Ai : Option Addr) (ci : Nat) (w' : World), k < L.length → L[k]? = some t → Trn w' Ai t.R → Below w.heap.size w w' → Calls Try.prog 37 #[.agg #[.bool t.up, .slice Ai t.R.length ci]] w' fun e w'' => e = .returned (.bool (P k)) ∧ Below w'.heap.size w' w'') :
    Calls Try.prog 201 #[.slice A L.length c, .func (Fn.func 202) #[] #[.pointer (some ⟨q, 0, none⟩)]] w fun e w' => e = .returned (.bool (!allTo P L.length)) ∧ Below w.heap.size w w' := by
  have HP := vl hp
  have HQ := vl hq
  have HF := vl hf
  clear hp hq hf
  go_enter Try.func201, Try.ntmps201
  go_wp2_with fail
  refine (evt_idx P q A c L _ hn HP.out HQ.out HF.out).mono ?_
  rintro e w1 ⟨⟨ha, rfl⟩ | ⟨ha, j, rfl⟩, hb1⟩
  · have HV := vl ha
    have HB1 := vl hb1
    clear hb1 ha
    go_wp2
    go_ret
    exact ⟨by rw [HV.out]; rfl, HB1.out⟩
  · have HV := vl ha
    have HB1 := vl hb1
    have k0 : (0 : Int) ≤ (j : Int) := by omega
    clear hb1 ha
    go_wp2
    go_ret
    exact ⟨by rw [HV.out]; rfl, HB1.out⟩
theorem evt_every (P : Nat → Bool) (A : Option Addr) (c : Nat) (L : List Tr) (w : World) (hn : L.length ≤ 1048576) (hp : Trs w A L)
    (hf : ∀ (k : Nat) (t : Tr) (Ai : Option Addr) (ci : Nat) (w' : World), k < L.length → L[k]? = some t → Trn w' Ai t.R → Below w.heap.size w w' → Calls Try.prog 37 #[.agg #[.bool t.up, .slice Ai t.R.length ci]] w' fun e w'' => e = .returned (.bool (P k)) ∧ Below w'.heap.size w' w'') :
    Calls Try.prog 179 #[.slice A L.length c, .func (Fn.func 37) #[] #[]] w fun e w' => e = .returned (.bool (allTo P L.length)) ∧ Below w.heap.size w w' := by
  have HP := vl hp
  have HF := vl hf
  clear hp hf
  cases hv : allTo P L.length
  all_goals
    have HV := vl hv
    clear hv
    go_enter Try.func179, Try.ntmps179
    go_wp2_with fail
    refine (evt_con P _ A c L _ hn ?_ ?_ ?_).mono ?_
    · exact HP.out.below ((Below.refl _ _).alloc (Nat.le_refl _) _)
    · simp; done
    · intro k t Ai ci w' hk h0 h1 h
      exact HF.out k t Ai ci w' hk h0 h1 (((Below.refl w.heap.size w).alloc (Nat.le_refl _) _).trans (h.mono (by simp)))
    rintro e w1 ⟨rfl, hb1⟩
    rw [HV.out]
    have HB1 := vl (((Below.refl w.heap.size w).alloc (Nat.le_refl _) _).trans (hb1.mono (by simp)))
    clear hb1
    go_wp2
    go_ret
    exact ⟨rfl, HB1.out⟩
/-- Trains as vessels: the values of a slice of them. -/
def Tvs (w : World) (S : List Tr) (xs : List Value) : Prop :=
  xs.length = S.length ∧ ∀ (i : Nat) (t : Tr), S[i]? = some t → ∃ (Ai : Option Addr) (ci : Nat), xs[i]? = some (Value.iface 26 (.agg #[.bool t.up, .slice Ai t.R.length ci])) ∧ Veil (Trn w Ai t.R)
theorem Tvs.below {w w' : World} {S : List Tr} {xs : List Value} (h : Tvs w S xs) (hb : Below w.heap.size w w') : Tvs w' S xs :=
  ⟨h.1, fun i t hi => by
    obtain ⟨Ai, ci, h1, h2⟩ := h.2 i t hi
    exact ⟨Ai, ci, h1, vl (h2.out.below hb)⟩⟩
theorem Tvs.one {w : World} {S : List Tr} {xs : List Value} (h : Tvs w S xs) : ∀ u ∈ xs, u.oneCell' = true := fun u hu => by
  obtain ⟨i, hi⟩ := List.getElem?_of_mem hu
  obtain ⟨t, ht⟩ := get_of (L := S) (k := i) (by have := len_of hi; have := h.1; omega)
  obtain ⟨Ai, ci, h1, _⟩ := h.2 i t ht
  rw [hi] at h1
  injection h1 with h1
  subst h1; rfl
theorem Tvs.snoc {w : World} {S : List Tr} {k : Nat} {t : Tr} {xs : List Value} {Ai : Option Addr} {ci : Nat} (h : Tvs w (S.take k) xs) (hk : S[k]? = some t) (ht : Trn w Ai t.R) :
    Tvs w (S.take (k + 1)) (xs ++ [.iface 26 (.agg #[.bool t.up, .slice Ai t.R.length ci])]) := by
  have hl : (S.take k).length = k := by rw [List.length_take]; have := len_of hk; omega
  have he : S.take (k + 1) = S.take k ++ [t] := by rw [List.take_add_one, hk]; rfl
  rw [he]
  refine ⟨by rw [List.length_append, List.length_append, h.1]; rfl, fun i u hu => ?_⟩
  rcases Nat.lt_or_ge i k with hi | hi
  · rw [List.getElem?_append_left (by omega)] at hu
    obtain ⟨Aj, cj, h1, h2⟩ := h.2 i u hu
    exact ⟨Aj, cj, by rw [List.getElem?_append_left (by rw [h.1]; omega)]; exact h1, h2⟩
  · have hi' := len_of hu
    rw [List.length_append, hl] at hi'
    have e : i = k := by simp at hi'; omega
    subst e
    rw [List.getElem?_append_right (by omega), hl, Nat.sub_self] at hu
    simp at hu
    subst hu
    exact ⟨Ai, ci, by rw [List.getElem?_append_right (by rw [h.1]; omega), h.1, hl, Nat.sub_self]; rfl, vl ht⟩
set_option maxRecDepth 100000 in
set_option maxHeartbeats 2000000 in
theorem vessels_t (A : Option Addr) (c : Nat) (S : List Tr) (w : World) (hn : S.length ≤ 1048576) (hp : Trs w A S) :
    Calls Try.prog 180 #[.slice A S.length c] w fun e w' => (∃ v xs, e = .returned v ∧ w'.ownsRow w.heap.size 155 1 v S.length xs ∧ Tvs w' S xs) ∧ Below w.heap.size w w' := by
  obtain ⟨i0, hi, hz0, hz1, hz2⟩ := info_parts infoV
  have HP := vl hp
  clear hp
  go_enter Try.func180, Try.ntmps180
  go_wp2_with (at_make; refine wpList_make_own _ rfl _ _ 153 rfl w.heap.size 155 i0 .nilIface 1 Try.underlying153 hi hz0 hz1 .i64 .i64 _ S.length rfl rfl (by rfl) (by rw [hz2]; omega) (by unfold maxLen; omega) (Nat.le_refl _) ?_; intro w0 hown0 hgr0)
  have HB0 := vl (below_none hgr0)
  have HO0 := vl hown0
  clear hown0 hgr0
  go_wp2
  go_loopw [3, 11] (fun v i wr => ∃ k : Nat, k ≤ S.length ∧ i = .int .i64 k ∧ Veil (Below w.heap.size w wr) ∧ ∃ xs, Veil (wr.ownsRow w.heap.size 155 1 v k xs) ∧ Veil (Tvs w (S.take k) xs)) (fun _ i _ => S.length - (intOf i).toNat)
  case atStart => exact ⟨0, by omega, rfl, HB0, [], HO0, vl ⟨by simp, fun i t h => by simp at h⟩⟩
  case round =>
    obtain ⟨k, hk, rfl, HB, xs, HO, HV⟩ := hrel
    by_cases hlt : k < S.length
    · obtain ⟨t, ht⟩ := get_of hlt
      obtain ⟨g, o, rfl, hc⟩ := HP.out (by omega)
      obtain ⟨q0, Ai, ci, q1, HT⟩ := hc k t ht
      have x0 := (HB.out.cell (cell_lt' q0)).trans q0
      have x1 := (HB.out.cell (cell_lt' q1)).trans q1
      clear q0 q1
      have HK := vl ht
      clear hc ht
      go_wp2_with (at_builtin; refine wpList_app rfl _ _ 153 rfl w.heap.size 155 i0 _ 1 16 Try.underlying153 hi hz0 hz1 hz2 rfl (by decide) _ _ _ rfl ((HO.out.alloc _).alloc _) (some ⟨wr.heap.size + 1, 0, none⟩) 1 1 [.iface 26 (.agg #[.bool t.up, .slice Ai t.R.length ci])] rfl rfl ?c1 ?c2 ?c3 ?c4 ?c5 ?_)
      case c1 => exact fun _ => ⟨_, rfl, fun j u hu => World.news_of_block (by have := heap_alloc_new (wr.alloc (.cells #[.bool t.up, .slice Ai t.R.length ci] 26)) (.cells #[.iface 26 (.agg #[.bool t.up, .slice Ai t.R.length ci])] 155); simpa using this) j u (by simpa using hu)⟩
      case c2 => intro u hu; simp at hu; subst hu; rfl
      case c3 => unfold maxLen; omega
      case c4 => omega
      case c5 => have := HB.out.size; simp; omega
      intro v' w2 hown hgr
      have hbo := (HB.out.alloc HB.out.size (.cells #[.bool t.up, .slice Ai t.R.length ci] 26)).alloc (by have := HB.out.size; simp; omega) (.cells #[.iface 26 (.agg #[.bool t.up, .slice Ai t.R.length ci])] 155)
      have HB2 := vl (hbo.trans (below_app' ((HO.out.alloc (.cells #[.bool t.up, .slice Ai t.R.length ci] 26)).alloc (.cells #[.iface 26 (.agg #[.bool t.up, .slice Ai t.R.length ci])] 155)) hgr (by have := HB.out.size; simp; omega)))
      have HO2 := vl hown
      clear hown x0 x1 hbo hgr
      go_wp2
      go_roundw
      case rel => exact ⟨k + 1, by omega, by go_num, HB2, _, HO2, vl (HV.out.snoc HK.out HT.out)⟩
      case measure => simp [intOf]; omega
    · obtain rfl : k = S.length := by omega
      have HV2 := HV
      rw [List.take_length] at HV2
      go_wp2
      go_ret
      exact ⟨⟨_, xs, rfl, HO.out, HV2.out.below HB.out⟩, HB.out⟩
set_option maxRecDepth 100000 in
set_option maxHeartbeats 2000000 in
theorem boats_ts (A : Option Addr) (c : Nat) (S : List Tr) (xs : List Value) (w : World) (hm : ModS S) (hx : Tvs w S xs) (hv : 0 < S.length → ∃ ad, A = some ad ∧ ∀ j u, xs[j]? = some u → w.cell? (ad.add j) = some u) :
    Calls Try.prog 103 #[.slice A S.length c] w fun e w' => (∃ v, e = .returned v ∧ w'.ownsRow w.heap.size 29 6 v (boz S).length (btl (boz S))) ∧ Below w.heap.size w w' := by
  obtain ⟨i0, hi, hz0, hz1, hz2⟩ := info_parts infoB2
  have HM := vl hm
  have HX := vl hx
  have HV := vl hv
  have hn := hm.len
  have hbl := hm.boz
  clear hm hx hv
  go_enter Try.func103, Try.ntmps103
  go_wp2
  go_loopw [3, 10] (fun v i wr => ∃ k : Nat, k ≤ S.length ∧ i = .int .i64 k ∧ Veil (wr.ownsRow w.heap.size 29 6 v (boz (S.take k)).length (btl (boz (S.take k)))) ∧ Veil (Below w.heap.size w wr)) (fun _ i _ => S.length - (intOf i).toNat)
  case atStart => exact ⟨0, by omega, rfl, vl (by simpa [boz, btl] using own_nil w w.heap.size 29 6), vl (Below.refl _ _)⟩
  case round =>
    obtain ⟨k, hk, rfl, HO, HB⟩ := hrel
    by_cases hlt : k < S.length
    · obtain ⟨t, ht⟩ := get_of hlt
      obtain ⟨ad, rfl, hc⟩ := HV.out (by omega)
      obtain ⟨Ai, ci, e1, HT⟩ := HX.out.2 k t ht
      have c0' := hc k _ e1
      have c0 := (HB.out.cell (cell_lt' c0')).trans c0'
      have HK := vl ht
      have hq := boz_take_le S (k + 1)
      have he := boz_take ht
      have hel : (boz (S.take (k + 1))).length = (boz (S.take k)).length + (bts t.R).length := by rw [he, List.length_append]
      have HE := vl (And.intro he hel)
      have HMt := vl (HM.out.all t (mem_of ht))
      have q1 := as_bt (.agg #[.bool t.up, .slice Ai t.R.length ci])
      have q2 := as_tt (.agg #[.bool t.up, .slice Ai t.R.length ci])
      have HB0 := vl (HB.out.alloc HB.out.size (.cells #[.bool t.up, .slice Ai t.R.length ci] 26))
      clear hc e1 c0' ht he
      go_wp2_with fail
      refine (concat_b Ai ci t.R _ HMt.out (HT.out.below HB0.out)).mono ?_
      rintro e w1 ⟨⟨v1, rfl, ho1⟩, hb1⟩
      have HB1 := vl (HB0.out.trans (hb1.mono HB0.out.size))
      obtain ⟨A1, c1, rfl, hs1⟩ := own_src ho1
      have HS1 := vl hs1
      have HO1 := vl (own_below (HO.out.alloc (.cells #[.bool t.up, .slice Ai t.R.length ci] 26)) hb1)
      clear hb1 ho1 hs1 c0 q1 q2
      go_wp2_with (at_builtin; refine wpList_app rfl _ _ 30 rfl w.heap.size 29 i0 _ 6 48 Try.underlying30 hi hz0 hz1 hz2 rfl (by decide) _ _ _ rfl HO1.out A1 (bts t.R).length c1 (btl (bts t.R)) rfl (btl_len _) HS1.out btl_cell ?c3 ?c4 ?c5 ?_)
      case c3 => unfold maxLen; omega
      case c4 => omega
      case c5 => exact HB1.out.size
      intro v' w2 hown hgr
      have HB2 := vl (HB1.out.trans (below_app' HO1.out hgr HB1.out.size))
      have HO2 := vl hown
      clear hown hgr
      go_wp2
      go_roundw
      case rel => exact ⟨k + 1, by omega, by go_num, vl (by rw [HE.out.2, HE.out.1, btl_app]; exact HO2.out), HB2⟩
      case measure => simp [intOf]; omega
    · obtain rfl : k = S.length := by omega
      have HO2 := HO
      rw [List.take_length] at HO2
      go_wp2
      go_ret
      exact ⟨⟨_, rfl, HO2.out⟩, HB.out⟩
set_option maxRecDepth 100000 in
set_option maxHeartbeats 2000000 in
theorem trains_impl (A : Option Addr) (c : Nat) (S : List Tr) (w : World) (hm : ModS S) (hp : Trs w A S) :
    Calls Try.prog 133 #[.slice A S.length c] w fun e w' => e = .returned (.bool (trsB S)) ∧ Below w.heap.size w w' := by
  have HP := vl hp
  have HM := vl hm
  have hn := hm.len
  have hbl := hm.boz
  clear hp hm
  by_cases h8 : 8 < S.length
  · have HE := vl (trsB_len h8)
    go_enter Try.func133, Try.ntmps133
    go_wp2
    go_ret
    exact ⟨ret_bool HE.out.symm, Below.refl _ _⟩
  have h8' : S.length ≤ 8 := by omega
  clear h8
  go_enter Try.func133, Try.ntmps133
  go_wp2_with fail
  refine (evt_every (atL (fun t => tOk t.R) S) A c S _ (by omega) HP.out (fun k t Ai ci w' _ ht hp _ => by rw [atL_at ht]; exact tok_impl t.up Ai ci t.R w' (HM.out.all t (mem_of ht)) hp)).mono ?_
  rintro e w1 ⟨rfl, hb1⟩
  rw [show allTo (atL (fun t => tOk t.R) S) S.length = allOk S from allTo_list _ _]
  have HB1 := vl hb1
  have HP1 := vl (HP.out.below hb1)
  clear hb1
  cases hok : allOk S with
  | false =>
    have HE := vl (trsB_bad hok)
    clear hok
    go_wp2
    go_ret
    exact ⟨ret_bool HE.out.symm, HB1.out⟩
  | true =>
    have HE := vl (trsB_of h8' hok)
    clear hok
    go_wp2_with fail
    refine (vessels_t A c S _ (by omega) HP1.out).mono ?_
    rintro e w2 ⟨⟨v2, xs, rfl, ho2, hx2⟩, hb2⟩
    have HB2 := vl (HB1.out.trans (hb2.mono HB1.out.size))
    obtain ⟨A2, c2, rfl, hs2⟩ := own_src ho2
    have HS2 := vl hs2
    have HX2 := vl hx2
    clear ho2 hb2 hs2 hx2
    go_wp2_with fail
    refine (boats_ts A2 c2 S xs _ HM.out HX2.out HS2.out).mono ?_
    rintro e w3 ⟨⟨v3, rfl, ho3⟩, hb3⟩
    have HB3 := vl (HB2.out.trans (hb3.mono HB2.out.size))
    obtain ⟨A3, c3, g3, rfl, hc3, hr3, _⟩ := rowB_of_own ho3 hb3.size
    have HR3 := vl hr3.bts
    clear ho3 hb3 hr3 hc3
    go_wp2_with fail
    refine (ids_impl A3 c3 (boz S) _ hbl HR3.out).mono ?_
    rintro e w4 ⟨⟨v4, rfl, ho4⟩, hb4⟩
    have HB4 := vl (HB3.out.trans (hb4.mono HB3.out.size))
    obtain ⟨A4, c4, g4, rfl, hc4, hr4, _⟩ := rowI_of_own ho4 hb4.size
    have HR4 := vl hr4
    clear ho4 hb4 hr4
    go_wp2_with fail
    refine (differ_ids A4 c4 (boz S) _ hbl hc4 HR4.out).mono ?_
    rintro e w' ⟨rfl, rfl⟩
    go_wp2
    go_ret
    exact ⟨ret_bool HE.out.symm, HB4.out⟩
set_option maxRecDepth 100000 in
set_option maxHeartbeats 2000000 in
theorem lok_impl (k : Lk) (A : Option Addr) (c : Nat) (S : List Tr) (w : World) (hm : ModS S) (hp : Trs w A S) :
    Calls Try.prog 72 #[.agg #[.int .i64 k.le, .int .i64 k.wi, .int .i64 k.sa, .int .i64 k.sb, .int .i64 k.ba, .int .i64 k.ar, .int .i64 k.ra, .int .i64 k.wa, .int .i64 k.ga, .slice A S.length c]] w fun e w' => e = .returned (.bool (lkB k S)) ∧ Below w.heap.size w w' := by
  have HB0 := vl ((Below.refl w.heap.size w).alloc (Nat.le_refl _) (.cells #[.int .i64 k.le, .int .i64 k.wi, .int .i64 k.sa, .int .i64 k.sb, .int .i64 k.ba, .int .i64 k.ar, .int .i64 k.ra, .int .i64 k.wa, .int .i64 k.ga, .slice A S.length c] 73))
  have HP := vl (hp.below HB0.out)
  have HM := vl hm
  have HX0 := vl (KBox.new w k (.slice A S.length c) 73)
  clear hp hm
  go_enter Try.func72, Try.ntmps72
  go_wp2_with fail
  refine (chamber_impl k (.slice A S.length c) rfl A S.length c rfl _).mono ?_
  rintro e w1 ⟨rfl, hb1⟩
  have HB1 := vl (HB0.out.trans (hb1.mono HB0.out.size))
  have HX1 := vl (HX0.out.below hb1)
  have HP1 := vl (HP.out.below hb1)
  clear hb1
  obtain ⟨x0, x1, x2, x3, x4, x5, x6, x7, x8, x9⟩ := HX1.out
  clear x0 x1 x2 x3 x4 x5 x6 x7 x8
  cases hch : chB k with
  | false =>
    have HE := vl (show lkB k S = false by unfold lkB; rw [hch, Bool.false_and])
    clear hch
    go_wp2
    go_ret
    exact ⟨ret_bool HE.out.symm, HB1.out⟩
  | true =>
    have HE := vl (show lkB k S = trsB S by unfold lkB; rw [hch, Bool.true_and])
    clear hch
    go_wp2_with fail
    refine (trains_impl A c S _ HM.out HP1.out).mono ?_
    rintro e w2 ⟨rfl, hb2⟩
    have HB2 := vl (HB1.out.trans (hb2.mono HB1.out.size))
    clear hb2
    go_wp2
    go_ret
    exact ⟨ret_bool HE.out.symm, HB2.out⟩
set_option maxRecDepth 100000 in
set_option maxHeartbeats 2000000 in
theorem lvk_impl (k : Lk) (A : Option Addr) (c : Nat) (S : List Tr) (w : World) (hm : ModS S) (hp : Trs w A S) :
    Calls Try.prog 75 #[.agg #[.int .i64 k.le, .int .i64 k.wi, .int .i64 k.sa, .int .i64 k.sb, .int .i64 k.ba, .int .i64 k.ar, .int .i64 k.ra, .int .i64 k.wa, .int .i64 k.ga, .slice A S.length c]] w fun e w' => e = .returned (.int .i64 (lvK k S)) ∧ Below w.heap.size w w' := by
  have HB0 := vl ((Below.refl w.heap.size w).alloc (Nat.le_refl _) (.cells #[.int .i64 k.le, .int .i64 k.wi, .int .i64 k.sa, .int .i64 k.sb, .int .i64 k.ba, .int .i64 k.ar, .int .i64 k.ra, .int .i64 k.wa, .int .i64 k.ga, .slice A S.length c] 73))
  have HP := vl (hp.below HB0.out)
  have HM := vl hm
  have HX0 := vl (KBox.new w k (.slice A S.length c) 73)
  clear hp hm
  go_enter Try.func75, Try.ntmps75
  go_wp2_with fail
  refine (lok_impl k A c S _ HM.out HP.out).mono ?_
  rintro e w1 ⟨rfl, hb1⟩
  have HB1 := vl (HB0.out.trans (hb1.mono HB0.out.size))
  have HX1 := vl (HX0.out.below hb1)
  clear hb1
  cases hok : lkB k S with
  | false =>
    have HE := vl (show lvK k S = 0 by unfold lvK; rw [hok]; rfl)
    clear hok
    go_wp2
    go_ret
    exact ⟨ret_int HE.out.symm, HB1.out⟩
  | true =>
    have HE := vl (show lvK k S = min (k.ba + k.wa / k.ar) 100000 by unfold lvK; rw [if_pos hok])
    have HI := lk_in hok
    have i1 := HI.ba0; have i2 := HI.ba1; have i3 := HI.ar0; have i4 := HI.ar1; have i5 := HI.wa0; have i6 := HI.wa1
    have i7 : 0 ≤ k.wa / k.ar := Int.ediv_nonneg i5 (by omega)
    have i8 : k.wa / k.ar ≤ 1000000000 := Int.le_trans (Int.ediv_le_self _ i5) i6
    obtain ⟨x0, x1, x2, x3, x4, x5, x6, x7, x8, x9⟩ := HX1.out
    clear hok HI x0 x1 x2 x3 x6 x8 x9
    have e1 : Int.tdiv k.wa k.ar = k.wa / k.ar := Int.tdiv_eq_ediv_of_nonneg i5
    obtain ⟨q, hq⟩ : ∃ q, k.wa / k.ar = q := ⟨_, rfl⟩
    rw [hq] at i7 i8 HE e1
    clear hq
    have e2 : IntKind.i64.wrap q = q := IntWalk.i64_in _ (by omega)
    have e3 : IntKind.i64.wrap (k.ba + q) = k.ba + q := IntWalk.i64_in _ (by omega)
    have e4 : (k.ar == 0) = false := beq_eq_false_iff_ne.2 (by omega)
    go_wp2
    go_quiet (fail)
    clear e2 e3 e4
    go_wp2
    all_goals
      go_ret
      exact ⟨ret_int (by rw [HE.out]; omega), HB1.out.drewN' _⟩
end Go.Proofs.Ytmfeleocjmdooaa.C1
