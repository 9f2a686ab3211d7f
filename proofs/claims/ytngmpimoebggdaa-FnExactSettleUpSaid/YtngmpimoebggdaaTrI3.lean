/- Whether a train is valid: of the program. -/
import Derived.Test.YtngmpimoebggdaaTrI2
import Derived.Test.YtngmpimoebggdaaEvM
import Derived.Laws.EntriesVeiled
namespace Go.Proofs.Ytngmpimoebggdaa.C1
open Go.ChangeShapes Go.WideShapes Go.ChangeAt Go.RowKit
set_option linter.unusedVariables false

set_option maxHeartbeats 1000000 in
theorem evb_one (P : Bool) (q : Nat) (b : Bt) (w : World) (hq : w.cell? ⟨q, 0, none⟩ = some (.func (Fn.func 144) #[] #[]))
    (hf : ∀ w', Below w.heap.size w w' → Calls Try.prog 144 #[.agg #[.int .i64 b.i, .int .i64 b.l, .int .i64 b.w, .int .i64 b.d, .int .i64 b.s, .int .i64 b.c]] w' fun e w'' => e = .returned (.bool P) ∧ Below w'.heap.size w' w'') :
    Calls Try.prog 190 #[.agg #[.int .i64 b.i, .int .i64 b.l, .int .i64 b.w, .int .i64 b.d, .int .i64 b.s, .int .i64 b.c], .pointer (some ⟨q, 0, none⟩)] w fun e w' => e = .returned (.bool (!P)) ∧ Below w.heap.size w w' := by
  have hlt := World.block_lt_of_cell? _ _ hq
  have HF := vl hf
  clear hf
  cases P
  all_goals
    go_enter Try.func190, Try.ntmps190
    go_wp2_with fail
    refine (HF.out _ ((Below.refl _ _).alloc (Nat.le_refl _) _)).mono ?_
    rintro e w1 ⟨rfl, hb1⟩
    have HB1 := vl (((Below.refl w.heap.size w).alloc (Nat.le_refl _) _).trans (hb1.mono (by simp)))
    clear hb1
    go_wp2
    go_ret
    exact ⟨rfl, HB1.out⟩
set_option maxHeartbeats 1000000 in
theorem evb_idx (P : Nat → Bool) (q : Nat) (A : Option Addr) (c : Nat) (L : List Bt) (w : World) (hn : L.length ≤ 1048576) (hp : Bts w A L) (hq : w.cell? ⟨q, 0, none⟩ = some (.func (Fn.func 144) #[] #[]))
    (hf : ∀ (k : Nat) (b : Bt) (w' : World), k < L.length → L[k]? = some b → Below w.heap.size w w' → Calls Try.prog 144 #[.agg #[.int .i64 b.i, .int .i64 b.l, .int .i64 b.w, .int .i64 b.d, .int .i64 b.s, .int .i64 b.c]] w' fun e w'' => e = .returned (.bool (P k)) ∧ Below w'.heap.size w' w'') :
    Calls Try.prog 214 #[.slice A L.length c, .func (Fn.func 190) #[] #[.pointer (some ⟨q, 0, none⟩)]] w fun e w' => ((allTo P L.length = true ∧ e = .returned (.int .i64 (-1))) ∨ (allTo P L.length = false ∧ ∃ k : Nat, e = .returned (.int .i64 (k : Int)))) ∧ Below w.heap.size w w' := by
  have HP := vl hp
  have HQ := vl hq
  have HF := vl hf
  clear hp hq hf
  go_enter Try.func214, Try.ntmps214
  go_wp2
  go_loopw [8] (fun i wr => ∃ k : Nat, k ≤ L.length ∧ i = .int .i64 k ∧ Veil (allTo P k = true) ∧ Veil (Below w.heap.size w wr)) (fun i _ => L.length - (intOf i).toNat)
  case atStart => exact ⟨0, by omega, rfl, vl rfl, vl (Below.refl _ _)⟩
  case round =>
    obtain ⟨k, hk, rfl, HA, HB⟩ := hrel
    by_cases hlt : k < L.length
    · obtain ⟨b, hb⟩ := get_of hlt
      obtain ⟨g, o, rfl, hc⟩ := (HP.out.below HB.out) (by omega)
      obtain ⟨x0, x1, x2, x3, x4, x5⟩ := hc k b hb
      have HE0 := vl hb
      clear hc hb
      have HQ1 := vl ((HB.out.cell (World.block_lt_of_cell? _ _ HQ.out)).trans HQ.out)
      cases hkk : P k with
      | true =>
        have HN := vl (allTo_succ HA.out hkk)
        have HK := vl hkk
        clear hkk
        go_wp2_with fail
        refine (evb_one (P k) q b _ HQ1.out (fun w' h => HF.out k b w' hlt HE0.out (HB.out.trans (h.mono HB.out.size)))).mono ?_
        rintro e w1 ⟨rfl, hb1⟩
        rw [HK.out]
        have HB1 := vl (HB.out.trans (hb1.mono HB.out.size))
        clear hb1
        go_wp2
        go_roundw
        case rel => exact ⟨k + 1, by omega, by go_num, HN, HB1⟩
        case measure => simp [intOf]; omega
      | false =>
        have HN := vl (allTo_no hlt hkk)
        have HK := vl hkk
        clear hkk
        go_wp2_with fail
        refine (evb_one (P k) q b _ HQ1.out (fun w' h => HF.out k b w' hlt HE0.out (HB.out.trans (h.mono HB.out.size)))).mono ?_
        rintro e w1 ⟨rfl, hb1⟩
        rw [HK.out]
        have HB1 := vl (HB.out.trans (hb1.mono HB.out.size))
        clear hb1
        go_wp2
        go_ret
        exact ⟨Or.inr ⟨HN.out, k, rfl⟩, HB1.out⟩
    · obtain rfl : k = L.length := by omega
      go_wp2
      go_ret
      exact ⟨Or.inl ⟨HA.out, rfl⟩, HB.out⟩
theorem evb_con (P : Nat → Bool) (q : Nat) (A : Option Addr) (c : Nat) (L : List Bt) (w : World) (hn : L.length ≤ 1048576) (hp : Bts w A L) (hq : w.cell? ⟨q, 0, none⟩ = some (.func (Fn.func 144) #[] #[]))
    (hf : ∀ (k : Nat) (b : Bt) (w' : World), k < L.length → L[k]? = some b → Below w.heap.size w w' → Calls Try.prog 144 #[.agg #[.int .i64 b.i, .int .i64 b.l, .int .i64 b.w, .int .i64 b.d, .int .i64 b.s, .int .i64 b.c]] w' fun e w'' => e = .returned (.bool (P k)) ∧ Below w'.heap.size w' w'') :
    Calls Try.prog 189 #[.slice A L.length c, .func (Fn.func 190) #[] #[.pointer (some ⟨q, 0, none⟩)]] w fun e w' => e = .returned (.bool (!allTo P L.length)) ∧ Below w.heap.size w w' := by
  have HP := vl hp
  have HQ := vl hq
  have HF := vl hf
  clear hp hq hf
  go_enter Try.func189, Try.ntmps189
  go_wp2_with fail
  refine (evb_idx P q A c L _ hn HP.out HQ.out HF.out).mono ?_
  rintro e w1 ⟨⟨ha, rfl⟩ | ⟨ha, j, rfl⟩, hb1⟩
  · have HV := vl ha
    have HB1 := vl hb1
    clear hb1 ha
    go_wp2
    go_ret
    exact ⟨by rw [HV.out]; rfl, HB1.out⟩
  · have HV := vl ha
    have HB1 := vl hb1
    have k0 : (0 : Int) ≤ (j : Int) := by omega
    clear hb1 ha
    go_wp2
    go_ret
    exact ⟨by rw [HV.out]; rfl, HB1.out⟩
theorem evb_every (P : Nat → Bool) (A : Option Addr) (c : Nat) (L : List Bt) (w : World) (hn : L.length ≤ 1048576) (hp : Bts w A L)
    (hf : ∀ (k : Nat) (b : Bt) (w' : World), k < L.length → L[k]? = some b → Below w.heap.size w w' → Calls Try.prog 144 #[.agg #[.int .i64 b.i, .int .i64 b.l, .int .i64 b.w, .int .i64 b.d, .int .i64 b.s, .int .i64 b.c]] w' fun e w'' => e = .returned (.bool (P k)) ∧ Below w'.heap.size w' w'') :
    Calls Try.prog 143 #[.slice A L.length c, .func (Fn.func 144) #[] #[]] w fun e w' => e = .returned (.bool (allTo P L.length)) ∧ Below w.heap.size w w' := by
  have HP := vl hp
  have HF := vl hf
  clear hp hf
  cases hv : allTo P L.length
  all_goals
    have HV := vl hv
    clear hv
    go_enter Try.func143, Try.ntmps143
    go_wp2_with fail
    refine (evb_con P _ A c L _ hn ?_ ?_ ?_).mono ?_
    · exact HP.out.below ((Below.refl _ _).alloc (Nat.le_refl _) _)
    · simp; done
    · intro k b w' hk h0 h
      exact HF.out k b w' hk h0 (((Below.refl w.heap.size w).alloc (Nat.le_refl _) _).trans (h.mono (by simp)))
    rintro e w1 ⟨rfl, hb1⟩
    rw [HV.out]
    have HB1 := vl (((Below.refl w.heap.size w).alloc (Nat.le_refl _) _).trans (hb1.mono (by simp)))
    clear hb1
    go_wp2
    go_ret
    exact ⟨rfl, HB1.out⟩
theorem differ_ids (A : Option Addr) (c : Nat) (L : List Bt) (w : World) (hn : L.length ≤ 1048576) (hc : L.length ≤ c) {g : Nat} (hr : RowI w A L.length g (idf L)) :
    Calls Try.prog 145 #[.slice A L.length c] w fun e w' => e = .returned (.bool (difB (idz L))) ∧ w = w' := by
  have := differ_impl A c (idz L) w (by rw [idz_len]; exact hn) (by rw [idz_len]; exact hc) (by rw [idz_len]; exact fun h => ⟨g, hr.1 h, fun i hi => hr.2 i hi⟩)
  rwa [idz_len] at this
set_option maxRecDepth 100000 in
set_option maxHeartbeats 2000000 in
theorem tok_impl (up : Bool) (A : Option Addr) (c : Nat) (T : List (List Bt)) (w : World) (hm : Mod T) (hp : Trn w A T) :
    Calls Try.prog 69 #[.agg #[.bool up, .slice A T.length c]] w fun e w' => e = .returned (.bool (tOk T)) ∧ Below w.heap.size w w' := by
  have HM := vl hm
  have hn := hm.rows
  have ha := hm.all
  have HB0 := vl ((Below.refl w.heap.size w).alloc (Nat.le_refl _) (.cells #[.bool up, .slice A T.length c] 29))
  have HP := vl (hp.alloc (.cells #[.bool up, .slice A T.length c] 29))
  clear hp hm
  cases hf : (full T && inB ((bts T).length : Int) 1 6) with
  | false =>
    have HF := vl hf
    have HE := vl (show tOk T = false by unfold tOk; rw [← Bool.and_assoc, hf, Bool.false_and])
    clear hf
    go_enter Try.func69, Try.ntmps69
    go_wp2_with fail
    refine (rows_impl A c T _ HM.out HP.out).mono ?_
    rintro e w' ⟨rfl, rfl⟩
    rw [HF.out]
    go_wp2
    go_ret
    exact ⟨ret_bool HE.out.symm, HB0.out⟩
  | true =>
    have HF := vl hf
    have HE := vl (show tOk T = ((bts T).all bOk && difB (idz (bts T))) by unfold tOk; rw [← Bool.and_assoc, hf, Bool.true_and])
    clear hf
    go_enter Try.func69, Try.ntmps69
    go_wp2_with fail
    refine (rows_impl A c T _ HM.out HP.out).mono ?_
    rintro e w' ⟨rfl, rfl⟩
    rw [HF.out]
    go_wp2_with fail
    have HB1 := vl (HB0.out.alloc HB0.out.size (.cells #[.iface 29 (.agg #[.bool up, .slice A T.length c])] 215))
    refine (boats_t up A c _ T _ HM.out (HP.out.alloc _) (by simp)).mono ?_
    rintro e w2 ⟨⟨v, rfl, ho2⟩, hb2⟩
    have HB2 := vl (HB1.out.trans (hb2.mono (by simp; omega)))
    obtain ⟨A2, c2, g2, rfl, hc2, hr2, _⟩ := rowB_of_own ho2 hb2.size
    have HR2 := vl hr2.bts
    clear ho2 hb2 hr2 hc2
    go_wp2_with fail
    refine (evb_every (atL bOk (bts T)) A2 c2 (bts T) _ ha HR2.out (fun k b w' _ hb _ => by rw [atL_at hb]; exact bok_impl b w')).mono ?_
    rintro e w3 ⟨rfl, hb3⟩
    rw [allTo_list]
    have HB3 := vl (HB2.out.trans (hb3.mono HB2.out.size))
    have HR3 := vl (HR2.out.below hb3)
    clear hb3 HR2
    cases hall : (bts T).all bOk with
    | false =>
      have HE2 := vl (show tOk T = false by rw [HE.out, hall, Bool.false_and])
      clear hall
      go_wp2
      go_ret
      exact ⟨ret_bool HE2.out.symm, HB3.out⟩
    | true =>
      have HE2 := vl (show tOk T = difB (idz (bts T)) by rw [HE.out, hall, Bool.true_and])
      clear hall
      go_wp2_with fail
      refine (ids_impl A2 c2 (bts T) _ ha HR3.out).mono ?_
      rintro e w4 ⟨⟨v, rfl, ho4⟩, hb4⟩
      have HB4 := vl (HB3.out.trans (hb4.mono HB3.out.size))
      obtain ⟨A4, c4, g4, rfl, hc4, hr4, _⟩ := rowI_of_own ho4 hb4.size
      have HR4 := vl hr4
      clear ho4 hb4 hr4
      go_wp2_with fail
      refine (differ_ids A4 c4 (bts T) _ ha hc4 HR4.out).mono ?_
      rintro e w' ⟨rfl, rfl⟩
      go_wp2
      go_ret
      exact ⟨ret_bool HE2.out.symm, HB4.out⟩
end Go.Proofs.Ytngmpimoebggdaa.C1
