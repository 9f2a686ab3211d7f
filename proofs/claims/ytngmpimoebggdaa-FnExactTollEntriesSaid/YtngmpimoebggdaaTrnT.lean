/- Whether a train is valid: of the model. -/
import Derived.Test.YtngmpimoebggdaaTrnS
namespace Go.Proofs.Ytngmpimoebggdaa.C1
open Go.ChangeShapes Go.WideShapes Go.ChangeAt Go.RowKit
set_option linter.unusedVariables false

theorem tOk_full {T : List (List Bt)} (h : full T = false) : tOk T = false := by unfold tOk; rw [h, Bool.false_and]
theorem tOk_len {T : List (List Bt)} (h : inB ((bts T).length : Int) 1 6 = false) : tOk T = false := by unfold tOk; rw [h, Bool.false_and, Bool.and_false]
theorem tOk_bad {T : List (List Bt)} {k : Nat} {b : Bt} (hb : (bts T)[k]? = some b) (h : bOk b = false) : tOk T = false := by
  have : (bts T).all bOk = false := by
    rw [Bool.eq_false_iff]
    intro h'
    rw [List.all_eq_true] at h'
    rw [h' b (mem_of hb)] at h; cases h
  unfold tOk; rw [this, Bool.false_and, Bool.and_false, Bool.and_false]
theorem tOk_two {T : List (List Bt)} (h : difB (idz (bts T)) = false) : tOk T = false := by unfold tOk; rw [h, Bool.and_false, Bool.and_false, Bool.and_false]
theorem tOk_of {T : List (List Bt)} (h1 : full T = true) (h3 : (bts T).all bOk = true) (h4 : difB (idz (bts T)) = true) : tOk T = inB ((bts T).length : Int) 1 6 := by unfold tOk; rw [h1, h3, h4]; simp
theorem full_of {T : List (List Bt)} (h : ∀ (i : Nat) (r : List Bt), T[i]? = some r → r ≠ []) : full T = true := by
  unfold full
  rw [List.all_eq_true]
  intro r hr
  obtain ⟨i, hi⟩ := List.getElem?_of_mem hr
  have := h i r hi
  cases r with
  | nil => exact absurd rfl this
  | cons => rfl
theorem all_of {L : List Bt} (h : ∀ (i : Nat) (b : Bt), L[i]? = some b → bOk b = true) : L.all bOk = true := by
  rw [List.all_eq_true]
  intro b hb
  obtain ⟨i, hi⟩ := List.getElem?_of_mem hb
  exact h i b hi
theorem idz_at {L : List Bt} {k : Nat} {b : Bt} (h : L[k]? = some b) : (idz L)[k]? = some b.i := by simp [idz, h]
theorem idz_len (L : List Bt) : (idz L).length = L.length := by simp [idz]
set_option maxHeartbeats 2000000 in
theorem tok_spec (up : Bool) (A : Option Addr) (c : Nat) (T : List (List Bt)) (w : World) (hm : Mod T) (hp : Trn w A T) :
    Calls Try.prog 64 #[.agg #[.bool up, .slice A T.length c]] w fun e w' => e = .returned (.bool (tOk T)) ∧ Below w.heap.size w w' := by
  have HM := vl hm
  have hn := hm.rows
  have ha := hm.all
  have HB0 := vl ((Below.refl w.heap.size w).alloc (Nat.le_refl _) (.cells #[.bool up, .slice A T.length c] 29))
  have HP := vl (hp.alloc (.cells #[.bool up, .slice A T.length c] 29))
  have HX0 := vl (show (w.alloc (.cells #[.bool up, .slice A T.length c] 29)).cell? ⟨w.heap.size, 1, none⟩ = some (.slice A T.length c) by simp)
  clear hp hm
  go_enter Try.func64, Try.ntmps64
  go_wp2_with fail
  refine (boats_spec up A c T _ HM.out HP.out).mono ?_
  rintro e w1 ⟨⟨A1, c1, g1, rfl, hr1, hg1⟩, hb1⟩
  have HB1 := vl (HB0.out.trans (hb1.mono (by simp)))
  have HX1 := vl ((hb1.cell (p := ⟨w.heap.size, 1, none⟩) (by simp)).trans HX0.out)
  have HL := vl hr1.bts
  have HP1 := vl (HP.out.below hb1)
  clear hr1 hb1 HX0 HB0 HP
  have x1 := HX1.out
  go_wp2
  go_loop [4] (fun i => ∃ k : Nat, k ≤ T.length ∧ i = .int .i64 k ∧ Veil (∀ (i : Nat) (r : List Bt), i < k → T[i]? = some r → r ≠ [])) (fun i => T.length - (intOf i).toNat)
  case atStart => exact ⟨0, by omega, rfl, vl fun i r hi => by omega⟩
  case round =>
    obtain ⟨k, hk, rfl, HF⟩ := hrel
    by_cases hlt : k < T.length
    · obtain ⟨r, hr⟩ := get_of hlt
      obtain ⟨g, o, rfl, hc⟩ := HP1.out (by omega)
      obtain ⟨Ai, ci, c0, _⟩ := hc k r hr
      have HK := vl hr
      clear hc hr
      by_cases hr0 : r.length = 0
      · have he : r = [] := List.eq_nil_of_length_eq_zero hr0
        rw [hr0] at c0
        have HE := vl (tOk_full (full_no (he ▸ HK.out)))
        clear he hr0
        go_wp2
        go_ret
        exact ⟨ret_bool HE.out.symm, HB1.out⟩
      · have hr1 : ((r.length : Int) == 0) = false := beq_eq_false_iff_ne.2 (by omega)
        have HN := vl (show r ≠ [] from fun e => hr0 (by rw [e]; rfl))
        clear hr0
        go_wp2
        go_round
        case rel =>
          refine ⟨k + 1, by omega, by go_num, vl fun i s hi hs => ?_⟩
          by_cases e : i = k
          · subst e
            rw [HK.out] at hs
            injection hs with hs
            subst hs
            exact HN.out
          · exact HF.out i s (by omega) hs
        case measure => simp [intOf]; omega
    · have HFF := vl (full_of fun i r hi => HF.out i r (by have := len_of hi; omega) hi)
      clear HF
      go_wp2
      clear hlt hk
      by_cases h6 : 6 < (bts T).length
      · have HI := vl (inB_no (x := ((bts T).length : Int)) (l := 1) (h := 6) (by omega))
        go_loop [5] (fun i => i = .int .i64 0) (fun i => 1)
        case atStart => exact rfl
        case round =>
          obtain rfl := hrel
          go_wp2_with fail
          refine (in_spec _ _ _ _).mono ?_
          rintro e w' ⟨rfl, rfl⟩
          rw [HI.out]
          go_wp2
          go_ret
          exact ⟨ret_bool (tOk_len HI.out).symm, HB1.out⟩
      have h6' : (bts T).length ≤ 6 := by omega
      clear h6
      go_loopw [5] (fun i wr => ∃ k : Nat, k ≤ (bts T).length ∧ i = .int .i64 k ∧ Veil (∀ (i : Nat) (b : Bt), i < k → (bts T)[i]? = some b → bOk b = true) ∧ Veil (difK (idz (bts T)) k = true) ∧ Veil (Below w.heap.size w wr) ∧ Veil (Bts wr A1 (bts T))) (fun i _ => (bts T).length - (intOf i).toNat)
      case atStart => exact ⟨0, by omega, rfl, vl fun i b hi => by omega, vl rfl, HB1, HL⟩
      case round =>
        obtain ⟨k, hk, rfl, HA, HD, HB, HL2⟩ := hrel
        by_cases hlt : k < (bts T).length
        · obtain ⟨b, hb⟩ := get_of hlt
          obtain ⟨g, o, rfl, hc⟩ := HL2.out (by omega)
          obtain ⟨y0, y1, y2, y3, y4, y5⟩ := hc k b hb
          have HK := vl hb
          have HC := vl hc
          clear hc hb
          go_wp2_with fail
          refine (bok_spec b _).mono ?_
          rintro e w2 ⟨rfl, hb2⟩
          have HB2 := vl (HB.out.trans (hb2.mono HB.out.size))
          have HL3 := vl (HL2.out.below hb2)
          have z0 := (hb2.cell (cell_lt' y0)).trans y0
          have HC2 := vl (fun i b' hi => (HC.out i b' hi).below hb2)
          clear hb2 y0 y1 y2 y3 y4 y5
          cases hok : bOk b with
          | false =>
            have HE := vl (tOk_bad HK.out hok)
            clear hok
            go_wp2
            go_ret
            exact ⟨ret_bool HE.out.symm, HB2.out⟩
          | true =>
            have HO := vl hok
            clear hok
            go_wp2
            go_loopw [6] (fun i wr => ∃ m : Nat, m ≤ k ∧ i = .int .i64 m ∧ (∃ q, wr = w2.drewN q) ∧ Veil (∀ (i : Nat) (y : Int), i < m → (idz (bts T))[i]? = some y → y ≠ b.i)) (fun i _ => k - (intOf i).toNat)
            case atStart => exact ⟨0, by omega, rfl, ⟨0, rfl⟩, vl fun i y hi => by omega⟩
            case round =>
              obtain ⟨m, hm, rfl, ⟨q, rfl⟩, HN⟩ := hrel
              by_cases hml : m < k
              · obtain ⟨b', hb'⟩ := get_of (L := bts T) (k := m) (by omega)
                have v0 := (HC2.out m b' hb').1
                have HM' := vl hb'
                clear hb'
                by_cases he : b'.i = b.i
                · have HE := vl (tOk_two (difK_no (idz_at HK.out) hml (he ▸ idz_at HM'.out)))
                  have he1 : (b'.i == b.i) = true := by simp [he]
                  clear he
                  go_wp2
                  go_quiet (fail)
                  go_wp2
                  go_ret
                  exact ⟨ret_bool HE.out.symm, (HB2.out.drewN' _).drewN' _⟩
                · have he1 : (b'.i == b.i) = false := beq_eq_false_iff_ne.2 he
                  have HE := vl he
                  clear he
                  go_wp2
                  go_quiet (fail)
                  go_wp2
                  go_roundw
                  case rel =>
                    refine ⟨m + 1, by omega, by go_num, ⟨_, rfl⟩, vl fun i y hi hy => ?_⟩
                    by_cases e : i = m
                    · subst e
                      rw [idz_at HM'.out] at hy
                      injection hy with hy
                      rw [← hy]; exact HE.out
                    · exact HN.out i y (by omega) hy
                  case measure => simp [intOf]; omega
              · obtain rfl : m = k := by omega
                go_wp2
                go_roundw
                case rel =>
                  refine ⟨m + 1, by omega, by go_num, vl fun i b' hi hb' => ?_, vl (difK_yes (idz_at HK.out) HD.out fun i y hi hy => HN.out i y hi hy), vl (HB2.out.drewN' _), vl HL3.out⟩
                  by_cases e : i = m
                  · subst e
                    rw [HK.out] at hb'
                    injection hb' with hb'
                    rw [← hb']; exact HO.out
                  · exact HA.out i b' (by omega) hb'
                case measure => simp [intOf]; omega
        · obtain rfl : k = (bts T).length := by omega
          have HE := vl (tOk_of HFF.out (all_of fun i b hi => HA.out i b (len_of hi) hi) (by unfold difB; rw [idz_len]; exact HD.out))
          go_wp2_with fail
          refine (in_spec _ _ _ _).mono ?_
          rintro e w' ⟨rfl, rfl⟩
          go_wp2
          go_ret
          exact ⟨ret_bool HE.out.symm, HB.out⟩
end Go.Proofs.Ytngmpimoebggdaa.C1
