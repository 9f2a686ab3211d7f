/- Whether a lock is valid, and its level: of the model. -/
import Derived.Test.YtmfeleocjmdooaaLkL
import Derived.Test.YtmfeleocjmdooaaTrId
import Derived.Outline
import Derived.Deep.QuietTactic
import Derived.BigQuiet
import Derived.IntWalk
namespace Go.Proofs.Ytmfeleocjmdooaa.C1
open Go.ChangeShapes Go.WideShapes Go.ChangeAt Go.RowKit
set_option linter.unusedVariables false

theorem idz_idf {L : List Bt} {i : Nat} (h : i < L.length) : (idz L)[i]? = some (idf L i) := by
  obtain ⟨b, hb⟩ := get_of h
  rw [idz_at hb, idf_at hb]
theorem itl_idf (L : List Bt) : itl L.length (idf L) = (idz L).map (Value.int .i64) := by
  apply List.ext_getElem?
  intro i
  by_cases h : i < L.length
  · rw [itl_at h, List.getElem?_map, idz_idf h]; rfl
  · rw [List.getElem?_eq_none (by rw [itl_len]; omega), List.getElem?_eq_none (by rw [List.length_map, idz_len]; omega)]
theorem itl_join (L M : List Bt) : itl L.length (idf L) ++ itl M.length (idf M) = itl (L ++ M).length (idf (L ++ M)) := by rw [itl_idf, itl_idf, itl_idf, idz_app, List.map_append]
theorem src_ids {w : World} {A : Option Addr} {n g : Nat} {Z : Nat → Int} (h : RowI w A n g Z) : 0 < n → ∃ ad, A = some ad ∧ ∀ j u, (itl n Z)[j]? = some u → w.cell? (ad.add j) = some u := fun hn =>
  ⟨_, h.1 hn, fun j u hu => by
    have hj : j < n := by have := len_of hu; rwa [itl_len] at this
    rw [itl_at hj] at hu
    injection hu with hu
    subst hu
    have e : (⟨g, 0, none⟩ : Addr).add j = ⟨g, j, none⟩ := by unfold Addr.add; split <;> simp_all
    rw [e]; exact h.2 j hj⟩
set_option maxRecDepth 100000 in
set_option maxHeartbeats 4000000 in
theorem differ_spec (A : Option Addr) (c : Nat) (S : List Tr) (w : World) (hm : ModS S) (hok : allOk S = true) (hp : Trs w A S) :
    Calls Try.prog 134 #[.slice A S.length c] w fun e w' => e = .returned (.bool (difB (idz (boz S)))) ∧ Below w.heap.size w w' := by
  obtain ⟨i0, hi, hz0, hz1, hz2⟩ := info_parts infoI
  have HP := vl hp
  have HM := vl hm
  have HA := vl hok
  have hn := hm.len
  have hbl := hm.boz
  clear hp hm hok
  go_enter Try.func134, Try.ntmps134
  go_wp2
  go_loopw [3, 4] (fun v i wr => ∃ k : Nat, k ≤ S.length ∧ i = .int .i64 k ∧ Veil (Below w.heap.size w wr) ∧ Veil (difB (idz (boz (S.take k))) = true) ∧ Veil (wr.ownsRow w.heap.size 3 1 v (boz (S.take k)).length (itl (boz (S.take k)).length (idf (boz (S.take k)))))) (fun _ i _ => S.length - (intOf i).toNat)
  case atStart =>
    refine ⟨0, by omega, rfl, vl ((Below.refl _ _).alloc (Nat.le_refl _) _), vl rfl, vl ?_⟩
    have := World.ownsRow_lit (base := w.heap.size) (e := 3) (size := 1) w #[] 0 (by simp) (by decide) rfl
    simpa [boz, itl] using this
  case round =>
    obtain ⟨k, hk, rfl, HB, HD, HO⟩ := hrel
    by_cases hlt : k < S.length
    · obtain ⟨t, ht⟩ := get_of hlt
      obtain ⟨g, o, rfl, hc⟩ := (HP.out.below HB.out) (by omega)
      obtain ⟨x0, Ai, ci, x1, HT⟩ := hc k t ht
      have HK := vl ht
      have htok := allOk_at HA.out (mem_of ht)
      have HI := vl (tOk_iff.1 htok)
      have HN := vl (show idN t.R = (bts t.R).length by unfold idN; rw [if_pos htok])
      have h6 := HI.out.n1
      have hq := boz_take_le S (k + 1)
      rw [boz_take ht, List.length_append] at hq
      clear hc ht htok
      go_wp2_with fail
      refine (idsof_spec t.up Ai ci t.R _ (HM.out.all t (mem_of HK.out)) HT.out).mono ?_
      rintro e w1 ⟨⟨A1, c1, g1, rfl, hr1, hf1, hg1, hl1⟩, hb1⟩
      rw [HN.out] at hr1 hl1 ⊢
      have HB1 := vl (HB.out.trans (hb1.mono HB.out.size))
      have HO1 := vl (own_below HO.out hb1)
      have HR1 := vl hr1
      clear hb1 hr1 hf1 hl1 x0 x1
      obtain ⟨V, d, g2, rfl, _, hr2, _, _, _⟩ := rowI_of_own HO1.out HB1.out.size
      have HS1 := vl hr2
      have HD1 := HD
      clear hr2 HD HO HB HN
      obtain ⟨M, hM⟩ : ∃ M, M = boz (S.take k) := ⟨_, rfl⟩
      have HMe := vl hM
      rw [← hM] at HO1 HS1 HD1 hq ⊢
      clear hM
      go_wp2
      go_loopw [6] (fun i wr => ∃ m : Nat, m ≤ (bts t.R).length ∧ i = .int .i64 m ∧ (∃ q, wr = w1.drewN q) ∧ Veil (∀ (i : Nat) (x : Int), i < m → (idz (bts t.R))[i]? = some x → ∀ (j : Nat) (y : Int), (idz M)[j]? = some y → y ≠ x)) (fun i _ => (bts t.R).length - (intOf i).toNat)
      case atStart => exact ⟨0, by omega, rfl, ⟨0, rfl⟩, vl fun i x h => by omega⟩
      case round =>
        obtain ⟨m, hm, rfl, ⟨q, rfl⟩, HX⟩ := hrel
        by_cases hml : m < (bts t.R).length
        · have e1 := HR1.out.1 (by omega)
          subst e1
          have v0 := HR1.out.2 m hml
          have HMx := vl (idz_idf hml)
          go_wp2
          go_loopw [7] (fun j wr => ∃ n : Nat, n ≤ M.length ∧ j = .int .i64 n ∧ (∃ q, wr = w1.drewN q) ∧ Veil (∀ (j : Nat), j < n → idf M j ≠ idf (bts t.R) m)) (fun j _ => M.length - (intOf j).toNat)
          case atStart => exact ⟨0, by omega, rfl, ⟨q, rfl⟩, vl fun j h => by omega⟩
          case round =>
            obtain ⟨n, hn2, rfl, ⟨q, rfl⟩, HY⟩ := hrel
            by_cases hnl : n < M.length
            · have e2 := HS1.out.1 (by omega)
              subst e2
              have v1 := HS1.out.2 n hnl
              by_cases he : idf M n = idf (bts t.R) m
              · have he1 : (idf M n == idf (bts t.R) m) = true := by simp [he]
                have HE := vl (show difB (idz (boz S)) = false from dif_no HK.out (by rw [← HMe.out]; exact (idz_idf hnl).trans (by rw [he])) HMx.out)
                clear he
                go_wp2
                go_quiet (fail)
                go_wp2
                go_ret
                exact ⟨ret_bool HE.out.symm, (HB1.out.drewN' _).drewN' _⟩
              · have he1 : (idf M n == idf (bts t.R) m) = false := beq_eq_false_iff_ne.2 he
                have HE := vl he
                clear he
                go_wp2
                go_quiet (fail)
                go_wp2
                go_roundw
                case rel =>
                  refine ⟨n + 1, by omega, by go_num, ⟨_, rfl⟩, vl fun j hj => ?_⟩
                  by_cases e : j = n
                  · subst e; exact HE.out
                  · exact HY.out j (by omega)
                case measure => simp [intOf]; omega
            · obtain rfl : n = M.length := by omega
              go_wp2
              go_roundw
              case rel =>
                refine ⟨m + 1, by omega, by go_num, ⟨_, rfl⟩, vl fun i x him hx j y hy => ?_⟩
                by_cases e : i = m
                · subst e
                  have hj := len_of hy
                  rw [idz_len] at hj
                  rw [HMx.out] at hx
                  rw [idz_idf hj] at hy
                  injection hx with hx
                  injection hy with hy
                  rw [← hx, ← hy]
                  exact HY.out j hj
                · exact HX.out i x (by omega) hx j y hy
              case measure => simp [intOf]; omega
        · obtain rfl : m = (bts t.R).length := by omega
          have HE := vl (dif_yes HK.out (HMe.out ▸ HD1.out) HI.out.dif (fun i x hx j y hy => HX.out i x (by have := len_of hx; rwa [idz_len] at this) hx j y (by rw [HMe.out]; exact hy)))
          have HQ := vl (boz_take HK.out)
          have HB2 := vl (show Below w.heap.size w (w1.drewN q) from HB1.out.drewN' _)
          have HO2 := vl (show (w1.drewN q).ownsRow w.heap.size 3 1 (.slice V M.length d) M.length (itl M.length (idf M)) from own_drewN HO1.out q)
          have HS2 := vl (src_ids (show RowI (w1.drewN q) A1 (bts t.R).length g1 (idf (bts t.R)) from HR1.out))
          go_wp2_with (at_builtin; refine wpList_app rfl _ _ 37 rfl w.heap.size 3 i0 _ 1 8 Try.underlying37 hi hz0 hz1 hz2 rfl (by decide) _ _ _ rfl HO2.out A1 (bts t.R).length c1 (itl (bts t.R).length (idf (bts t.R))) rfl (by rw [itl_len, Nat.mul_one]) HS2.out itl_one ?c3 ?c4 ?c5 ?_)
          case c3 => unfold maxLen; omega
          case c4 => omega
          case c5 => exact HB2.out.size
          intro v' w2 hown hgr
          have HB3 := vl (HB2.out.trans (below_app' HO2.out hgr HB2.out.size))
          rw [itl_join] at hown
          have HO3 := vl hown
          clear hown hgr
          go_wp2
          go_roundw
          case rel => exact ⟨k + 1, by omega, by go_num, HB3, HE, vl (by rw [HQ.out, ← HMe.out]; have := HO3.out; rwa [← List.length_append] at this)⟩
          case measure => simp [intOf]; omega
    · obtain rfl : k = S.length := by omega
      have HE := vl (show difB (idz (boz S)) = true from by have := HD.out; rwa [List.take_length] at this)
      go_wp2
      go_ret
      exact ⟨ret_bool HE.out.symm, HB.out⟩
theorem l3_spec (x : Int) (w : World) :
    Calls Try.prog 130 #[.int .i64 x] w fun e w' => e = .returned (.bool (inB x 0 100000)) ∧ w = w' := by
  go_enter Try.func130, Try.ntmps130
  go_wp2_with fail
  refine (in_spec _ _ _ _).mono ?_
  rintro e w' ⟨rfl, rfl⟩
  go_wp2
  go_ret
  exact ⟨rfl, rfl⟩
set_option maxHeartbeats 2000000 in
theorem trains_spec (A : Option Addr) (c : Nat) (S : List Tr) (w : World) (hm : ModS S) (hp : Trs w A S) :
    Calls Try.prog 131 #[.slice A S.length c] w fun e w' => e = .returned (.bool (trsB S)) ∧ Below w.heap.size w w' := by
  have HP := vl hp
  have HM := vl hm
  have hn := hm.len
  clear hp hm
  go_enter Try.func131, Try.ntmps131
  go_wp2
  go_loopw [3] (fun i wr => ∃ k : Nat, k ≤ S.length ∧ i = .int .i64 k ∧ Veil (Below w.heap.size w wr) ∧ Veil (∀ (i : Nat) (t : Tr), i < k → S[i]? = some t → tOk t.R = true) ∧ Veil (0 < k → S.length ≤ 8)) (fun i _ => S.length - (intOf i).toNat)
  case atStart => exact ⟨0, by omega, rfl, vl (Below.refl _ _), vl fun i t h => by omega, vl fun h => by omega⟩
  case round =>
    obtain ⟨k, hk, rfl, HB, HT, HL⟩ := hrel
    by_cases hlt : k < S.length
    · obtain ⟨t, ht⟩ := get_of hlt
      obtain ⟨g, o, rfl, hc⟩ := (HP.out.below HB.out) (by omega)
      obtain ⟨x0, Ai, ci, x1, HTr⟩ := hc k t ht
      have HK := vl ht
      clear hc ht
      go_wp2_with fail
      refine (tok_spec t.up Ai ci t.R _ (HM.out.all t (mem_of HK.out)) HTr.out).mono ?_
      rintro e w1 ⟨rfl, hb1⟩
      have HB1 := vl (HB.out.trans (hb1.mono HB.out.size))
      clear hb1 x0 x1
      cases hok : tOk t.R with
      | false =>
        have HE := vl (trsB_bad (allOk_no (mem_of HK.out) hok))
        clear hok
        go_wp2
        go_ret
        exact ⟨ret_bool HE.out.symm, HB1.out⟩
      | true =>
        have HO := vl hok
        clear hok
        by_cases h8 : 8 < S.length
        · have HE := vl (trsB_len h8)
          go_wp2
          go_ret
          exact ⟨ret_bool HE.out.symm, HB1.out⟩
        · have h8' : S.length ≤ 8 := by omega
          clear h8
          go_wp2
          go_roundw
          case rel =>
            refine ⟨k + 1, by omega, by go_num, HB1, vl fun i u hi hu => ?_, vl fun _ => h8'⟩
            by_cases e : i = k
            · subst e
              rw [HK.out] at hu
              injection hu with hu
              subst hu
              exact HO.out
            · exact HT.out i u (by omega) hu
          case measure => simp [intOf]; omega
    · obtain rfl : k = S.length := by omega
      have h8 : S.length ≤ 8 := by
        rcases Nat.eq_zero_or_pos S.length with h | h
        · omega
        · exact HL.out h
      have HA := vl (allOk_of fun i t hi => HT.out i t (len_of hi) hi)
      have HE := vl (trsB_of h8 HA.out)
      go_wp2_with fail
      refine (differ_spec _ _ S _ HM.out HA.out (HP.out.below HB.out)).mono ?_
      rintro e w1 ⟨rfl, hb1⟩
      have HB1 := vl (HB.out.trans (hb1.mono HB.out.size))
      clear hb1
      go_wp2
      go_ret
      exact ⟨ret_bool HE.out.symm, HB1.out⟩
set_option maxRecDepth 100000 in
set_option maxHeartbeats 4000000 in
theorem lok_spec (k : Lk) (A : Option Addr) (c : Nat) (S : List Tr) (w : World) (hm : ModS S) (hp : Trs w A S) :
    Calls Try.prog 70 #[.agg #[.int .i64 k.le, .int .i64 k.wi, .int .i64 k.sa, .int .i64 k.sb, .int .i64 k.ba, .int .i64 k.ar, .int .i64 k.ra, .int .i64 k.wa, .int .i64 k.ga, .slice A S.length c]] w fun e w' => e = .returned (.bool (lkB k S)) ∧ Below w.heap.size w w' := by
  have HB0 := vl ((Below.refl w.heap.size w).alloc (Nat.le_refl _) (.cells #[.int .i64 k.le, .int .i64 k.wi, .int .i64 k.sa, .int .i64 k.sb, .int .i64 k.ba, .int .i64 k.ar, .int .i64 k.ra, .int .i64 k.wa, .int .i64 k.ga, .slice A S.length c] 73))
  have HP := vl (hp.below HB0.out)
  have HM := vl hm
  have HE := vl (show lkB k S = (chB k && trsB S) from rfl)
  clear hp hm
  cases hch : chB k with
  | false =>
    rw [hch, Bool.false_and] at HE
    have HC := vl hch
    unfold chB at hch
    go_enter Try.func70, Try.ntmps70
    cases h1 : inB k.le 1 1000 with
    | false =>
      clear hch
      go_wp2_with (first | (go_at_call 118; refine (in_spec _ _ _ _).mono ?_; rintro e w' ⟨rfl, rfl⟩) | (go_at_call 130; refine (l3_spec _ _).mono ?_; rintro e w' ⟨rfl, rfl⟩))
      go_ret
      exact ⟨ret_bool HE.out.symm, HB0.out⟩
    | true =>
    cases h2 : inB k.wi 1 100 with
    | false =>
      clear hch
      go_wp2_with (first | (go_at_call 118; refine (in_spec _ _ _ _).mono ?_; rintro e w' ⟨rfl, rfl⟩) | (go_at_call 130; refine (l3_spec _ _).mono ?_; rintro e w' ⟨rfl, rfl⟩))
      go_ret
      exact ⟨ret_bool HE.out.symm, HB0.out⟩
    | true =>
    cases h3 : inB k.sa 0 100000 with
    | false =>
      clear hch
      go_wp2_with (first | (go_at_call 118; refine (in_spec _ _ _ _).mono ?_; rintro e w' ⟨rfl, rfl⟩) | (go_at_call 130; refine (l3_spec _ _).mono ?_; rintro e w' ⟨rfl, rfl⟩))
      go_ret
      exact ⟨ret_bool HE.out.symm, HB0.out⟩
    | true =>
    cases h4 : inB k.sb 0 100000 with
    | false =>
      clear hch
      go_wp2_with (first | (go_at_call 118; refine (in_spec _ _ _ _).mono ?_; rintro e w' ⟨rfl, rfl⟩) | (go_at_call 130; refine (l3_spec _ _).mono ?_; rintro e w' ⟨rfl, rfl⟩))
      go_ret
      exact ⟨ret_bool HE.out.symm, HB0.out⟩
    | true =>
    cases h5 : inB k.ba 0 100000 with
    | false =>
      clear hch
      go_wp2_with (first | (go_at_call 118; refine (in_spec _ _ _ _).mono ?_; rintro e w' ⟨rfl, rfl⟩) | (go_at_call 130; refine (l3_spec _ _).mono ?_; rintro e w' ⟨rfl, rfl⟩))
      go_ret
      exact ⟨ret_bool HE.out.symm, HB0.out⟩
    | true =>
    cases h6 : inB k.ar 1 10000 with
    | false =>
      clear hch
      go_wp2_with (first | (go_at_call 118; refine (in_spec _ _ _ _).mono ?_; rintro e w' ⟨rfl, rfl⟩) | (go_at_call 130; refine (l3_spec _ _).mono ?_; rintro e w' ⟨rfl, rfl⟩))
      go_ret
      exact ⟨ret_bool HE.out.symm, HB0.out⟩
    | true =>
    cases h7 : inB k.ra 1 100000 with
    | false =>
      clear hch
      go_wp2_with (first | (go_at_call 118; refine (in_spec _ _ _ _).mono ?_; rintro e w' ⟨rfl, rfl⟩) | (go_at_call 130; refine (l3_spec _ _).mono ?_; rintro e w' ⟨rfl, rfl⟩))
      go_ret
      exact ⟨ret_bool HE.out.symm, HB0.out⟩
    | true =>
    cases h8 : inB k.wa 0 1000000000 with
    | false =>
      clear hch
      go_wp2_with (first | (go_at_call 118; refine (in_spec _ _ _ _).mono ?_; rintro e w' ⟨rfl, rfl⟩) | (go_at_call 130; refine (l3_spec _ _).mono ?_; rintro e w' ⟨rfl, rfl⟩))
      go_ret
      exact ⟨ret_bool HE.out.symm, HB0.out⟩
    | true =>
      have h9 : inB k.ga 0 2 = false := by rw [h1, h2, h3, h4, h5, h6, h7, h8] at hch; simpa using hch
      clear hch
      go_wp2_with (first | (go_at_call 118; refine (in_spec _ _ _ _).mono ?_; rintro e w' ⟨rfl, rfl⟩) | (go_at_call 130; refine (l3_spec _ _).mono ?_; rintro e w' ⟨rfl, rfl⟩))
      go_ret
      exact ⟨ret_bool HE.out.symm, HB0.out⟩
  | true =>
    rw [hch, Bool.true_and] at HE
    unfold chB at hch
    simp only [Bool.and_eq_true] at hch
    obtain ⟨h1, h2, h3, h4, h5, h6, h7, h8, h9⟩ := hch
    go_enter Try.func70, Try.ntmps70
    go_wp2_with (first | (go_at_call 118; refine (in_spec _ _ _ _).mono ?_; rintro e w' ⟨rfl, rfl⟩) | (go_at_call 130; refine (l3_spec _ _).mono ?_; rintro e w' ⟨rfl, rfl⟩) | (go_at_call 131; refine (trains_spec _ _ S _ HM.out HP.out).mono ?_; rintro e w1 ⟨rfl, hb1⟩; have HB1 := vl (HB0.out.trans (hb1.mono HB0.out.size)); clear hb1))
    go_ret
    exact ⟨ret_bool HE.out.symm, HB1.out⟩
set_option maxRecDepth 100000 in
set_option maxHeartbeats 2000000 in
theorem lvk_spec (k : Lk) (A : Option Addr) (c : Nat) (S : List Tr) (w : World) (hm : ModS S) (hp : Trs w A S) :
    Calls Try.prog 74 #[.agg #[.int .i64 k.le, .int .i64 k.wi, .int .i64 k.sa, .int .i64 k.sb, .int .i64 k.ba, .int .i64 k.ar, .int .i64 k.ra, .int .i64 k.wa, .int .i64 k.ga, .slice A S.length c]] w fun e w' => e = .returned (.int .i64 (lvK k S)) ∧ Below w.heap.size w w' := by
  have HB0 := vl ((Below.refl w.heap.size w).alloc (Nat.le_refl _) (.cells #[.int .i64 k.le, .int .i64 k.wi, .int .i64 k.sa, .int .i64 k.sb, .int .i64 k.ba, .int .i64 k.ar, .int .i64 k.ra, .int .i64 k.wa, .int .i64 k.ga, .slice A S.length c] 73))
  have HP := vl (hp.below HB0.out)
  have HM := vl hm
  have HX0 := vl (KBox.new w k (.slice A S.length c) 73)
  clear hp hm
  go_enter Try.func74, Try.ntmps74
  go_wp2_with fail
  refine (lok_spec k A c S _ HM.out HP.out).mono ?_
  rintro e w1 ⟨rfl, hb1⟩
  have HB1 := vl (HB0.out.trans (hb1.mono HB0.out.size))
  have HX1 := vl (HX0.out.below hb1)
  clear hb1
  cases hok : lkB k S with
  | false =>
    have HE := vl (show lvK k S = 0 by unfold lvK; rw [hok]; rfl)
    clear hok
    go_wp2
    go_ret
    exact ⟨ret_int HE.out.symm, HB1.out⟩
  | true =>
    have HE := vl (show lvK k S = min (k.ba + k.wa / k.ar) 100000 by unfold lvK; rw [if_pos hok])
    have HI := lk_in hok
    have i1 := HI.ba0; have i2 := HI.ba1; have i3 := HI.ar0; have i4 := HI.ar1; have i5 := HI.wa0; have i6 := HI.wa1
    have i7 : 0 ≤ k.wa / k.ar := Int.ediv_nonneg i5 (by omega)
    have i8 : k.wa / k.ar ≤ 1000000000 := Int.le_trans (Int.ediv_le_self _ i5) i6
    obtain ⟨x0, x1, x2, x3, x4, x5, x6, x7, x8, x9⟩ := HX1.out
    clear hok HI x0 x1 x2 x3 x6 x8 x9
    have e1 : Int.tdiv k.wa k.ar = k.wa / k.ar := Int.tdiv_eq_ediv_of_nonneg i5
    obtain ⟨q, hq⟩ : ∃ q, k.wa / k.ar = q := ⟨_, rfl⟩
    rw [hq] at i7 i8 HE e1
    clear hq
    have e2 : IntKind.i64.wrap q = q := IntWalk.i64_in _ (by omega)
    have e3 : IntKind.i64.wrap (k.ba + q) = k.ba + q := IntWalk.i64_in _ (by omega)
    have e4 : (k.ar == 0) = false := beq_eq_false_iff_ne.2 (by omega)
    go_wp2
    go_quiet (fail)
    clear e2 e3 e4
    go_wp2
    all_goals
      go_ret
      exact ⟨ret_int (by rw [HE.out]; omega), HB1.out.drewN' _⟩
end Go.Proofs.Ytmfeleocjmdooaa.C1
