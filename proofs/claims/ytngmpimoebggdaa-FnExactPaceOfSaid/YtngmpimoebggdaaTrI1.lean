/- Boats and trains of the program: rows counted, rows joined. -/
import Derived.Test.YtngmpimoebggdaaTrnT
import Derived.Lib.AppendZeros
namespace Go.Proofs.Ytngmpimoebggdaa.C1
open Go.ChangeShapes Go.WideShapes Go.ChangeAt Go.RowKit
set_option linter.unusedVariables false

theorem rowsZ_no {T : List (List Bt)} {k : Nat} {r : List Bt} (hr : T[k]? = some r) (h : r.length = 0 ∨ 6 < (bts (T.take k)).length + r.length) : (full T && inB ((bts T).length : Int) 1 6) = false := by
  rcases h with h | h
  · obtain rfl := List.eq_nil_of_length_eq_zero h
    rw [full_no hr]; rfl
  · have h1 := take_le T (k + 1)
    rw [take_flat hr, List.length_append] at h1
    rw [inB_no (Or.inr (by omega)), Bool.and_false]
set_option maxHeartbeats 1000000 in
theorem rows_impl (A : Option Addr) (c : Nat) (T : List (List Bt)) (w : World) (hm : Mod T) (hp : Trn w A T) :
    Calls Try.prog 141 #[.slice A T.length c] w fun e w' => e = .returned (.bool (full T && inB ((bts T).length : Int) 1 6)) ∧ w = w' := by
  have HM := vl hm
  have HP := vl hp
  have hn := hm.rows
  clear hm hp
  go_enter Try.func141, Try.ntmps141
  go_wp2
  go_loop [3, 8] (fun f i => ∃ k : Nat, k ≤ T.length ∧ i = .int .i64 k ∧ f = .int .i64 (6 - ((bts (T.take k)).length : Int)) ∧ Veil ((bts (T.take k)).length ≤ 6) ∧ Veil (∀ (i : Nat) (r : List Bt), i < k → T[i]? = some r → r ≠ [])) (fun _ i => T.length - (intOf i).toNat)
  case atStart => exact ⟨0, by omega, rfl, by simp [bts], vl (by simp [bts]), vl fun i r hi => by omega⟩
  case round =>
    obtain ⟨k, hk, rfl, rfl, HZ, HF⟩ := hrel
    by_cases hlt : k < T.length
    · obtain ⟨r, hr⟩ := get_of hlt
      obtain ⟨g, o, rfl, hc⟩ := HP.out (by omega)
      obtain ⟨Ai, ci, c0, _⟩ := hc k r hr
      have hrn := HM.out.row (mem_of hr)
      have HK := vl hr
      have HE := vl (show (bts (T.take (k + 1))).length = (bts (T.take k)).length + r.length by rw [take_flat hr, List.length_append])
      have hz0 := HZ.out
      have HN := vl (rowsZ_no hr)
      clear hc hr
      generalize (bts (T.take k)).length = q at hz0 HE HN ⊢
      by_cases hr0 : r.length = 0
      · have HX := vl (HN.out (Or.inl hr0))
        rw [hr0] at c0
        clear hr0
        go_wp2
        go_ret
        exact ⟨ret_bool HX.out.symm, rfl⟩
      · have hr1 : ((r.length : Int) == 0) = false := beq_eq_false_iff_ne.2 (by omega)
        have HNE := vl (show r ≠ [] from fun e => hr0 (by rw [e]; rfl))
        clear hr0
        by_cases hbig : 6 < q + r.length
        · have HX := vl (HN.out (Or.inr hbig))
          have hb' : (6 : Int) - (q : Int) < (r.length : Int) := by omega
          clear hbig
          go_wp2
          go_ret
          exact ⟨ret_bool HX.out.symm, rfl⟩
        · have hb' : (r.length : Int) ≤ 6 - (q : Int) := by omega
          have hb2 : q + r.length ≤ 6 := by omega
          clear hbig
          go_wp2
          go_round
          case rel =>
            refine ⟨k + 1, by omega, by go_num, congrArg (Value.int .i64) (by rw [HE.out]; omega), vl (by rw [HE.out]; exact hb2), vl fun i s hi hs => ?_⟩
            by_cases e : i = k
            · subst e
              rw [HK.out] at hs
              injection hs with hs
              rw [← hs]; exact HNE.out
            · exact HF.out i s (by omega) hs
          case measure => simp [intOf]; omega
    · obtain rfl : k = T.length := by omega
      have hF : full T = true := full_of fun i r hi => HF.out i r (len_of hi) hi
      have h6 := HZ.out
      rw [List.take_length] at h6
      have HX := vl (show (full T && inB ((bts T).length : Int) 1 6) = decide (0 < T.length) by
        rw [hF, Bool.true_and]
        unfold inB
        have h1 := rows_le (T := T) fun r hr => by
          obtain ⟨i, hi⟩ := List.getElem?_of_mem hr
          exact full_at hF hi
        have h0 : T.length = 0 → (bts T).length = 0 := fun h => by
          obtain rfl := List.eq_nil_of_length_eq_zero h
          rfl
        congr 1
        exact propext (by omega))
      clear h6 hF
      go_wp2
      go_ret
      exact ⟨ret_bool HX.out.symm, rfl⟩
theorem infoB2 : (Try.prog.info? 177).map (fun i => (i.zero, i.size, i.bytes)) = some (some (.agg #[.int .i64 0, .int .i64 0, .int .i64 0, .int .i64 0, .int .i64 0, .int .i64 0]), 6, 48) := by kernel_rfl
set_option maxRecDepth 100000 in
theorem grow_b (n : Nat) (w : World) (hn : n ≤ 1048576) :
    Calls Try.prog 213 #[.slice none 0 0, .int .i64 (n : Int)] w fun e w' => ∃ v, e = .returned v ∧ w'.ownsRow w.heap.size 177 6 v 0 [] ∧ Below w.heap.size w w' := by
  obtain ⟨i0, hi, hz0, hz1, hz2⟩ := info_parts infoB2
  go_enter Try.func213, Try.ntmps213
  rcases Nat.eq_zero_or_pos n with h0 | h0
  · subst h0
    go_wp2
    go_ret
    exact ⟨_, rfl, own_nil _ _ _ _, Below.refl _ _⟩
  · go_wp2_with (at_builtin; refine Lib.wpList_append_run _ rfl _ _ 173 3 rfl _ _ rfl rfl _ _ (Lib.run_append_nil_zeros _ 173 3 _ 177 i0 _ .i64 .i64 Try.underlying173 Try.underlying3 hi hz0 n h0 (by rw [hz1]; decide) (by omega) (by rw [hz2]; omega)) ?_)
    have hg0 := grownCap_ge w n 0 177
    have hg1 := grownCap_le_maxLen w n 0 177 (by unfold maxLen; omega)
    generalize grownCap w n 0 177 = cap at hg0 hg1 ⊢
    go_wp2
    go_ret
    exact ⟨_, rfl, World.ownsRow_made (base := w.heap.size) (size := 6) w.drew _ cap (Nat.le_refl _) hg1 (by rw [Array.size_append, size_zeroCells, size_zeroCells]; show n * 6 + (cap - n) * 6 = cap * 6; omega), ((Below.refl w.heap.size w).drew).alloc (Nat.le_refl _) _⟩
set_option maxRecDepth 100000 in
set_option maxHeartbeats 2000000 in
theorem concat_b (A : Option Addr) (c : Nat) (T : List (List Bt)) (w : World) (hm : Mod T) (hp : Trn w A T) :
    Calls Try.prog 188 #[.slice A T.length c] w fun e w' => (∃ v, e = .returned v ∧ w'.ownsRow w.heap.size 177 6 v (bts T).length (btl (bts T))) ∧ Below w.heap.size w w' := by
  obtain ⟨i0, hi, hz0, hz1, hz2⟩ := info_parts infoB2
  have HM := vl hm
  have HP := vl hp
  have hn := hm.rows
  have ha := hm.all
  clear hm hp
  go_enter Try.func188, Try.ntmps188
  go_wp2
  go_loop [3, 11] (fun z i => ∃ k : Nat, k ≤ T.length ∧ i = .int .i64 k ∧ z = .int .i64 ((bts (T.take k)).length : Int)) (fun _ i => T.length - (intOf i).toNat)
  case atStart => exact ⟨0, by omega, rfl, by simp [bts]⟩
  case round =>
    obtain ⟨k, hk, rfl, rfl⟩ := hrel
    by_cases hlt : k < T.length
    · obtain ⟨r, hr⟩ := get_of hlt
      obtain ⟨g, o, rfl, hc⟩ := HP.out (by omega)
      obtain ⟨Ai, ci, c0, _⟩ := hc k r hr
      have HE := vl (show (bts (T.take (k + 1))).length = (bts (T.take k)).length + r.length by rw [take_flat hr, List.length_append])
      have h1 := take_le T (k + 1)
      rw [HE.out] at h1
      clear hc hr
      generalize (bts (T.take k)).length = q at h1 HE ⊢
      go_wp2
      go_round
      case rel => exact ⟨k + 1, by omega, by go_num, congrArg (Value.int .i64) (by rw [HE.out]; omega)⟩
      case measure => simp [intOf]; omega
    · obtain rfl : k = T.length := by omega
      rw [List.take_length]
      go_wp2_with fail
      refine (grow_b (bts T).length _ ha).mono ?_
      rintro e w1 ⟨v, rfl, ho1, hb1⟩
      have HB1 := vl hb1
      have HO1 := vl ho1
      have HP1 := vl (HP.out.below hb1)
      clear hb1 ho1
      go_wp2
      go_loopw [6, 27] (fun v i wr => ∃ k : Nat, k ≤ T.length ∧ i = .int .i64 k ∧ Veil (Below w.heap.size w wr) ∧ Veil (wr.ownsRow w.heap.size 177 6 v (bts (T.take k)).length (btl (bts (T.take k))))) (fun _ i _ => T.length - (intOf i).toNat)
      case atStart => exact ⟨0, by omega, rfl, HB1, HO1⟩
      case round =>
        obtain ⟨k, hk, rfl, HB, HO⟩ := hrel
        by_cases hlt : k < T.length
        · obtain ⟨r, hr⟩ := get_of hlt
          obtain ⟨g, o, rfl, hc⟩ := (HP.out.below HB.out) (by omega)
          obtain ⟨Ai, ci, c0, HS⟩ := hc k r hr
          have hrn := HM.out.row (mem_of hr)
          have hq := take_le T (k + 1)
          have he := take_flat hr
          have hel : (bts (T.take (k + 1))).length = (bts (T.take k)).length + r.length := by rw [he, List.length_append]
          have HE := vl (And.intro he hel)
          have HC := vl (src_b HS.out)
          clear hc hr he
          go_wp2_with (at_builtin; refine wpList_app rfl _ _ 173 rfl w.heap.size 177 i0 _ 6 48 Try.underlying173 hi hz0 hz1 hz2 rfl (by decide) _ _ _ rfl HO.out Ai r.length ci (btl r) rfl (btl_len _) HC.out btl_cell ?c3 ?c4 ?c5 ?_)
          case c3 => unfold maxLen; omega
          case c4 => omega
          case c5 => exact HB.out.size
          intro v' w2 hown hgr
          have HB2 := vl (HB.out.trans (below_app' HO.out hgr HB.out.size))
          have HO2 := vl hown
          clear hown hgr
          go_wp2
          go_roundw
          case rel => exact ⟨k + 1, by omega, by go_num, HB2, vl (by rw [HE.out.2, HE.out.1, btl_app]; exact HO2.out)⟩
          case measure => simp [intOf]; omega
        · obtain rfl : k = T.length := by omega
          have HO2 := HO
          rw [List.take_length] at HO2
          go_wp2
          go_ret
          exact ⟨⟨_, rfl, HO2.out⟩, HB.out⟩
end Go.Proofs.Ytngmpimoebggdaa.C1
