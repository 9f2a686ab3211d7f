/- Entries are posted to a book: by the program and by its model. -/
import Derived.Test.YtclofbknbfmmlaaDoorPosu
namespace Go.Proofs.YtclofbknbfmmlaaDoor.C1
open Go.ChangeShapes Go.WideShapes Go.ChangeAt Go.RowKit Go.Proofs.YtclofbknbfmmlaaDoor.Lift
set_option linter.unusedVariables false

set_option maxRecDepth 100000 in
set_option maxHeartbeats 4000000 in
theorem post_impl (A D : Option Addr) (c d : Nat) (L M : List En) (w : World) (hn : L.length ≤ 1048576) (hm : M.length ≤ 1048576) (hp : Ens w A L) (hq : Ens w D M) (hE : ErrR w) :
    Calls Tryd.prog 16 #[.slice A L.length c, .slice D M.length d] w (GivesP w (postL L M) (postB L M)) := by
  have HP := vl hp
  have HQ := vl hq
  obtain ⟨x, hx⟩ := hE
  have HX := vl hx
  have hxl := World.block_lt_of_cell? _ _ hx
  clear hp hq hx
  go_enter Tryd.func16, Tryd.ntmps16
  go_wp2_with fail
  refine (clone_e _ _ L _ hn HP.out).mono ?_
  rintro e w1 ⟨⟨v1, rfl, ho1⟩, hb1⟩
  have HB1 := vl hb1
  have HO1 := vl ho1
  have HP1 := vl (HP.out.below hb1)
  have hs1 := hb1.size
  clear hb1 ho1
  go_wp2_with fail
  refine (bkok_impl _ _ L _ hn HP1.out).mono ?_
  rintro e w2 ⟨rfl, hb2⟩
  have HB2 := vl (HB1.out.trans (hb2.mono HB1.out.size))
  have HO2 := vl (own_below HO1.out hb2)
  have hs2 := HB2.out.size
  clear hb2
  cases hv : bkOk L with
  | false =>
    have HN := vl (post_no1 (M := M) hv)
    clear hv
    go_wp2
    refine bodyPost_ret (v := .tuple #[v1, .bool false]) (by simp [results, Tryd.results16, go_sem]) rfl ?_
    rw [HN.out.1, HN.out.2]
    exact givesP_own HO2.out (Nat.le_refl _) hs2 HB2.out
  | true =>
    have HV := vl hv
    have hl2 := (bk_parts hv).1
    clear hv
    go_wp2
    go_loopw [6, 19] (fun v i wr => ∃ (k : Nat) (N : List En), k ≤ M.length ∧ i = .int .i64 k ∧ Veil (N = L ++ M.take k) ∧ Veil (enTo M k = true) ∧ Veil (L.length + k ≤ 2000) ∧ Veil (Below w.heap.size w wr) ∧ Veil (wr.ownsRow w.heap.size 36 5 v N.length (enl N))) (fun _ i _ => M.length - (intOf i).toNat)
    case atStart => exact ⟨0, L, by omega, rfl, vl (by rw [List.take_zero, List.append_nil]), vl rfl, vl (by omega), HB2, HO2⟩
    case round =>
      obtain ⟨k, N, hk, rfl, HNN, HT, HL, HB, HO⟩ := hrel
      have hlk := HL.out
      have hsr := HB.out.size
      have HLN := vl (show N.length = L.length + k by rw [HNN.out, List.length_append, List.length_take]; omega)
      by_cases hlt : k < M.length
      · obtain ⟨b, hb⟩ := get_of hlt
        obtain ⟨g, o, rfl, hc⟩ := HQ.out (by omega)
        obtain ⟨x0, x1, x2, x3, x4⟩ := (hc k b hb).below HB.out
        have hba := (Below.refl wr.heap.size wr).alloc (Nat.le_refl _) (.cells #[.int .i64 b.f, .int .i64 b.t, .int .i64 b.a, .int .i64 b.m, .int .i64 b.y] 36)
        have HBA := vl (HB.out.alloc hsr (.cells #[.int .i64 b.f, .int .i64 b.t, .int .i64 b.a, .int .i64 b.m, .int .i64 b.y] 36))
        have HOA := vl (HO.out.alloc (.cells #[.int .i64 b.f, .int .i64 b.t, .int .i64 b.a, .int .i64 b.m, .int .i64 b.y] 36))
        have HXA := vl ((HBA.out.cell hxl).trans HX.out)
        have HK := vl hb
        clear hc hb hba
        by_cases hok : enOk b = true ∧ L.length + k < 2000
        · have HN := vl (show enTo M (k + 1) = true by rw [enTo_succ HK.out, HT.out, hok.1]; rfl)
          have HTk := vl (show N ++ [b] = L ++ M.take (k + 1) by rw [HNN.out, List.take_add_one, HK.out, List.append_assoc]; rfl)
          have hl9 := hok.2
          have HOK := vl hok.1
          clear hok
          go_wp2_with fail
          refine (one_yes w.heap.size _ N b _ HOA.out HBA.out.size HOK.out (by rw [HLN.out]; omega)).mono ?_
          rintro e w3 ⟨⟨v3, rfl, ho3⟩, hb3⟩
          have HB3 := vl (HBA.out.trans hb3)
          have HO3 := vl ho3
          have h0 := (HB3.out.cell hxl).trans HX.out
          clear hb3 ho3 x0 x1 x2 x3 x4
          go_wp2_with fail
          refine (is_nil x _).mono ?_
          rintro e w' ⟨rfl, rfl⟩
          go_wp2
          go_roundw
          case rel => exact ⟨k + 1, N ++ [b], by omega, by go_num, HTk, HN, vl (by omega), HB3, HO3⟩
          case measure => simp [intOf]; omega
        · have HBad := vl (show enOk b = false ∨ 2000 ≤ N.length by
            cases hv : enOk b with
            | false => exact Or.inl rfl
            | true => exact Or.inr (by rw [HLN.out]; by_cases h : L.length + k < 2000; exact absurd ⟨hv, h⟩ hok; omega))
          have HN := vl (show postB L M = false ∧ postL L M = L from post_no2 (by
            rcases HBad.out with h | h
            · exact bk_out HK.out h
            · exact bk_full (by rw [HLN.out] at h; omega)))
          obtain ⟨A3, c3, g3, hv3, _⟩ := rowE_of_own HO.out hsr
          subst hv3
          clear hok
          go_wp2_with fail
          refine (one_no A3 c3 N b _ x HXA.out (by rw [HLN.out]; omega) HBad.out).mono ?_
          rintro e w3 ⟨rfl, hb3⟩
          have HB3 := vl (HBA.out.trans (hb3.mono HBA.out.size))
          have h0 := (HB3.out.cell hxl).trans HX.out
          have HP3 := vl (HP.out.below HB3.out)
          clear hb3 x0 x1 x2 x3 x4
          go_wp2_with fail
          refine (is_same x _).mono ?_
          rintro e w' ⟨rfl, rfl⟩
          go_wp2_with fail
          refine (clone_e _ _ L _ hn HP3.out).mono ?_
          rintro e w4 ⟨⟨v4, rfl, ho4⟩, hb4⟩
          have HB4 := vl (HB3.out.trans (hb4.mono HB3.out.size))
          have HO4 := vl ho4
          have hs3 := HB3.out.size
          have hs4 := hb4.size
          clear hb4 ho4
          go_wp2
          refine bodyPost_ret (v := .tuple #[v4, .bool false]) (by simp [results, Tryd.results16, go_sem]) rfl ?_
          rw [HN.out.1, HN.out.2]
          exact givesP_own HO4.out hs3 hs4 HB4.out
      · obtain rfl : k = M.length := by omega
        have HN := vl (post_yes HV.out (bk_app HV.out ((enTo_all M).symm.trans HT.out) hlk))
        have HNE := vl (show N = L ++ M by rw [HNN.out, List.take_length])
        go_wp2
        refine bodyPost_ret (v := .tuple #[u6, .bool true]) (by simp [results, Tryd.results16, go_sem]) rfl ?_
        rw [HN.out.1, HN.out.2, ← HNE.out]
        exact givesP_own HO.out (Nat.le_refl _) hsr HB.out
set_option maxRecDepth 100000 in
set_option maxHeartbeats 4000000 in
theorem post_spec (A D : Option Addr) (c d : Nat) (L M : List En) (w : World) (hn : L.length ≤ 1048576) (hm : M.length ≤ 1048576) (hp : Ens w A L) (hq : Ens w D M) :
    Calls Tryd.prog 27 #[.slice A L.length c, .slice D M.length d] w (GivesP w (postL L M) (postB L M)) := by
  obtain ⟨i0, hi, hz0, hz1, hz2⟩ := info_parts infoE
  have hB0 := (Below.refl w.heap.size w).alloc (Nat.le_refl _) (.cells #[] 36)
  have HP := vl hp
  have HS0 := vl (src_e (hp.below hB0))
  have HQ := vl hq
  have HO0 := vl (show (w.alloc (.cells #[] 36)).ownsRow w.heap.size 36 5 (.slice (some ⟨w.heap.size, 0, none⟩) 0 0) 0 [] from by
    have := World.ownsRow_lit (base := w.heap.size) (e := 36) (size := 5) w #[] 0 (by simp) (by decide) rfl
    simpa using this)
  have HB0 := vl hB0
  clear hp hq hB0
  go_enter Tryd.func27, Tryd.ntmps27
  go_wp2_with (at_builtin; refine wpList_app rfl _ _ 32 rfl w.heap.size 36 i0 _ 5 40 Tryd.underlying32 hi hz0 hz1 hz2 rfl (by decide) _ _ _ rfl HO0.out A L.length c (enl L) rfl (enl_len _) HS0.out enl_cell ?c3 ?c4 ?c5 ?_)
  case c3 => unfold maxLen; omega
  case c4 => omega
  case c5 => simp
  intro v1 w1 hown hgr
  have HO1 := vl (show w1.ownsRow w.heap.size 36 5 v1 L.length (enl L) from by simpa using hown)
  have HB1 := vl (HB0.out.grown hgr (by simp) (fun k hk => by have hk' : some w.heap.size = some k := hk; injection hk' with hk'; omega))
  have hs1 := HB1.out.size
  have HQ1 := vl (src_e (HQ.out.below HB1.out))
  clear hown hgr HS0 HO0 HB0
  go_wp2_with (at_builtin; refine wpList_app rfl _ _ 32 rfl w.heap.size 36 i0 _ 5 40 Tryd.underlying32 hi hz0 hz1 hz2 rfl (by decide) _ _ _ rfl HO1.out D M.length d (enl M) rfl (enl_len _) HQ1.out enl_cell ?c3 ?c4 ?c5 ?_)
  case c3 => unfold maxLen; omega
  case c4 => omega
  case c5 => exact hs1
  intro v2 w2 hown hgr
  obtain ⟨N, hN⟩ : ∃ N, N = L ++ M := ⟨_, rfl⟩
  have HNN := vl hN
  have HLN := vl (show N.length = L.length + M.length by rw [hN, List.length_append])
  have HO2 := vl (show w2.ownsRow w.heap.size 36 5 v2 N.length (enl N) from by rw [HLN.out, hN, enl_app]; exact hown)
  have HBX := vl (HB1.out.grown hgr hs1 (fun k hk => (HO1.out.lt k hk).1))
  have hs2 := HBX.out.size
  obtain ⟨A2, c2, g2, hv2, _, hr2, _⟩ := rowE_of_own HO2.out hs2
  subst hv2
  have HR2 := vl hr2
  clear hown hgr hN hr2 HQ1 HO1
  go_wp2_with fail
  refine (bkok_spec _ _ L _ (by omega) (HP.out.below HBX.out)).mono ?_
  rintro e w3 ⟨rfl, hb3⟩
  have HR3 := vl (HR2.out.below hb3)
  have HO3 := vl (own_below HO2.out hb3)
  have HB3 := vl (HBX.out.trans (hb3.mono HBX.out.size))
  clear hb3 HBX HR2 HO2 HB1
  cases hv : bkOk L with
  | false =>
    have HN := vl (post_no1 (M := M) hv)
    have HBX := HB3
    clear hv
    have HS0 := vl (src_e ((HP.out.below HBX.out).below ((Below.refl w3.heap.size w3).alloc (Nat.le_refl _) (.cells #[] 36))))
    have HO0 := vl (show (w3.alloc (.cells #[] 36)).ownsRow w3.heap.size 36 5 (.slice (some ⟨w3.heap.size, 0, none⟩) 0 0) 0 [] from by
      have := World.ownsRow_lit (base := w3.heap.size) (e := 36) (size := 5) w3 #[] 0 (by simp) (by decide) rfl
      simpa using this)
    go_wp2_with (at_builtin; refine wpList_app rfl _ _ 32 rfl w3.heap.size 36 i0 _ 5 40 Tryd.underlying32 hi hz0 hz1 hz2 rfl (by decide) _ _ _ rfl HO0.out A L.length c (enl L) rfl (enl_len _) HS0.out enl_cell ?c3 ?c4 ?c5 ?_)
    case c3 => unfold maxLen; omega
    case c4 => omega
    case c5 => simp
    intro v8 w8 hown hgr
    have HO8 := vl (show w8.ownsRow w3.heap.size 36 5 v8 L.length (enl L) from by simpa using hown)
    have hb8 : Below w3.heap.size w3 w8 := ((Below.refl w3.heap.size w3).alloc (Nat.le_refl _) (.cells #[] 36)).grown hgr (by simp) (fun k hk => by have hk' : some w3.heap.size = some k := hk; injection hk' with hk'; omega)
    have HB8 := vl (HBX.out.trans (hb8.mono HBX.out.size))
    have hs8 := hb8.size
    have hsx := HBX.out.size
    clear hown hgr hb8
    go_wp2
    refine bodyPost_ret (v := .tuple #[v8, .bool false]) (by simp [results, Tryd.results27, go_sem]) rfl ?_
    rw [HN.out.1, HN.out.2]
    exact givesP_own HO8.out hsx hs8 HB8.out
    
  | true =>
    have HV := vl hv
    clear hv
    go_wp2_with fail
    refine (bkok_spec _ _ N _ (by rw [HLN.out]; omega) HR3.out.ens).mono ?_
    rintro e w4 ⟨rfl, hb4⟩
    have HO4 := vl (own_below HO3.out hb4)
    have HBX := vl (HB3.out.trans (hb4.mono HB3.out.size))
    clear hb4
    cases hw : bkOk N with
    | false =>
      have HN := vl (post_no2 (L := L) (M := M) (by rw [← HNN.out]; exact hw))
      clear hw
      have HS0 := vl (src_e ((HP.out.below HBX.out).below ((Below.refl w4.heap.size w4).alloc (Nat.le_refl _) (.cells #[] 36))))
      have HO0 := vl (show (w4.alloc (.cells #[] 36)).ownsRow w4.heap.size 36 5 (.slice (some ⟨w4.heap.size, 0, none⟩) 0 0) 0 [] from by
        have := World.ownsRow_lit (base := w4.heap.size) (e := 36) (size := 5) w4 #[] 0 (by simp) (by decide) rfl
        simpa using this)
      go_wp2_with (at_builtin; refine wpList_app rfl _ _ 32 rfl w4.heap.size 36 i0 _ 5 40 Tryd.underlying32 hi hz0 hz1 hz2 rfl (by decide) _ _ _ rfl HO0.out A L.length c (enl L) rfl (enl_len _) HS0.out enl_cell ?c3 ?c4 ?c5 ?_)
      case c3 => unfold maxLen; omega
      case c4 => omega
      case c5 => simp
      intro v8 w8 hown hgr
      have HO8 := vl (show w8.ownsRow w4.heap.size 36 5 v8 L.length (enl L) from by simpa using hown)
      have hb8 : Below w4.heap.size w4 w8 := ((Below.refl w4.heap.size w4).alloc (Nat.le_refl _) (.cells #[] 36)).grown hgr (by simp) (fun k hk => by have hk' : some w4.heap.size = some k := hk; injection hk' with hk'; omega)
      have HB8 := vl (HBX.out.trans (hb8.mono HBX.out.size))
      have hs8 := hb8.size
      have hsx := HBX.out.size
      clear hown hgr hb8
      go_wp2
      refine bodyPost_ret (v := .tuple #[v8, .bool false]) (by simp [results, Tryd.results27, go_sem]) rfl ?_
      rw [HN.out.1, HN.out.2]
      exact givesP_own HO8.out hsx hs8 HB8.out
      
    | true =>
      have HN := vl (post_yes (L := L) (M := M) HV.out (by rw [← HNN.out]; exact hw))
      have hs4 := HBX.out.size
      clear hw
      go_wp2
      refine bodyPost_ret (v := .tuple #[.slice A2 N.length c2, .bool true]) (by simp [results, Tryd.results27, go_sem]) rfl ?_
      rw [HN.out.1, HN.out.2, ← HNN.out]
      exact givesP_own HO4.out (Nat.le_refl _) hs4 HBX.out
end Go.Proofs.YtclofbknbfmmlaaDoor.C1
