/- The Ids of a train: of the program and of its model. -/
import Derived.Test.YtngmpimoebggdaaTrI3
import Derived.Test.YtngmpimoebggdaaTrnU
namespace Go.Proofs.Ytngmpimoebggdaa.C1
open Go.ChangeShapes Go.WideShapes Go.ChangeAt Go.RowKit
set_option linter.unusedVariables false

/-- Two rows of one's own of different types lie in different blocks. -/
theorem own_ne {w : World} {B B' s s' n n' : Nat} {e e' : TypeId} {v v' : Value} {xs xs' : List Value} (h : w.ownsRow B e s v n xs) (h' : w.ownsRow B' e' s' v' n' xs') (hne : e ≠ e') : v.ownBlock = none ∨ v.ownBlock ≠ v'.ownBlock := by
  rcases h.2 with ⟨rfl, _⟩ | ⟨g, c, cur, rfl, _, hg, _⟩
  · exact Or.inl rfl
  · rcases h'.2 with ⟨rfl, _⟩ | ⟨g', c', cur', rfl, _, hg', _⟩
    · exact Or.inr (by simp [Value.ownBlock])
    · refine Or.inr fun h => ?_
      simp only [Value.ownBlock, Option.some.injEq] at h
      subst h
      rw [hg] at hg'
      injection hg' with hg'
      injection hg' with _ h2
      exact hne h2
def idN (T : List (List Bt)) : Nat := if tOk T = true then (bts T).length else 0
theorem idN_le (T : List (List Bt)) : idN T ≤ 6 := by
  unfold idN
  split
  · rename_i h; exact (in_tOk h).n1
  · omega
/-- What a function that gives the Ids leaves. -/
def GivesIds (w : World) (T : List (List Bt)) (e : Ending) (w' : World) : Prop :=
  (∃ A' c' g, e = .returned (.slice A' (idN T) c') ∧ RowI w' A' (idN T) g (idf (bts T)) ∧ Free w' (idN T) g ∧ w.heap.size ≤ g ∧ (0 < idN T → g < w'.heap.size)) ∧ Below w.heap.size w w'
theorem gives_of_own {w w' : World} {T : List (List Bt)} {v : Value} (h : w'.ownsRow w.heap.size 3 1 v (idN T) (itl (idN T) (idf (bts T)))) (hb : Below w.heap.size w w') : GivesIds w T (.returned v) w' := by
  obtain ⟨A, c, g, rfl, _, h1, h2, h3, h4⟩ := rowI_of_own h hb.size
  exact ⟨⟨A, c, g, rfl, h1, h2, h3, h4⟩, hb⟩
theorem gives_none {w w' : World} {T : List (List Bt)} {A : Option Addr} {c : Nat} (h : idN T = 0) (hb : Below w.heap.size w w') : GivesIds w T (.returned (.slice A 0 c)) w' :=
  ⟨⟨A, c, w.heap.size, by rw [h], by rw [h]; exact ⟨fun h => by omega, fun i hi => by omega⟩, by rw [h]; exact fun i hi => by omega, Nat.le_refl _, fun h' => by omega⟩, hb⟩
set_option maxHeartbeats 1000000 in
theorem idsof_impl (up : Bool) (A : Option Addr) (c : Nat) (T : List (List Bt)) (w : World) (hm : Mod T) (hp : Trn w A T) :
    Calls Try.prog 102 #[.agg #[.bool up, .slice A T.length c]] w (GivesIds w T) := by
  have HM := vl hm
  have ha := hm.all
  have HB0 := vl ((Below.refl w.heap.size w).alloc (Nat.le_refl _) (.cells #[.bool up, .slice A T.length c] 29))
  have HP := vl (hp.alloc (.cells #[.bool up, .slice A T.length c] 29))
  have HX0 := vl (TBox.new w up A T.length c 29)
  clear hp hm
  go_enter Try.func102, Try.ntmps102
  go_wp2_with fail
  refine (tok_impl up A c T _ HM.out HP.out).mono ?_
  rintro e w1 ⟨rfl, hb1⟩
  have HB1 := vl (HB0.out.trans (hb1.mono HB0.out.size))
  have HX1 := vl (HX0.out.below hb1)
  have HP1 := vl (HP.out.below hb1)
  clear hb1
  obtain ⟨x0, x1⟩ := HX1.out
  cases hok : tOk T with
  | false =>
    have HE := vl (show idN T = 0 by unfold idN; rw [hok]; rfl)
    clear hok
    go_wp2
    go_ret
    exact gives_none HE.out HB1.out
  | true =>
    have HE := vl (show idN T = (bts T).length by unfold idN; rw [hok, if_pos rfl])
    clear hok
    have HA := vl (HB1.out.alloc HB1.out.size (.cells #[.iface 29 (.agg #[.bool up, .slice A T.length c])] 215))
    go_wp2_with fail
    refine (boats_t up A c _ T _ HM.out (HP1.out.alloc _) (by simp)).mono ?_
    rintro e w2 ⟨⟨v, rfl, ho2⟩, hb2⟩
    have HB2 := vl (HA.out.trans (hb2.mono HA.out.size))
    obtain ⟨A2, c2, g2, rfl, hc2, hr2, _⟩ := rowB_of_own ho2 hb2.size
    have HR2 := vl hr2.bts
    clear ho2 hb2 hr2 hc2 x0 x1
    go_wp2_with fail
    refine (ids_impl A2 c2 (bts T) _ ha HR2.out).mono ?_
    rintro e w3 ⟨⟨v, rfl, ho3⟩, hb3⟩
    have HB3 := vl (HB2.out.trans (hb3.mono HB2.out.size))
    have HO3 := vl (own_base ho3 HB2.out.size)
    clear ho3 hb3
    go_wp2
    go_ret
    exact gives_of_own (by rw [HE.out]; exact HO3.out) HB3.out
set_option maxRecDepth 100000 in
set_option maxHeartbeats 2000000 in
theorem idsof_spec (up : Bool) (A : Option Addr) (c : Nat) (T : List (List Bt)) (w : World) (hm : Mod T) (hp : Trn w A T) :
    Calls Try.prog 99 #[.agg #[.bool up, .slice A T.length c]] w (GivesIds w T) := by
  obtain ⟨i0, hi, hz0, hz1, hz2⟩ := info_parts infoI
  have HM := vl hm
  have hn := hm.rows
  have ha := hm.all
  have HB0 := vl (((Below.refl w.heap.size w).alloc (Nat.le_refl _) (.cells #[.bool up, .slice A T.length c] 29)).alloc (by simp) (.cells #[] 3))
  have HP := vl ((hp.alloc (.cells #[.bool up, .slice A T.length c] 29)).alloc (.cells #[] 3))
  have HPw := vl hp
  have HX0 := vl ((TBox.new w up A T.length c 29).below ((Below.refl _ _).alloc (Nat.le_refl _) (.cells #[] 3)))
  obtain ⟨x0, x1⟩ := HX0.out
  have HO0 := vl (show ((w.alloc (.cells #[.bool up, .slice A T.length c] 29)).alloc (.cells #[] 3)).ownsRow (w.heap.size + 1) 3 1 (.slice (some ⟨w.heap.size + 1, 0, none⟩) 0 0) 0 [] from by
    have := World.ownsRow_lit (base := w.heap.size + 1) (e := 3) (size := 1) (w.alloc (.cells #[.bool up, .slice A T.length c] 29)) #[] 0 (by simp) (by decide) rfl
    simpa using this)
  clear hp hm
  go_enter Try.func99, Try.ntmps99
  go_wp2_with fail
  refine (boats_own up A c T _ HM.out HP.out).mono ?_
  rintro e w1 ⟨⟨v1, rfl, ho1⟩, hb1⟩
  obtain ⟨A1, c1, rfl, _⟩ := own_src ho1
  have HB1 := vl (HB0.out.trans (hb1.mono HB0.out.size))
  have HX1 := vl (HX0.out.below hb1)
  have HL1 := vl (own_base ho1 (B' := w.heap.size) (by simp; omega))
  have HO1 := vl (own_below HO0.out hb1)
  clear ho1 hb1 x0 x1
  go_wp2
  cases hok : tOk T with
  | false =>
    have HE := vl (show idN T = 0 by unfold idN; rw [hok]; rfl)
    have HO := vl hok
    clear hok
    go_loopw [3, 5] (fun s i wr => s = .slice (some ⟨w.heap.size + 1, 0, none⟩) 0 0 ∧ i = .int .i64 0 ∧ Veil (Below w.heap.size w wr) ∧ Veil (TBox wr w.heap.size up A T.length c)) (fun _ _ _ => 1)
    case atStart => exact ⟨rfl, rfl, HB1, HX1⟩
    case round =>
      obtain ⟨rfl, rfl, HB, HX⟩ := hrel
      have HP2 := vl (HPw.out.below HB.out)
      obtain ⟨x0, x1⟩ := HX.out
      by_cases h0 : 0 < (bts T).length
      · have h0' : (0 : Int) < ((bts T).length : Int) := by omega
        go_wp2_with fail
        refine (tok_spec up A c T _ HM.out HP2.out).mono ?_
        rintro e w2 ⟨rfl, hb2⟩
        rw [HO.out]
        have HB2 := vl (HB.out.trans (hb2.mono HB.out.size))
        clear hb2
        go_wp2
        go_ret
        exact gives_none HE.out HB2.out
      · have h0' : ((bts T).length : Int) ≤ 0 := by omega
        go_wp2
        go_ret
        exact gives_none HE.out HB.out
  | true =>
    have HE := vl (show idN T = (bts T).length by unfold idN; rw [hok, if_pos rfl])
    have HO := vl hok
    clear hok
    go_loopw [3, 5] (fun v i wr => ∃ k : Nat, k ≤ (bts T).length ∧ i = .int .i64 k ∧ Veil (Below w.heap.size w wr) ∧ Veil (TBox wr w.heap.size up A T.length c) ∧ Veil (wr.ownsRow w.heap.size 177 6 (.slice A1 (bts T).length c1) (bts T).length (btl (bts T))) ∧ Veil (wr.ownsRow (w.heap.size + 1) 3 1 v k (itl k (idf (bts T))))) (fun _ i _ => (bts T).length - (intOf i).toNat)
    case atStart => exact ⟨0, by omega, rfl, HB1, HX1, HL1, HO1⟩
    case round =>
      obtain ⟨k, hk, rfl, HB, HX, HL, HV⟩ := hrel
      have HP2 := vl (HPw.out.below HB.out)
      obtain ⟨x0, x1⟩ := HX.out
      by_cases hlt : k < (bts T).length
      · obtain ⟨b, hb⟩ := get_of hlt
        have HI := vl (idf_at hb)
        have HK := vl hb
        clear hb
        go_wp2_with fail
        refine (tok_spec up A c T _ HM.out HP2.out).mono ?_
        rintro e w2 ⟨rfl, hb2⟩
        rw [HO.out]
        have HB2 := vl (HB.out.trans (hb2.mono HB.out.size))
        have HX2 := vl (HX.out.below hb2)
        have HL2 := vl (own_below HL.out hb2)
        have HV2 := vl (own_below HV.out hb2)
        clear hb2 x0
        have hz : w.heap.size + 1 ≤ w2.heap.size := cell_lt' HX2.out.1
        have hbt : Bts w2 A1 (bts T) := by
          obtain ⟨A', c', g', e', _, h1, _⟩ := rowB_of_own HL2.out HB2.out.size
          injection e' with e'
          rw [e']; exact h1.bts
        obtain ⟨g, o, rfl, hc⟩ := hbt (by omega)
        obtain ⟨y0, y1, y2, y3, y4, y5⟩ := hc k b HK.out
        clear hc
        go_wp2_with (at_builtin; refine wpList_app rfl _ _ 47 rfl (w.heap.size + 1) 3 i0 _ 1 8 Try.underlying47 hi hz0 hz1 hz2 rfl (by decide) _ _ _ rfl (HV2.out.alloc _) (some ⟨w2.heap.size, 0, none⟩) 1 1 [.int .i64 b.i] rfl rfl ?c1 ?c2 ?c3 ?c4 ?c5 ?_)
        case c1 => exact fun _ => ⟨_, rfl, fun j u hu => World.news_of_block (heap_alloc_new _ _) j u (by simpa using hu)⟩
        case c2 => intro u hu; simp at hu; subst hu; rfl
        case c3 => unfold maxLen; omega
        case c4 => omega
        case c5 => simp; omega
        intro v' w3 hown hgr
        have hb3 := ((Below.refl (w.heap.size + 1) w2).alloc hz (.cells #[.int .i64 b.i] 3)).trans (below_app' (HV2.out.alloc (.cells #[.int .i64 b.i] 3)) hgr (by simp; omega))
        have HB3 := vl (HB2.out.trans (hb3.mono (Nat.le_succ _)))
        have HX3 := vl (show TBox w3 w.heap.size up A T.length c from ⟨(hb3.cell (p := ⟨w.heap.size, 0, none⟩) (Nat.lt_succ_self _)).trans HX2.out.1, (hb3.cell (p := ⟨w.heap.size, 1, none⟩) (Nat.lt_succ_self _)).trans HX2.out.2⟩)
        have HL3 := vl ((HL2.out.alloc (.cells #[.int .i64 b.i] 3)).kept hgr (own_ne (HL2.out.alloc (.cells #[.int .i64 b.i] 3)) (HV2.out.alloc (.cells #[.int .i64 b.i] 3)) (by decide)))
        rw [← HI.out, itl_snoc] at hown
        have HV3 := vl hown
        clear hown hgr hb3 x1 y0 y1 y2 y3 y4 y5
        go_wp2
        go_roundw
        case rel => exact ⟨k + 1, by omega, by go_num, HB3, HX3, HL3, HV3⟩
        case measure => simp [intOf]; omega
      · obtain rfl : k = (bts T).length := by omega
        go_wp2
        go_ret
        exact gives_of_own (by rw [HE.out]; exact own_base HV.out (Nat.le_succ _)) HB.out
end Go.Proofs.Ytngmpimoebggdaa.C1
