/- Trains coupled: of the program. -/
import Derived.Test.YtmfeleocjmdooaaTrD
import Derived.Lib.AppendZeros
import Derived.Deep.RegionHeld3
namespace Go.Proofs.Ytmfeleocjmdooaa.C1
open Go.ChangeShapes Go.WideShapes Go.ChangeAt Go.RowKit
set_option linter.unusedVariables false

theorem addr_add (g o j : Nat) : (⟨g, o, none⟩ : Addr).add j = ⟨g, o + j, none⟩ := by unfold Addr.add; split <;> simp_all
/-- The values of a train's rows. -/
structure RowVals (w : World) (A : Option Addr) (T : List (List Bt)) (rv : List Value) : Prop where
  len : rv.length = T.length
  src : 0 < T.length → ∃ ad, A = some ad ∧ ∀ j u, rv[j]? = some u → w.cell? (ad.add j) = some u
  one : ∀ u ∈ rv, u.oneCell' = true
  row : ∀ (i : Nat) (r : List Bt), T[i]? = some r → ∃ Ai ci, rv[i]? = some (.slice Ai r.length ci) ∧ Bts w Ai r
theorem trn_vals {w : World} {A : Option Addr} {T : List (List Bt)} (h : Trn w A T) : ∃ rv, RowVals w A T rv := by
  rcases Nat.eq_zero_or_pos T.length with h0 | h0
  · exact ⟨[], by simp [h0], fun h => by omega, fun u hu => by simp at hu, fun i r hi => by have := len_of hi; omega⟩
  · obtain ⟨g, o, e, hc⟩ := h h0
    have hv : ∀ i : Nat, ∃ u : Value, ∀ r, T[i]? = some r → ∃ Ai ci, u = .slice Ai r.length ci ∧ w.cell? ⟨g, o + i, none⟩ = some u ∧ Bts w Ai r := fun i => by
      rcases Nat.lt_or_ge i T.length with hi | hi
      · obtain ⟨r, hr⟩ := get_of hi
        obtain ⟨Ai, ci, h1, h2⟩ := hc i r hr
        refine ⟨.slice Ai r.length ci, fun s hs => ?_⟩
        rw [hr] at hs
        injection hs with hs
        subst hs
        exact ⟨Ai, ci, rfl, h1, h2.out⟩
      · exact ⟨.slice none 0 0, fun r hr => by have := len_of hr; omega⟩
    refine ⟨(List.range T.length).map fun i => Classical.choose (hv i), by simp, fun _ => ⟨_, e, fun j u hu => ?_⟩, fun u hu => ?_, fun i r hr => ?_⟩
    · obtain ⟨h1, rfl⟩ := map_range hu
      obtain ⟨r, hr⟩ := get_of h1
      obtain ⟨_, _, _, h2, _⟩ := Classical.choose_spec (hv j) r hr
      rw [addr_add]; exact h2
    · obtain ⟨i, hi⟩ := List.getElem?_of_mem hu
      obtain ⟨h1, rfl⟩ := map_range hi
      obtain ⟨r, hr⟩ := get_of h1
      obtain ⟨_, _, h2, _⟩ := Classical.choose_spec (hv i) r hr
      rw [h2]; rfl
    · obtain ⟨Ai, ci, h1, _, h2⟩ := Classical.choose_spec (hv i) r hr
      have hi := len_of hr
      exact ⟨Ai, ci, by rw [List.getElem?_map, List.getElem?_range hi]; exact congrArg some h1, h2⟩
theorem RowVals.below {w w' : World} {A : Option Addr} {T : List (List Bt)} {rv : List Value} (h : RowVals w A T rv) (hb : Below w.heap.size w w') : RowVals w' A T rv :=
  ⟨h.len, fun hn => by
    obtain ⟨ad, e, hc⟩ := h.src hn
    exact ⟨ad, e, fun j u hu => (hb.cell (cell_lt' (hc j u hu))).trans (hc j u hu)⟩, h.one, fun i r hi => by
    obtain ⟨Ai, ci, h1, h2⟩ := h.row i r hi
    exact ⟨Ai, ci, h1, h2.below hb⟩⟩
theorem trn_of_vals {w : World} {B n : Nat} {V A1 A2 : Option Addr} {d : Nat} {T1 T2 : List (List Bt)} {r1 r2 : List Value} (ho : w.ownsRow B 30 1 (.slice V n d) n (r1 ++ r2)) (h1 : RowVals w A1 T1 r1) (h2 : RowVals w A2 T2 r2) : Trn w V (T1 ++ T2) := fun hn => by
  have hl := ho.1
  rw [List.length_append, h1.len, h2.len] at hl
  rw [List.length_append] at hn
  rcases ho.2 with ⟨_, h0⟩ | ⟨g, c, cur, e, _⟩
  · omega
  · injection e with e1 e2 e3
    refine ⟨g, 0, e1, fun i r hi => ?_⟩
    have hi' := len_of hi
    rw [List.length_append] at hi'
    have hx : ∃ Ai ci, (r1 ++ r2)[i]? = some (.slice Ai r.length ci) ∧ Bts w Ai r := by
      rcases Nat.lt_or_ge i T1.length with hlt | hge
      · rw [List.getElem?_append_left hlt] at hi
        obtain ⟨Ai, ci, h3, h4⟩ := h1.row i r hi
        exact ⟨Ai, ci, by rw [List.getElem?_append_left (by have := h1.len; omega)]; exact h3, h4⟩
      · rw [List.getElem?_append_right hge] at hi
        obtain ⟨Ai, ci, h3, h4⟩ := h2.row _ r hi
        exact ⟨Ai, ci, by rw [List.getElem?_append_right (by have := h1.len; omega), h1.len]; exact h3, h4⟩
    obtain ⟨Ai, ci, h3, h4⟩ := hx
    subst e1; subst e3
    refine ⟨Ai, ci, ?_, vl h4⟩
    rw [Nat.zero_add, ho.cellAt i (by omega), h3]
set_option maxRecDepth 100000 in
theorem grow_r (n : Nat) (w : World) (hn : n ≤ 1048576) :
    Calls Try.prog 153 #[.slice none 0 0, .int .i64 (n : Int)] w fun e w' => ∃ v, e = .returned v ∧ w'.ownsRow w.heap.size 30 1 v 0 [] ∧ Below w.heap.size w w' := by
  obtain ⟨i0, hi, hz0, hz1, hz2⟩ := info_parts infoR
  go_enter Try.func153, Try.ntmps153
  rcases Nat.eq_zero_or_pos n with h0 | h0
  · subst h0
    go_wp2
    go_ret
    exact ⟨_, rfl, own_nil _ _ _ _, Below.refl _ _⟩
  · go_wp2_with (at_builtin; refine Lib.wpList_append_run _ rfl _ _ 24 3 rfl _ _ rfl rfl _ _ (Lib.run_append_nil_zeros _ 24 3 _ 30 i0 _ .i64 .i64 Try.underlying24 Try.underlying3 hi hz0 n h0 (by rw [hz1]; decide) (by omega) (by rw [hz2]; omega)) ?_)
    have hg0 := grownCap_ge w n 0 30
    have hg1 := grownCap_le_maxLen w n 0 30 (by unfold maxLen; omega)
    generalize grownCap w n 0 30 = cap at hg0 hg1 ⊢
    go_wp2
    go_ret
    exact ⟨_, rfl, World.ownsRow_made (base := w.heap.size) (size := 1) w.drew _ cap (Nat.le_refl _) hg1 (by rw [Array.size_append, size_zeroCells, size_zeroCells]; show n * 1 + (cap - n) * 1 = cap * 1; omega), ((Below.refl w.heap.size w).drew).alloc (Nat.le_refl _) _⟩
set_option maxRecDepth 100000 in
set_option maxHeartbeats 4000000 in
theorem concat_r (A1 A2 : Option Addr) (c1 c2 : Nat) (T1 T2 : List (List Bt)) (w : World) (hm1 : T1.length ≤ 6) (hm2 : T2.length ≤ 6) (hp1 : Trn w A1 T1) (hp2 : Trn w A2 T2) {g : Nat} (hc0 : w.cell? ⟨g, 0, none⟩ = some (.slice A1 T1.length c1)) (hc1 : w.cell? ⟨g, 1, none⟩ = some (.slice A2 T2.length c2)) :
    Calls Try.prog 99 #[.slice (some ⟨g, 0, none⟩) 2 2] w fun e w' => (∃ A' c', e = .returned (.slice A' (T1.length + T2.length) c') ∧ Trn w' A' (T1 ++ T2)) ∧ Below w.heap.size w w' := by
  obtain ⟨j0, hj, hy0, hy1, hy2⟩ := info_parts infoR
  obtain ⟨r1, hr1⟩ := trn_vals hp1
  obtain ⟨r2, hr2⟩ := trn_vals hp2
  have H1 := vl hr1
  have H2 := vl hr2
  have HC := vl (And.intro hc0 hc1)
  clear hp1 hp2 hr1 hr2
  go_enter Try.func99, Try.ntmps99
  go_wp2
  go_loop [3, 11] (fun z i => (i = .int .i64 0 ∧ z = .int .i64 0) ∨ (i = .int .i64 1 ∧ z = .int .i64 (T1.length : Int)) ∨ (i = .int .i64 2 ∧ z = .int .i64 ((T1.length + T2.length : Nat) : Int))) (fun _ i => 3 - (intOf i).toNat)
  case atStart => exact Or.inl ⟨rfl, rfl⟩
  case round =>
    rcases hrel with ⟨rfl, rfl⟩ | ⟨rfl, rfl⟩ | ⟨rfl, rfl⟩
    · go_wp2
      go_round
      case rel => exact Or.inr (Or.inl ⟨by go_num, congrArg (Value.int .i64) (by omega)⟩)
      case measure => simp [intOf]
    · go_wp2
      go_round
      case rel => exact Or.inr (Or.inr ⟨by go_num, congrArg (Value.int .i64) (by omega)⟩)
      case measure => simp [intOf]
    · clear hc0 hc1
      go_wp2_with fail
      refine (grow_r (T1.length + T2.length) _ (by omega)).mono ?_
      rintro e w1 ⟨v, rfl, ho1, hb1⟩
      have HB1 := vl hb1
      have HO1 := vl ho1
      clear hb1 ho1
      go_wp2
      go_loopw [6, 27] (fun v i wr => Veil (Below w.heap.size w wr) ∧ ((i = .int .i64 0 ∧ Veil (wr.ownsRow w.heap.size 30 1 v 0 [])) ∨ (i = .int .i64 1 ∧ Veil (wr.ownsRow w.heap.size 30 1 v T1.length r1)) ∨ (i = .int .i64 2 ∧ Veil (wr.ownsRow w.heap.size 30 1 v (T1.length + T2.length) (r1 ++ r2))))) (fun _ i _ => 3 - (intOf i).toNat)
      case atStart => exact ⟨HB1, Or.inl ⟨rfl, HO1⟩⟩
      case round =>
        obtain ⟨HB, hrel⟩ := hrel
        have HC2 := vl (And.intro ((HB.out.cell (cell_lt' HC.out.1)).trans HC.out.1) ((HB.out.cell (cell_lt' HC.out.2)).trans HC.out.2))
        rcases hrel with ⟨rfl, HO⟩ | ⟨rfl, HO⟩ | ⟨rfl, HO⟩
        · have x0 := HC2.out.1
          go_wp2_with (at_builtin; refine wpList_app rfl _ _ 24 rfl w.heap.size 30 j0 _ 1 24 Try.underlying24 hj hy0 hy1 hy2 rfl (by decide) _ _ _ rfl HO.out A1 T1.length c1 r1 rfl (by rw [H1.out.len]; omega) (H1.out.below HB.out).src H1.out.one ?c3 ?c4 ?c5 ?_)
          case c3 => unfold maxLen; omega
          case c4 => omega
          case c5 => exact HB.out.size
          intro v' w2 hown hgr
          have HB2 := vl (HB.out.trans (below_app' HO.out hgr HB.out.size))
          try rw [Nat.zero_add] at hown
          try rw [List.nil_append] at hown
          have HO2 := vl hown
          clear hown hgr
          go_wp2
          go_roundw
          case rel => exact ⟨HB2, Or.inr (Or.inl ⟨by go_num, HO2⟩)⟩
          case measure => simp [intOf]
        · have x0 := HC2.out.2
          go_wp2_with (at_builtin; refine wpList_app rfl _ _ 24 rfl w.heap.size 30 j0 _ 1 24 Try.underlying24 hj hy0 hy1 hy2 rfl (by decide) _ _ _ rfl HO.out A2 T2.length c2 r2 rfl (by rw [H2.out.len]; omega) (H2.out.below HB.out).src H2.out.one ?c3 ?c4 ?c5 ?_)
          case c3 => unfold maxLen; omega
          case c4 => omega
          case c5 => exact HB.out.size
          intro v' w2 hown hgr
          have HB2 := vl (HB.out.trans (below_app' HO.out hgr HB.out.size))
          have HO2 := vl hown
          clear hown hgr
          go_wp2
          go_roundw
          case rel => exact ⟨HB2, Or.inr (Or.inr ⟨by go_num, HO2⟩)⟩
          case measure => simp [intOf]
        · obtain ⟨V, d, rfl, _⟩ := own_src HO.out
          go_wp2
          go_ret
          exact ⟨⟨V, d, rfl, trn_of_vals HO.out (H1.out.below HB.out) (H2.out.below HB.out)⟩, HB.out⟩
theorem tok_joini (up : Bool) (A : Option Addr) (c : Nat) (T1 T2 : List (List Bt)) (w : World) (hm : Mod (T1 ++ T2)) (hp : Trn w A (T1 ++ T2)) :
    Calls Try.prog 37 #[.agg #[.bool up, .slice A (T1.length + T2.length) c]] w fun e w' => e = .returned (.bool (tOk (T1 ++ T2))) ∧ Below w.heap.size w w' := by
  have h := tok_impl up A c (T1 ++ T2) w hm hp
  rwa [List.length_append] at h
theorem TBoxF.fill {w : World} {q : Nat} {b : Bool} {v : Value} (h : TBoxF w q b v) (u : Bool) (A : Option Addr) (n c : Nat) : TBox ((w.setCell ⟨q, 0, none⟩ (.bool u)).setCell ⟨q, 1, none⟩ (.slice A n c)) q u A n c :=
  ⟨(World.cell?_setCell_other _ _ _ _ (by intro e; injection e with _ e; omega)).trans (World.cell?_setCell_same _ _ _ h.c0), World.cell?_setCell_same _ _ _ ((World.cell?_setCell_other _ _ _ _ (by intro e; injection e with _ e; omega)).trans h.c1)⟩
theorem touch2 (w : World) (q : Nat) (u v : Value) : Touch w ((w.setCell ⟨q, 0, none⟩ u).setCell ⟨q, 1, none⟩ v) q (q + 1) := ((Touch.refl w q (q + 1)).set q 0 u (Nat.le_refl _) (Nat.lt_succ_self _)).set q 1 v (Nat.le_refl _) (Nat.lt_succ_self _)
/-- What is known once the two trains lie joined in box p. -/
structure Joined (w w6 W : World) (p : Nat) (u : Bool) (A : Option Addr) (n c : Nat) (T : List (List Bt)) (g : Nat) (G : Nat → Nat) : Prop where
  b : Below w.heap.size w W
  z : TBox W p u A n c
  r : TBoxF W (w.heap.size + 2) false (.slice none 0 0)
  o : ∃ B L, w.heap.size + 3 ≤ B ∧ L ≤ W.heap.size ∧ OwnT W B L A T g G
theorem joined_a {w w6 w7 w8 : World} {u : Bool} {A : Option Addr} {n c g : Nat} {T : List (List Bt)} {G : Nat → Nat} (h6 : Below w.heap.size w w6) (h67 : Below w6.heap.size w6 w7) (h78 : Below w7.heap.size w7 w8) (q : w.heap.size + 2 < w6.heap.size) (hr : TBoxF w6 (w.heap.size + 2) false (.slice none 0 0))
    {B : Nat} (hB : w7.heap.size ≤ B) (ho : OwnT w8 B w8.heap.size A T g G) : Joined w w6 (w8.alloc (.cells #[.bool u, .slice A n c] 26)) w8.heap.size u A n c T g G := by
  have s6 := h6.size; have s7 := h67.size; have s8 := h78.size
  have hb := (Below.refl w8.heap.size w8).alloc (Nat.le_refl _) (.cells #[.bool u, .slice A n c] 26)
  have h68 := h67.trans (h78.mono s7)
  exact ⟨(h6.trans (h68.mono s6)).trans (hb.mono (by omega)), TBox.new w8 u A n c 26, (hr.below h68 q).below hb (by omega), ⟨B, w8.heap.size, by omega, hb.size, ho.below hb⟩⟩
theorem joined_b {w w6 w7 w8 : World} {u b : Bool} {v : Value} {A : Option Addr} {n c g p : Nat} {T : List (List Bt)} {G : Nat → Nat} (h6 : Below w.heap.size w w6) (h67 : Below w6.heap.size w6 w7) (h78 : Below w7.heap.size w7 w8) (q : w.heap.size + 2 < w6.heap.size) (hr : TBoxF w6 (w.heap.size + 2) false (.slice none 0 0))
    {B : Nat} (hB : w7.heap.size ≤ B) (hp : w6.heap.size ≤ p) (hpB : p + 1 ≤ B) (hz : TBoxF w8 p b v) (ho : OwnT w8 B w8.heap.size A T g G) : Joined w w6 ((w8.setCell ⟨p, 0, none⟩ (.bool u)).setCell ⟨p, 1, none⟩ (.slice A n c)) p u A n c T g G := by
  have s6 := h6.size; have s7 := h67.size; have s8 := h78.size
  have t := touch2 w8 p (.bool u) (.slice A n c)
  have h68 := h67.trans (h78.mono s7)
  exact ⟨t.below (h6.trans (h68.mono s6)) (by omega), hz.fill u A n c, ((hr.below h68 q).far _ (by omega)).far _ (by omega), ⟨B, w8.heap.size, by omega, t.size, ho.touch t (Or.inr hpB)⟩⟩
theorem trainOf_join (up : Bool) (A : Option Addr) (c : Nat) (T1 T2 : List (List Bt)) (w : World) (hm : Mod (T1 ++ T2)) (hp : Trn w A (T1 ++ T2)) : Calls Try.prog 98 #[.bool up, .slice A (T1.length + T2.length) c] w (GivesT w up (T1 ++ T2)) := by
  have h := trainOf_impl up A c (T1 ++ T2) w hm hp
  rwa [List.length_append] at h
theorem cou_yes' {u1 u2 : Bool} {T1 T2 : List (List Bt)} (h : couB u1 u2 T1 T2 = true) {w w1 w' : World} {A : Option Addr} {c g : Nat} {G : Nat → Nat} {B L : Nat} (hb : Below w.heap.size w w1) (hc : (T1 ++ T2).length ≤ c) (hB : w.heap.size + 3 ≤ B) (hL : L ≤ w1.heap.size)
    (ho : OwnT w1 B L A (T1 ++ T2) g G) (t : Touch w1 w' (w.heap.size + 2) (w.heap.size + 3)) :
    GivesTB w (couU u1 u2 T1 T2) (couT u1 u2 T1 T2) (couB u1 u2 T1 T2) (.returned (.tuple #[.agg #[.bool u1, .slice A (T1 ++ T2).length c], .bool true])) w' := by
  have e1 : couU u1 u2 T1 T2 = u1 := by unfold couU; rw [if_pos h]
  have e2 : couT u1 u2 T1 T2 = T1 ++ T2 := by unfold couT; rw [if_pos h]
  rw [h, e1, e2]
  exact ⟨⟨A, c, g, G, rfl, hc, (ho.touch t (Or.inr hB)).wide (by omega) (Nat.le_trans hL t.size)⟩, t.below hb (by omega)⟩
set_option maxRecDepth 100000 in
set_option maxHeartbeats 4000000 in
theorem couple_impl (u1 u2 : Bool) (A1 A2 : Option Addr) (c1 c2 : Nat) (T1 T2 : List (List Bt)) (w : World) (hm1 : Mod T1) (hm2 : Mod T2) (hm12 : Mod (T1 ++ T2)) (hp1 : Trn w A1 T1) (hp2 : Trn w A2 T2) :
    Calls Try.prog 28 #[.agg #[.bool u1, .slice A1 T1.length c1], .agg #[.bool u2, .slice A2 T2.length c2]] w (GivesTB w (couU u1 u2 T1 T2) (couT u1 u2 T1 T2) (couB u1 u2 T1 T2)) := by
  have HM1 := vl hm1
  have HM2 := vl hm2
  have HB0 := vl ((((Below.refl w.heap.size w).alloc (Nat.le_refl _) (.cells #[.bool u1, .slice A1 T1.length c1] 26)).alloc (by simp) (.cells #[.bool u2, .slice A2 T2.length c2] 26)).alloc (by simp; omega) (.cells #[.bool false, .slice none 0 0] 26))
  have HP1 := vl (hp1.below HB0.out)
  have HXY := vl (show TBox (((w.alloc (.cells #[.bool u1, .slice A1 T1.length c1] 26)).alloc (.cells #[.bool u2, .slice A2 T2.length c2] 26)).alloc (.cells #[.bool false, .slice none 0 0] 26)) w.heap.size u1 A1 T1.length c1 ∧ TBox (((w.alloc (.cells #[.bool u1, .slice A1 T1.length c1] 26)).alloc (.cells #[.bool u2, .slice A2 T2.length c2] 26)).alloc (.cells #[.bool false, .slice none 0 0] 26)) (w.heap.size + 1) u2 A2 T2.length c2 ∧ TBoxF (((w.alloc (.cells #[.bool u1, .slice A1 T1.length c1] 26)).alloc (.cells #[.bool u2, .slice A2 T2.length c2] 26)).alloc (.cells #[.bool false, .slice none 0 0] 26)) (w.heap.size + 2) false (.slice none 0 0) from by
    have h1 := ((TBox.new w u1 A1 T1.length c1 26).below ((Below.refl _ _).alloc (Nat.le_refl _) (.cells #[.bool u2, .slice A2 T2.length c2] 26))).below ((Below.refl _ _).alloc (Nat.le_refl _) (.cells #[.bool false, .slice none 0 0] 26))
    have h2 := (TBox.new (w.alloc (.cells #[.bool u1, .slice A1 T1.length c1] 26)) u2 A2 T2.length c2 26).below ((Below.refl _ _).alloc (Nat.le_refl _) (.cells #[.bool false, .slice none 0 0] 26))
    have h3 := TBoxF.new ((w.alloc (.cells #[.bool u1, .slice A1 T1.length c1] 26)).alloc (.cells #[.bool u2, .slice A2 T2.length c2] 26)) false (.slice none 0 0) 26
    exact ⟨h1, by simpa using h2, by simpa using h3⟩)
  have HM12 := vl hm12
  have HPw := vl (And.intro hp1 hp2)
  have hq1 := hm1.rows; have hq2 := hm2.rows
  clear hm1 hm2 hm12 hp1 hp2
  go_enter Try.func28, Try.ntmps28
  go_wp2_with fail
  refine (tok_impl u1 A1 c1 T1 _ HM1.out HP1.out).mono ?_
  rintro e w5 ⟨rfl, hb5⟩
  have HB5 := vl (HB0.out.trans (hb5.mono HB0.out.size))
  have HX5 := vl (HXY.out.1.below hb5)
  have HY5 := vl (HXY.out.2.1.below hb5)
  have HR5 := vl (HXY.out.2.2.below hb5 HXY.out.2.2.lt)
  clear hb5 HXY HB0 HP1
  have r0 := HR5.out.c0; have r1 := HR5.out.c1; have r2 := HR5.out.f0; have r3 := HR5.out.f1
  cases hok1 : tOk T1 with
  | false =>
    have HE := vl (show couB u1 u2 T1 T2 = false by unfold couB; rw [hok1]; rfl)
    go_wp2
    refine bodyPost_ret (v := .tuple #[.agg #[.bool false, .slice none 0 0], .bool false]) (by simp [results, Try.results28, go_sem, r0, r1]) rfl ?_
    exact cou_no HE.out (by (repeat' (first | (with_reducible exact Below.refl _ _) | (with_reducible refine Below.drew ?_) | (with_reducible refine Below.alloc ?_ ?_ _) | (with_reducible refine Below.setCell ?_ ?_ _) | (with_reducible refine Below.trans ?_ (HB5.out.mono ?_)) | (first | omega | (simp; omega) | (simp; done)))))
  | true =>
    have HK1 := vl hok1
    clear hok1 r0 r1 r2 r3
    obtain ⟨y0, y1⟩ := HY5.out
    go_wp2_with fail
    refine (tok_impl u2 A2 c2 T2 _ HM2.out (HPw.out.2.below HB5.out)).mono ?_
    rintro e w6 ⟨rfl, hb6⟩
    have HB6 := vl (HB5.out.trans (hb6.mono HB5.out.size))
    have HX6 := vl (HX5.out.below hb6)
    have HY6 := vl (HY5.out.below hb6)
    have HR6 := vl (HR5.out.below hb6 HR5.out.lt)
    clear hb6 y0 y1 HB5 HX5 HY5 HR5
    have r0 := HR6.out.c0; have r1 := HR6.out.c1; have r2 := HR6.out.f0; have r3 := HR6.out.f1
    obtain ⟨x0, x1⟩ := HX6.out
    obtain ⟨y0, y1⟩ := HY6.out
    cases hok2 : tOk T2 with
    | false =>
      have HE := vl (show couB u1 u2 T1 T2 = false by unfold couB; rw [hok2, HK1.out]; rfl)
      go_wp2
      refine bodyPost_ret (v := .tuple #[.agg #[.bool false, .slice none 0 0], .bool false]) (by simp [results, Try.results28, go_sem, r0, r1]) rfl ?_
      exact cou_no HE.out (by (repeat' (first | (with_reducible exact Below.refl _ _) | (with_reducible refine Below.drew ?_) | (with_reducible refine Below.alloc ?_ ?_ _) | (with_reducible refine Below.setCell ?_ ?_ _) | (with_reducible refine Below.trans ?_ (HB6.out.mono ?_)) | (first | omega | (simp; omega) | (simp; done)))))
    | true =>
      have HK2 := vl hok2
      clear hok2
      by_cases hu : u1 = u2
      · have HU := vl hu
        have hu' : (u1 == u2) = true := by rw [hu]; simp
        have hsz6 := HB6.out.size
        have hr1 := (in_tOk HK1.out).rows.2
        have hr2 := (in_tOk HK2.out).rows.2
        clear hu
        go_wp2
        have q0 : w.heap.size < w6.heap.size := cell_lt' x0
        have q1 : w.heap.size + 1 < w6.heap.size := cell_lt' y1
        have q2 : w.heap.size + 2 < w6.heap.size := cell_lt' r0
        have HC1 := vl (show TBoxF ((w6.alloc (.cells #[.bool false, .slice none 0 0] 26)).alloc (.cells #[.slice A1 T1.length c1, .slice A2 T2.length c2] 24)).drew w6.heap.size false (.slice none 0 0) from (TBoxF.new w6 false (.slice none 0 0) 26).block (Below.heap_alloc (w6.alloc (.cells #[.bool false, .slice none 0 0] 26)) (.cells #[.slice A1 T1.length c1, .slice A2 T2.length c2] 24) w6.heap.size (by simp)))
        have HC2 := vl (show TBoxF ((w6.alloc (.cells #[.slice A1 T1.length c1, .slice A2 T2.length c2] 24)).alloc (.cells #[.bool false, .slice none 0 0] 26)).drew (w6.heap.size + 1) false (.slice none 0 0) from by have h := TBoxF.new (w6.alloc (.cells #[.slice A1 T1.length c1, .slice A2 T2.length c2] 24)) false (.slice none 0 0) 26; simp only [World.size_alloc] at h; exact h.block rfl)
        go_region_held3 (fun w' => w'.cell? ⟨w.heap.size, 0, none⟩ = some (.bool u1) ∧ w'.cell? ⟨w.heap.size, 1, none⟩ = some (.slice A1 T1.length c1) ∧ w'.cell? ⟨w.heap.size + 1, 1, none⟩ = some (.slice A2 T2.length c2))
          (first | exact ⟨x0, x1, y1⟩ | assumption | exact ⟨l0, l1, l2⟩ | exact ⟨k0, k1, k2⟩ | exact ⟨(hba8.cell (cell_lt' l0)).trans l0, (hba8.cell (cell_lt' l1)).trans l1, (hba8.cell (cell_lt' l2)).trans l2⟩ | exact ⟨(hbb8.cell (cell_lt' l0)).trans l0, (hbb8.cell (cell_lt' l1)).trans l1, (hbb8.cell (cell_lt' l2)).trans l2⟩ | exact ⟨(hba7.cell (cell_lt' k0)).trans k0, (hba7.cell (cell_lt' k1)).trans k1, (hba7.cell (cell_lt' k2)).trans k2⟩ | (refine ⟨?_, ?_, ?_⟩ <;> (repeat (rw [World.cell?_setCell_other _ _ _ _ (by intro e; injection e with e; omega)])) <;> assumption) | go_keep)
          (first
            | (go_at_call 98
               with_reducible refine (trainOf_join u1 A7 c7 T1 T2 _ HM12.out (by first | exact HV7.out | exact HV7.out.alloc _)).mono ?_
               rintro e w8 ⟨⟨A8, c8, g8, G8, rfl, hc8, ho8⟩, hb8⟩
               have hO8 := ho8
               have hb78 : Below w7.heap.size w7 w8 := by first | exact hb8 | exact ((Below.refl w7.heap.size w7).alloc (Nat.le_refl _) _).trans (hb8.mono (by simp))
               have l0 := (hb78.cell (cell_lt' k0)).trans k0
               have l1 := (hb78.cell (cell_lt' k1)).trans k1
               have l2 := (hb78.cell (cell_lt' k2)).trans k2
               have hba8 := (Below.refl w8.heap.size w8).alloc (Nat.le_refl _) (.cells #[.bool false, .slice none 0 0] 26)
               have hbb8 := (Below.refl w8.heap.size w8).alloc (Nat.le_refl _) (.cells #[.bool u1, .slice A8 (T1.length + T2.length) c8] 26)
               have S1 := And.intro l0 (And.intro l1 l2)
               first
                 | (have HZ8 := (TBoxF.new w7 false (.slice none 0 0) 26).below hb8 (by simp)
                    have b0 := HZ8.c0; have b1 := HZ8.c1; have b2 := HZ8.f0; have b3 := HZ8.f1)
                 | (have HZ8 := HZ7.below hb8 HZ7.lt
                    have b0 := HZ8.c0; have b1 := HZ8.c1; have b2 := HZ8.f0; have b3 := HZ8.f1)
                 | skip
               clear ho8)
            | (go_at_call 99
               refine (concat_r A1 A2 c1 c2 T1 T2 _ hr1 hr2 (by refine HPw.out.1.below ?_; (repeat' (first | (with_reducible exact Below.refl _ _) | (with_reducible refine Below.drew ?_) | (with_reducible refine Below.alloc ?_ ?_ _) | (with_reducible refine Below.setCell ?_ ?_ _) | (with_reducible refine Below.trans ?_ (HB6.out.mono ?_)) | (first | omega | (simp; omega) | (simp; done))))) (by refine HPw.out.2.below ?_; (repeat' (first | (with_reducible exact Below.refl _ _) | (with_reducible refine Below.drew ?_) | (with_reducible refine Below.alloc ?_ ?_ _) | (with_reducible refine Below.setCell ?_ ?_ _) | (with_reducible refine Below.trans ?_ (HB6.out.mono ?_)) | (first | omega | (simp; omega) | (simp; done))))) (by simp) (by simp)).mono ?_
               rintro e w7 ⟨⟨A7, c7, rfl, hv7⟩, hb7⟩
               have HV7 := vl hv7
               have hb7' : Below w6.heap.size w6 w7 := by refine Below.trans ?_ (hb7.mono ?_) <;> first | (repeat' (first | (with_reducible exact Below.refl _ _) | (with_reducible refine Below.drew ?_) | (with_reducible refine Below.alloc ?_ ?_ _) | (with_reducible refine Below.setCell ?_ ?_ _) | (first | omega | (simp; omega) | (simp; done)))) | (simp; omega)
               have HB67 := vl hb7'
               have q7 : w6.heap.size ≤ w7.heap.size := hb7'.size
               have k0 := (hb7'.cell (cell_lt' x0)).trans x0
               have k1 := (hb7'.cell (cell_lt' x1)).trans x1
               have k2 := (hb7'.cell (cell_lt' y1)).trans y1
               have hba7 := (Below.refl w7.heap.size w7).alloc (Nat.le_refl _) (.cells #[.bool false, .slice none 0 0] 26)
               have S1 := And.intro k0 (And.intro k1 k2)
               first
                 | have q77 : w6.heap.size + 2 ≤ w7.heap.size := by have := hb7.size; simp at this; omega
                 | skip
               first
                 | have HZ7 := HC1.out.below hb7 (by first | (simp; done) | (simp; omega))
                 | have HZ7 := HC2.out.below hb7 (by first | (simp; done) | (simp; omega))
                 | skip
               clear hb7'))
        all_goals
          first
            | (have HJ' := vl (joined_b (u := u1) (n := T1.length + T2.length) (c := c8) HB6.out HB67.out hb78 q2 HR6.out (by first | exact Nat.le_refl _ | (simp; done)) (by omega) (by first | (simp; done) | omega) HZ8 hO8)
               have hJ := HJ'.out
               revert HJ' hJ
               generalize (w8.setCell _ _).setCell _ _ = W9
               intro HJ' hJ)
            | (have HJ' := vl (joined_a (u := u1) (n := T1.length + T2.length) (c := c8) HB6.out HB67.out hb78 q2 HR6.out (by first | exact Nat.le_refl _ | (simp; done)) hO8)
               have hJ := HJ'.out
               revert HJ' hJ
               generalize w8.alloc (.cells #[.bool u1, .slice A8 (T1.length + T2.length) c8] 26) = W9
               intro HJ' hJ)
          clear HC1 HC2 q0 q1 l0 l1 l2 k0 k1 k2 S1 hba8 hbb8 hba7 HB67 hb78 HB6 HX6 HY6 HR6 x0 x1 y0 y1 r0 r1 r2 r3
          obtain ⟨z0, z1⟩ := hJ.z
          have r0 := hJ.r.c0; have r1 := hJ.r.c1; have r2 := hJ.r.f0; have r3 := hJ.r.f1
          have HT := vl (show Trn W9 A8 (T1 ++ T2) from by obtain ⟨_, _, _, _, h⟩ := hJ.o; exact h.trn)
          clear hJ
          go_wp2_with fail
          refine (tok_joini u1 A8 c8 T1 T2 _ HM12.out HT.out).mono ?_
          rintro e wk ⟨rfl, hbk⟩
          have HRk := vl (HJ'.out.r.below hbk HJ'.out.r.lt)
          have HZk := vl (HJ'.out.z.below hbk)
          have HBk := vl (HJ'.out.b.trans (hbk.mono HJ'.out.b.size))
          have HOk := vl (show ∃ B L, w.heap.size + 3 ≤ B ∧ L ≤ wk.heap.size ∧ OwnT wk B L A8 (T1 ++ T2) g8 G8 from by obtain ⟨B, L, h1, h2, h3⟩ := HJ'.out.o; exact ⟨B, L, h1, Nat.le_trans h2 hbk.size, h3.below hbk⟩)
          clear hbk HJ' r0 r1 r2 r3 z0 z1
          have r0 := HRk.out.c0; have r1 := HRk.out.c1; have r2 := HRk.out.f0; have r3 := HRk.out.f1
          obtain ⟨z0, z1⟩ := HZk.out
          cases hok3 : tOk (T1 ++ T2) with
          | false =>
            have HE := vl (show couB u1 u2 T1 T2 = false by unfold couB; rw [hok3, HK1.out, HK2.out]; simp)
            go_wp2
            refine bodyPost_ret (v := .tuple #[.agg #[.bool false, .slice none 0 0], .bool false]) (by simp [results, Try.results28, go_sem, r0, r1]) rfl ?_
            exact cou_no HE.out (by (repeat' (first | (with_reducible exact Below.refl _ _) | (with_reducible refine Below.drew ?_) | (with_reducible refine Below.alloc ?_ ?_ _) | (with_reducible refine Below.setCell ?_ ?_ _) | (with_reducible refine Below.trans ?_ (HBk.out.mono ?_)) | (first | omega | (simp; omega) | (simp; done)))))
          | true =>
            have HE := vl (show couB u1 u2 T1 T2 = true by unfold couB; rw [hok3, HK1.out, HK2.out, HU.out]; simp)
            go_wp2
            refine bodyPost_ret (v := .tuple #[.agg #[.bool u1, .slice A8 (T1.length + T2.length) c8], .bool true]) (by simp [results, Try.results28, go_sem, r0, r1]) rfl ?_
            obtain ⟨B, L, h1, h2, h3⟩ := HOk.out
            have hfin := cou_yes' HE.out HBk.out hc8 h1 h2 h3 (touch2 wk (w.heap.size + 2) (.bool u1) (.slice A8 (T1.length + T2.length) c8))
            rw [List.length_append] at hfin
            exact hfin
      · have HE := vl (show couB u1 u2 T1 T2 = false by unfold couB; rw [HK1.out, HK2.out]; cases tOk (T1 ++ T2) <;> simp [hu])
        have hu' : (u1 == u2) = false := by simp [hu]
        clear hu
        go_wp2
        refine bodyPost_ret (v := .tuple #[.agg #[.bool false, .slice none 0 0], .bool false]) (by simp [results, Try.results28, go_sem, r0, r1]) rfl ?_
        exact cou_no HE.out (by (repeat' (first | (with_reducible exact Below.refl _ _) | (with_reducible refine Below.drew ?_) | (with_reducible refine Below.alloc ?_ ?_ _) | (with_reducible refine Below.setCell ?_ ?_ _) | (with_reducible refine Below.trans ?_ (HB6.out.mono ?_)) | (first | omega | (simp; omega) | (simp; done)))))
end Go.Proofs.Ytmfeleocjmdooaa.C1
