/- The balances of a book: of the program (a map) and of its model. -/
import Derived.Test.YtngmpimoebggdaaEnO
import Derived.Test.YtngmpimoebggdaaApp
import Derived.StillTailTactics
import Derived.Maps.Own
import Derived.Maps.OwnOps
import Derived.Maps.Views
namespace Go.Proofs.Ytngmpimoebggdaa.C1
open Go.ChangeShapes Go.WideShapes Go.ChangeAt Go.RowKit Go.Maps
set_option linter.unusedVariables false

/-- What an entry does to an account; what all of them do. -/
def balE (e : En) (k : Int) : Int := (if e.t = k then e.a else 0) - (if e.f = k then e.a else 0)
def bal : List En → Int → Int
  | [], _ => 0
  | e :: L, k => balE e k + bal L k
theorem bal_snoc (L : List En) (e : En) (k : Int) : bal (L ++ [e]) k = bal L k + balE e k := by
  induction L with
  | nil => simp [bal]
  | cons x L ih => simp only [List.cons_append, bal, ih]; omega
theorem bal_take {L : List En} {k : Nat} {e : En} (h : L[k]? = some e) (j : Int) : bal (L.take (k + 1)) j = bal (L.take k) j + balE e j := by
  rw [List.take_add_one, h]
  exact bal_snoc _ _ _
theorem enOk_in {e : En} (h : enOk e = true) : e.f ≠ e.t ∧ (0 ≤ e.f ∧ e.f ≤ 11) ∧ (0 ≤ e.t ∧ e.t ≤ 11) ∧ (1 ≤ e.a ∧ e.a ≤ 1000000000) ∧ (0 ≤ e.m ∧ e.m ≤ 1000000) ∧ (0 ≤ e.y ∧ e.y ≤ 9999) := by
  unfold enOk at h
  simp only [Bool.and_eq_true, inB_iff] at h
  obtain ⟨h1, h2, h3, h4, h5, h6⟩ := h
  exact ⟨by simpa using h1, h2, h3, h4, h5, h6⟩
theorem bal_bd {L : List En} (h : L.all enOk = true) (k : Int) : -(1000000000 * (L.length : Int)) ≤ bal L k ∧ bal L k ≤ 1000000000 * (L.length : Int) := by
  induction L with
  | nil => simp [bal]
  | cons e L ih =>
    simp only [List.all_cons, Bool.and_eq_true] at h
    have h1 := ih h.2
    obtain ⟨_, _, _, h4, _⟩ := enOk_in h.1
    simp only [bal, balE, List.length_cons]
    split <;> split <;> omega
theorem all_take {L : List En} (h : L.all enOk = true) (k : Nat) : (L.take k).all enOk = true := List.all_eq_true.2 fun b hb => List.all_eq_true.1 h b (List.mem_of_mem_take hb)
theorem bal_bd' {L : List En} (h : bkOk L = true) (k : Nat) (j : Int) : -2000000000000 ≤ bal (L.take k) j ∧ bal (L.take k) j ≤ 2000000000000 := by
  obtain ⟨h1, h2⟩ := bk_parts h
  have := bal_bd (all_take h2 k) j
  have hl : (L.take k).length ≤ 2000 := by rw [List.length_take]; omega
  omega
def balN (L : List En) : Nat := if bkOk L = true then 12 else 0
theorem balN_le (L : List En) : balN L ≤ 12 := by unfold balN; split <;> omega
/-- What a function that gives the balances leaves. -/
def GivesBal (w : World) (L : List En) (e : Ending) (w' : World) : Prop :=
  (∃ A' c' g, e = .returned (.slice A' (balN L) c') ∧ RowI w' A' (balN L) g (fun i => bal L i) ∧ Free w' (balN L) g ∧ w.heap.size ≤ g ∧ (0 < balN L → g < w'.heap.size)) ∧ Below w.heap.size w w'
theorem bal_none {w w' : World} {L : List En} {A : Option Addr} {c : Nat} (h : bkOk L = false) (hb : Below w.heap.size w w') : GivesBal w L (.returned (.slice A 0 c)) w' := by
  have e : balN L = 0 := by unfold balN; rw [h]; rfl
  exact ⟨⟨A, c, w.heap.size, by rw [e], by rw [e]; exact ⟨fun h => by omega, fun i hi => by omega⟩, by rw [e]; exact fun i hi => by omega, Nat.le_refl _, fun h' => by omega⟩, hb⟩
theorem bal_some {w w' : World} {L : List En} {g : Nat} (h : bkOk L = true) (hr : w'.rowIs g 3 12 (fun i => .int .i64 (bal L i))) (hg : w.heap.size ≤ g) (hb : Below w.heap.size w w') : GivesBal w L (.returned (.slice (some ⟨g, 0, none⟩) 12 12)) w' := by
  have e : balN L = 12 := by unfold balN; rw [h]; rfl
  obtain ⟨r1, r2⟩ := RowI.of_row hr
  exact ⟨⟨_, _, g, by rw [e], by rw [e]; exact r1, by rw [e]; exact r2, hg, fun _ => hr.lt⟩, hb⟩
theorem mk12 : ∀ W : World, (Instr.makeSlice 47 (.int .i64 12) (.int .i64 12)).run Try.prog W = .ok (.slice (some ⟨W.heap.size, 0, none⟩) 12 12) (W.alloc (.cells (madeCells #[.int .i64 0] 12) 3)) := fun W =>
  run_make_row' 47 3 (.int .i64 0) 8 Try.underlying47 (by kernel_rfl) rfl .i64 .i64 12 (by omega) (by omega) W
set_option maxRecDepth 100000 in
set_option maxHeartbeats 4000000 in
theorem bal_spec (A : Option Addr) (c : Nat) (L : List En) (w : World) (hn : L.length ≤ 1048576) (hp : Ens w A L) :
    Calls Try.prog 44 #[.slice A L.length c] w (GivesBal w L) := by
  have HP := vl hp
  clear hp
  have hmk := mk12
  cases hv : bkOk L with
  | false =>
    have HV := vl hv
    clear hv
    go_enter Try.func44, Try.ntmps44
    go_wp2_with fail
    refine (bkok_spec _ _ L _ (by omega) HP.out).mono ?_
    rintro e w1 ⟨rfl, hb1⟩
    rw [HV.out]
    have HB1 := vl hb1
    have hs1 := hb1.size
    clear hb1
    go_wp2
    go_ret
    exact bal_none HV.out (by (repeat' (first | (with_reducible exact Below.refl _ _) | (with_reducible refine Below.drew ?_) | (with_reducible refine Below.alloc ?_ ?_ _) | (with_reducible refine Below.setCell ?_ ?_ _) | (with_reducible refine Below.trans ?_ (HB1.out.mono ?_)) | (first | omega | (simp; omega) | (simp; done)))))
  | true =>
    have HV := vl hv
    obtain ⟨hl2, hall⟩ := bk_parts hv
    have HALL := vl hall
    clear hv hall
    go_enter Try.func44, Try.ntmps44
    go_wp2_with fail
    refine (bkok_spec _ _ L _ (by omega) HP.out).mono ?_
    rintro e w1 ⟨rfl, hb1⟩
    rw [HV.out]
    have HB1 := vl hb1
    have hs1 := hb1.size
    have HR := vl (World.rowIs_made w1 (.int .i64 0) 12 3)
    clear hb1
    go_wp2
    clear hmk
    go_loopw [4] (fun i wr => ∃ k : Nat, k ≤ L.length ∧ i = .int .i64 k ∧ Veil (Below w.heap.size w wr) ∧ Veil (wr.rowIs w1.heap.size 3 12 (fun j => .int .i64 (bal (L.take k) j)))) (fun i _ => L.length - (intOf i).toNat)
    case atStart => exact ⟨0, by omega, rfl, vl (HB1.out.alloc HB1.out.size _), vl (HR.out.congr fun j hj => by simp [bal])⟩
    case round =>
      obtain ⟨k, hk, rfl, HB, HW⟩ := hrel
      by_cases hlt : k < L.length
      · obtain ⟨b, hb⟩ := get_of hlt
        obtain ⟨g, o, rfl, hc⟩ := HP.out (by omega)
        have hE := hc k b hb
        have hg := hE.lt
        have HK := vl hb
        obtain ⟨x0, x1, x2, x3, x4⟩ := hE.below HB.out
        have hok := enOk_in (List.all_eq_true.1 HALL.out b (List.mem_of_getElem? hb))
        obtain ⟨f, t, a, m, y⟩ := b
        simp only at hok x0 x1 x2 x3 x4
        obtain ⟨hne, ⟨f0, f1⟩, ⟨t0, t1⟩, ⟨a0, a1⟩, _, _⟩ := hok
        obtain ⟨q, rfl⟩ : ∃ q : Nat, f = (q : Int) := ⟨f.toNat, by omega⟩
        obtain ⟨p, rfl⟩ : ∃ p : Nat, t = (p : Int) := ⟨t.toNat, by omega⟩
        have hne' : q ≠ p := by omega
        have p12 : (p : Int) < 12 := by omega
        have q12 : (q : Int) < 12 := by omega
        have cp := HW.out.cell (i := p) (by omega)
        have zp := HW.out.frozen p
        obtain ⟨u, hu⟩ : ∃ u, bal (L.take k) p = u := ⟨_, rfl⟩
        have hub := bal_bd' HV.out k p
        rw [hu] at cp hub
        obtain ⟨u0, u1⟩ := hub
        have HU := vl hu
        have HE := vl hE
        clear hb hc hE hu hne x3 x4 f1 t1
        go_wp2
        go_still_tail 21, (by kernel_rfl)
        change wpList _ _ _ _ _ wr.drew
        go_wp2
        have HB2 := vl (show Below w.heap.size w (wr.setCell ⟨w1.heap.size, p, none⟩ (.int .i64 (u + a))).drew from (HB.out.setCell (by show w.heap.size ≤ w1.heap.size; omega) _).drew)
        have HW2 := vl (show ((wr.setCell ⟨w1.heap.size, p, none⟩ (.int .i64 (u + a))).drew).rowIs w1.heap.size 3 12 _ from HW.out.set p (.int .i64 (u + a)))
        generalize hW2 : (wr.setCell ⟨w1.heap.size, p, none⟩ (.int .i64 (u + a))).drew = W2 at HB2 HW2 ⊢
        clear hW2 x0 x1 x2 cp zp
        obtain ⟨x0, x1, x2, x3, x4⟩ := HE.out.below HB2.out
        simp only at x0 x1 x2
        have cq := HW2.out.cell (i := q) (by omega)
        rw [if_neg hne'] at cq
        have zq := HW2.out.frozen q
        obtain ⟨v, hv⟩ : ∃ v, bal (L.take k) q = v := ⟨_, rfl⟩
        have hvb := bal_bd' HV.out k q
        rw [hv] at cq hvb
        obtain ⟨v0, v1⟩ := hvb
        have HVV := vl hv
        clear hv x3 x4
        go_still_tail 21, (by kernel_rfl)
        change wpList _ _ _ _ _ W2.drew
        go_wp2
        have HF := vl (show ∀ j : Nat, (if j = q then Value.int .i64 (v - a) else if j = p then .int .i64 (u + a) else .int .i64 (bal (L.take k) j)) = .int .i64 (bal (L.take (k + 1)) j) from fun j => by
          rw [bal_take HK.out]
          unfold balE
          simp only
          by_cases e1 : j = q
          · subst e1
            rw [if_pos rfl, if_neg (by omega), if_pos rfl, HVV.out]
            congr 1; omega
          · by_cases e2 : j = p
            · subst e2
              rw [if_neg e1, if_pos rfl, if_pos rfl, if_neg (by omega), HU.out]
              congr 1; omega
            · rw [if_neg e1, if_neg e2, if_neg (by omega), if_neg (by omega)]
              congr 1; omega)
        clear x0 x1 x2 cq zq
        go_roundw
        case rel =>
          refine ⟨k + 1, by omega, by go_num, vl ?_, vl ?_⟩
          · exact (HB2.out.setCell (by show w.heap.size ≤ w1.heap.size; omega) _).drew
          · exact (HW2.out.set q (.int .i64 (v - a))).congr fun j hj => HF.out j
        case measure => simp [intOf]; omega
      · obtain rfl : k = L.length := by omega
        have HW' := vl (HW.out.congr (g := fun j => .int .i64 (bal L j)) fun j hj => by rw [List.take_length])
        go_wp2
        go_ret
        exact bal_some HV.out HW'.out hs1 HB.out
theorem lawI : Keyed Try.prog 3 := int_keyed Try.underlying3
theorem zeroI (w : World) : (zeroValue 3).run Try.prog w = .ok (.int .i64 0) w := by kernel_rfl
/-- What the map holds: for each account, what the first k entries do to it. -/
structure MapB (wr : World) (M k : Nat) (L : List En) (D : DataW Unit) : Prop where
  own : wr.ownsMap Try.prog 3 (plainElem Try.prog 3) M (2 * k) D
  map : IsMap D
  ats : ∀ j : Nat, D.atKey (.int .i64 (j : Int)) (.lit (.int .i64 0)) = .lit (.int .i64 (bal (L.take k) j))
theorem lit_inj {a b : Int} (h : (DataW.lit (.int .i64 a) : DataW Unit) = .lit (.int .i64 b)) : a = b := by
  injection h with h
  injection h
theorem key_i {a : Int} (h : -9223372036854775808 ≤ a ∧ a ≤ 9223372036854775807) : keyOf Try.prog 3 (.int .i64 a) = some (.int .i64 a) := keyOf_int_mk Try.underlying3 (WalkArith.wf_i64 h)
set_option maxRecDepth 100000 in
set_option maxHeartbeats 4000000 in
theorem bal_impl (A : Option Addr) (c : Nat) (L : List En) (w : World) (hn : L.length ≤ 1048576) (hp : Ens w A L) :
    Calls Try.prog 45 #[.slice A L.length c] w (GivesBal w L) := by
  have HP := vl hp
  clear hp
  have hmk := mk12
  have hmm := @run_makeMap Try.prog
  cases hv : bkOk L with
  | false =>
    have HV := vl hv
    clear hv
    go_enter Try.func45, Try.ntmps45
    go_wp2_with fail
    refine (bkok_impl _ _ L _ hn HP.out).mono ?_
    rintro e w1 ⟨rfl, hb1⟩
    rw [HV.out]
    have HB1 := vl hb1
    have hs1 := hb1.size
    clear hb1
    go_wp2
    go_ret
    exact bal_none HV.out HB1.out
  | true =>
    have HV := vl hv
    obtain ⟨hl2, hall⟩ := bk_parts hv
    have HALL := vl hall
    clear hv hall
    go_enter Try.func45, Try.ntmps45
    go_wp2_with fail
    refine (bkok_impl _ _ L _ hn HP.out).mono ?_
    rintro e w1 ⟨rfl, hb1⟩
    rw [HV.out]
    have HB1 := vl hb1
    have hs1 := hb1.size
    clear hb1
    go_wp2
    clear hmm
    go_loopw [14] (fun i wr => ∃ k : Nat, k ≤ L.length ∧ i = .int .i64 k ∧ Veil (Below w.heap.size w wr) ∧ Veil (w1.heap.size < wr.heap.size) ∧ Veil (∃ D, MapB wr w1.heap.size k L D)) (fun i _ => L.length - (intOf i).toNat)
    case atStart => exact ⟨0, by omega, rfl, vl (HB1.out.alloc HB1.out.size _), vl (by simp), vl ⟨.map [], World.ownsMap_made _ _ _ _, isMap_empty, fun j => rfl⟩⟩
    case round =>
      obtain ⟨k, hk, rfl, HB, HS, HM⟩ := hrel
      by_cases hlt : k < L.length
      · obtain ⟨b, hb⟩ := get_of hlt
        obtain ⟨g, o, rfl, hc⟩ := HP.out (by omega)
        have hE := hc k b hb
        have HK := vl hb
        obtain ⟨x0, x1, x2, x3, x4⟩ := hE.below HB.out
        have hok := enOk_in (List.all_eq_true.1 HALL.out b (List.mem_of_getElem? hb))
        obtain ⟨f, t, a, m, y⟩ := b
        simp only at hok x0 x1 x2 x3 x4
        obtain ⟨hne, ⟨f0, f1⟩, ⟨t0, t1⟩, ⟨a0, a1⟩, _, _⟩ := hok
        obtain ⟨q, rfl⟩ : ∃ q : Nat, f = (q : Int) := ⟨f.toNat, by omega⟩
        obtain ⟨p, rfl⟩ : ∃ p : Nat, t = (p : Int) := ⟨t.toNat, by omega⟩
        have hne' : q ≠ p := by omega
        obtain ⟨D, hD⟩ := HM.out
        have hown := hD.own
        have HD := vl hD
        obtain ⟨u, hu⟩ : ∃ u, bal (L.take k) q = u := ⟨_, rfl⟩
        have hub := bal_bd' HV.out k q
        rw [hu] at hub
        obtain ⟨u0, u1⟩ := hub
        obtain ⟨v, hv⟩ : ∃ v, bal (L.take k) p = v := ⟨_, rfl⟩
        have hvb := bal_bd' HV.out k p
        rw [hv] at hvb
        obtain ⟨v0, v1⟩ := hvb
        have HU := vl hu
        have HVV := vl hv
        have hkq : -9223372036854775808 ≤ (q : Int) ∧ (q : Int) ≤ 9223372036854775807 := by omega
        have hkp : -9223372036854775808 ≤ (p : Int) ∧ (p : Int) ≤ 9223372036854775807 := by omega
        have KQ := vl (key_i hkq)
        have KP := vl (key_i hkp)
        clear hb hc hE hu hv hne hD hkq hkp HM
        have hsz := HS.out
        go_wp2_with (first
          | (at_lookup; refine wpList_lookup_own_int _ rfl _ _ 141 rfl 3 3 .i64 lawI Try.underlying141 Try.underlying3 (zeroI _) w1.heap.size (2 * k) D rfl (hown.alloc _) _ _ rfl KQ.out ?_
             intro c0 hat0 hwc0
             have e0 := lit_inj (hat0.symm.trans (HD.out.ats q))
             rw [HU.out] at e0
             subst e0
             clear hat0 hwc0)
          | (at_mapUpdate; refine wpList_mapUpdate_own _ rfl _ _ _ 141 rfl 3 3 lawI Try.underlying141 _ w1.heap.size (2 * k) _ rfl (hown.alloc _) (by unfold maxLen; omega) _ _ _ rfl rfl KQ.out _ [] (plainElem_int Try.underlying3 (WalkArith.wf_i64 (by omega))) ?_
             intro w2 hown2 hgrow2
             have z1 : w2.cell? ⟨wr.heap.size, 1, none⟩ = some (.int .i64 p) := hgrow2.cell (by simp) (by intro e; injection e with e; simp only at e; omega)
             have z2 : w2.cell? ⟨wr.heap.size, 2, none⟩ = some (.int .i64 a) := hgrow2.cell (by simp) (by intro e; injection e with e; simp only at e; omega)
             clear hown x0 x1 x2 x3 x4)
          | (at_lookup; refine wpList_lookup_own_int _ rfl _ _ 141 rfl 3 3 .i64 lawI Try.underlying141 Try.underlying3 (zeroI _) w1.heap.size (2 * k + 1) _ rfl hown2 _ _ rfl KP.out ?_
             intro c1 hat1 hwc1
             rw [atKey_put_other (by intro e; injection e with _ e; omega)] at hat1
             have e1 := lit_inj (hat1.symm.trans (HD.out.ats p))
             rw [HVV.out] at e1
             subst e1
             clear hat1 hwc1)
          | (at_mapUpdate; refine wpList_mapUpdate_own _ rfl _ _ _ 141 rfl 3 3 lawI Try.underlying141 _ w1.heap.size (2 * k + 1) _ rfl hown2 (by unfold maxLen; omega) _ _ _ rfl rfl KP.out _ [] (plainElem_int Try.underlying3 (WalkArith.wf_i64 (by omega))) ?_
             intro w3 hown3 hgrow3)
          | go_in)
        have HB3 := vl (((HB.out.alloc HB.out.size (.cells #[.int .i64 (q : Int), .int .i64 (p : Int), .int .i64 a, .int .i64 m, .int .i64 y] 136)).grown hgrow2 (by simp; have := HB.out.size; omega) (fun j hj => by cases hj; exact hs1)).grown hgrow3 (by have := hgrow2.size; simp at this; have := HB.out.size; omega) (fun j hj => by cases hj; exact hs1))
        have HS3 := vl (show w1.heap.size < w3.heap.size by have h1 := hgrow2.size; have h2 := hgrow3.size; simp at h1; omega)
        have HM3 := vl (show ∃ D, MapB w3 w1.heap.size (k + 1) L D from by
          refine ⟨_, hown3.mono (by omega), ?_, fun j => ?_⟩
          · obtain ⟨es, he⟩ := HD.out.map
            subst he
            exact ⟨_, rfl⟩
          · rw [bal_take HK.out]
            unfold balE
            simp only
            have hm1 : IsMap (D.put (.int .i64 (q : Int)) (.lit (.int .i64 (c0 - a)))) := by
              obtain ⟨es, he⟩ := HD.out.map
              subst he
              exact ⟨_, rfl⟩
            by_cases e1 : j = p
            · subst e1
              refine (atKey_put_same (k := .int .i64 (j : Int)) hm1 trivial _ _).trans ?_
              rw [if_pos rfl, if_neg (by omega), HVV.out]
              congr 2; omega
            · refine (atKey_put_other (by intro e; injection e with _ e; omega) _ _).trans ?_
              by_cases e2 : j = q
              · subst e2
                refine (atKey_put_same (k := .int .i64 (j : Int)) HD.out.map trivial _ _).trans ?_
                rw [if_neg (by omega), if_pos rfl, HU.out]
                congr 2; omega
              · refine (atKey_put_other (by intro e; injection e with _ e; omega) _ _).trans ?_
                rw [HD.out.ats j, if_neg (by omega), if_neg (by omega)]
                congr 2
                simp)
        clear hown2 hown3 hgrow2 hgrow3 z1 z2
        go_roundw
        case rel => exact ⟨k + 1, by omega, by go_num, HB3, HS3, HM3⟩
        case measure => simp [intOf]; omega
      · obtain rfl : k = L.length := by omega
        obtain ⟨D, hD⟩ := HM.out
        have HD := vl hD
        have hsz := HS.out
        obtain ⟨W9, rfl⟩ : ∃ W9, W9 = wr := ⟨_, rfl⟩
        have HR := vl (World.rowIs_made W9 (.int .i64 0) 12 3)
        have HL := vl (show ∀ j : Nat, bal (L.take L.length) j = bal L j from fun j => by rw [List.take_length])
        clear hD HM
        go_wp2
        clear hmk
        go_loopw [36] (fun i wx => ∃ k : Nat, k ≤ 12 ∧ i = .int .i64 k ∧ Veil (Below w.heap.size w wx) ∧ Veil (wx.rowIs W9.heap.size 3 12 (fun j => .int .i64 (if j < k then bal L j else 0))) ∧ Veil (MapB wx w1.heap.size L.length L D)) (fun i _ => 12 - (intOf i).toNat)
        case atStart => exact ⟨0, by omega, rfl, vl (HB.out.alloc HB.out.size _), vl (HR.out.congr fun j hj => by simp), vl ⟨HD.out.own.alloc _, HD.out.map, HD.out.ats⟩⟩
        case round =>
          obtain ⟨k, hk, rfl, HBx, HW, HDx⟩ := hrel
          by_cases hlt : k < 12
          · have hown := HDx.out.own
            have cp := HW.out.cell (i := k) hlt
            have zp := HW.out.frozen k
            have k12 : (k : Int) < 12 := by omega
            have hkk : -9223372036854775808 ≤ (k : Int) ∧ (k : Int) ≤ 9223372036854775807 := by omega
            have KK := vl (key_i hkk)
            clear hkk
            go_wp2_with (first
              | (at_lookup; refine wpList_lookup_own_int _ rfl _ _ 141 rfl 3 3 .i64 lawI Try.underlying141 Try.underlying3 (zeroI _) w1.heap.size (2 * L.length) D rfl hown _ _ rfl KK.out ?_
                 intro c0 hat0 hwc0
                 have e0 := vl ((lit_inj (hat0.symm.trans (HDx.out.ats k))).trans (HL.out k))
                 clear hat0 hwc0)
              | go_in)
            have HF := vl (show ∀ j : Nat, (if j = k then Value.int .i64 c0 else .int .i64 (if j < k then bal L j else 0)) = .int .i64 (if j < k + 1 then bal L j else 0) from fun j => by
              by_cases e1 : j = k
              · subst e1; rw [if_pos rfl, if_pos (by omega), e0.out]
              · rw [if_neg e1]
                by_cases e2 : j < k
                · rw [if_pos e2, if_pos (by omega)]
                · rw [if_neg e2, if_neg (by omega)])
            have HB4 := vl (HBx.out.setCell (p := ⟨W9.heap.size, k, none⟩) (by show w.heap.size ≤ W9.heap.size; exact HB.out.size) (.int .i64 c0))
            have HW4 := vl ((HW.out.set k (.int .i64 c0)).congr fun j hj => HF.out j)
            have HD4 := vl (show MapB (wr.setCell ⟨W9.heap.size, k, none⟩ (.int .i64 c0)) w1.heap.size L.length L D from ⟨HDx.out.own.kept (grown_set (World.grownBy.refl _ _)) (by intro e; injection e with e; omega), HDx.out.map, HDx.out.ats⟩)
            clear hown cp zp
            go_roundw
            case rel => exact ⟨k + 1, by omega, by go_num, HB4, HW4, HD4⟩
            case measure => simp [intOf]; omega
          · obtain rfl : k = 12 := by omega
            have HW' := vl (HW.out.congr (g := fun j => .int .i64 (bal L j)) fun j hj => by rw [if_pos hj])
            go_wp2
            go_ret
            exact bal_some HV.out HW'.out HB.out.size HBx.out
end Go.Proofs.Ytngmpimoebggdaa.C1
