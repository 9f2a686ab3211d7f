/-
  For every input the Go function 'laws.FnExactNewReach' returns true, and each argument reads afterwards as it read before. No further condition.
-/
import Derived.Test.YtglebakgnegogaaNewS
import Derived.Test.YtglebakgnegogaaLift
import Derived.Test.YtglebakgnegogaaOpen
import Derived.ChangeMaps5
namespace Go.Proofs.Ytglebakgnegogaa.fnExactNewReach
open Go.Proofs.Ytglebakgnegogaa.C1 Go.Proofs.Ytglebakgnegogaa.Lift Go.Proofs.Ytglebakgnegogaa.Opened
open Go.ChangeShapes Go.WideShapes Go.ChangeAt Go.RowKit Go.ChangeMaps
set_option linter.unusedVariables false

theorem newR_le (n : Nat) (X Y : Nat → Int) (lv dl : Int) : (newR n X Y lv dl).n ≤ n ∧ (newR n X Y lv dl).m ≤ 12 := by
  unfold newR
  split
  · rename_i h
    unfold newB at h
    rw [Bool.and_eq_true, inB_iff] at h
    exact ⟨Nat.le_refl _, by show dl.toNat ≤ 12; omega⟩
  · exact ⟨Nat.zero_le _, Nat.zero_le _⟩
/-- A row of points of the call's own, from B on and below L. -/
def OwnP (w : World) (B L : Nat) (A : Option Addr) (n g : Nat) (X Y : Nat → Int) : Prop := RowP w A n g X Y ∧ Free w (n * 2) g ∧ B ≤ g ∧ g < L
theorem OwnP.below {w w' : World} {B L n g : Nat} {A : Option Addr} {X Y : Nat → Int} (h : OwnP w B L A n g X Y) (hb : Below w.heap.size w w') : OwnP w' B L A n g X Y :=
  ⟨h.1.below hb, h.2.1.below (fun hn => h.1.lt (by omega)) hb, h.2.2⟩
theorem OwnP.touch {w w' : World} {B L B' L' n g : Nat} {A : Option Addr} {X Y : Nat → Int} (h : OwnP w B L A n g X Y) (t : Go.Proofs.Ytglebakgnegogaa.C1.Touch w w' B' L') (hd : L ≤ B' ∨ L' ≤ B) : OwnP w' B L A n g X Y := by
  obtain ⟨h1, h2, h3, h4⟩ := h
  exact ⟨t.row h1 (fun _ => by omega), t.free h2 (fun hn => h1.lt (by omega)) (fun _ => by omega), h3, h4⟩
theorem OwnP.of_row {w : World} {B g n : Nat} {t : TypeId} {X Y : Nat → Int} (h : w.rowIs g t (n * 2) (ptc X Y)) (hB : B ≤ g) : OwnP w B w.heap.size (some ⟨g, 0, none⟩) n g X Y :=
  ⟨(RowP.of_row h).1, (RowP.of_row h).2, hB, h.lt⟩
set_option maxRecDepth 100000 in
set_option maxHeartbeats 1000000 in
theorem walk (A : Option Addr) (n cap : Nat) (X Y : Nat → Int) (lv dl : Int) (w : World) (hn : n ≤ 9223372036854775807) (hp : SrcPts w A n X Y) (hl : (Lit.int .i64 lv).wf = true) (hdl : (Lit.int .i64 dl).wf = true) :
    Calls Try.prog 7 #[.slice A n cap, .int .i64 lv, .int .i64 dl] w fun e w' => e = .returned (.bool true) ∧ Below w.heap.size w w' := by
  have HP := Lib.hid hp
  obtain ⟨dl0, dl1⟩ := bounds_i64 hdl
  clear hp hl hdl
  by_cases hbig : 1048576 < n
  · go_enter Try.func7, Try.ntmps7
    go_wp2_with fail
    refine (szPointS_no _ _ _ _ _ (by omega) (by omega) hn (by omega)).mono ?_
    rintro e w' ⟨rfl, rfl⟩
    go_wp2
    go_ret
    exact ⟨rfl, Below.refl _ _⟩
  have hs : n ≤ 1048576 := by omega
  have hs' : (n : Int) ≤ 1048576 := by omega
  obtain ⟨ql1, ql2⟩ := newR_le n X Y lv dl
  have hn' : (newR n X Y lv dl).n ≤ 1048576 := by omega
  have hm' : (newR n X Y lv dl).m ≤ 1048576 := by omega
  clear hbig ql1 ql2
  have HB0 := Lib.hid (Below.refl w.heap.size w)
  go_enter Try.func7, Try.ntmps7
  go_wp2_with fail
  refine (szPointS_yes _ _ _ _ _ (by omega) (by omega) hs').mono ?_
  rintro e w' ⟨rfl, rfl⟩
  go_wp2_with fail
  refine (toPointS _ _ _ _ hs X Y HP.out).mono ?_
  rintro e w1 ⟨rfl, hb, hr⟩
  have s1 : w.heap.size ≤ w1.heap.size := hb.size
  have HB1 := Lib.hid (HB0.out.trans (hb.mono HB0.out.size))
  have OA1 := Lib.hid (OwnP.of_row (B := 0) hr (Nat.zero_le _))
  clear hr
  clear hb HB0
  go_wp2_with fail
  refine (new_spec _ _ _ X Y lv dl _ hs OA1.out.1.pts).mono ?_
  rintro e w2 ⟨⟨A3, c3, D3, d3, g5, g6, rfl, hc3, ho⟩, hb⟩
  have s2 : w1.heap.size ≤ w2.heap.size := hb.size
  have OA2 := Lib.hid (OA1.out.below hb)
  clear OA1
  have HB2 := Lib.hid (HB1.out.trans (hb.mono HB1.out.size))
  have OW2 := Lib.hid ho
  clear ho OA2
  clear hb HB1
  go_wp2_with fail
  refine (toPointS _ _ _ _ hs X Y ((HP.out.below HB2.out).below ((Below.refl _ _).alloc (Nat.le_refl _) _))).mono ?_
  rintro e w3 ⟨rfl, hb, hr⟩
  have hb' := ((Below.refl w2.heap.size w2).alloc (Nat.le_refl _) (.cells #[.slice A3 (newR n X Y lv dl).n c3, .int .i64 (newR n X Y lv dl).v, .slice D3 (newR n X Y lv dl).m d3] 29)).trans (hb.mono (by simp))
  have s3 : w2.heap.size < w3.heap.size := by have := hb.size; simp at this; omega
  have OW3 := Lib.hid (OW2.out.below hb')
  clear OW2
  have HB3 := Lib.hid (HB2.out.trans (hb'.mono HB2.out.size))
  have XW3 := Lib.hid ((Box.new w2 (.slice A3 (newR n X Y lv dl).n c3) (.int .i64 (newR n X Y lv dl).v) (.slice D3 (newR n X Y lv dl).m d3) 29).below hb)
  simp only [World.size_alloc] at hr
  have OX3 := Lib.hid (OwnP.of_row (B := w2.heap.size + 1) hr (Nat.le_refl _))
  clear hr
  clear hb hb' HB2
  go_wp2_with fail
  refine (new_impl _ _ _ X Y lv dl _ hs OX3.out.1.pts).mono ?_
  rintro e w4 ⟨⟨A5, c5, D5, d5, g9, g10, rfl, hc5, ho⟩, hb⟩
  have s4 : w3.heap.size ≤ w4.heap.size := hb.size
  have OW4 := Lib.hid (OW3.out.below hb)
  clear OW3
  have XW4 := Lib.hid (XW3.out.below hb)
  clear XW3
  have OX4 := Lib.hid (OX3.out.below hb)
  clear OX3
  have HB4 := Lib.hid (HB3.out.trans (hb.mono HB3.out.size))
  have OG4 := Lib.hid ho
  clear ho
  clear hb HB3
  obtain ⟨XW_0, XW_1, XW_2⟩ := XW4.out.at
  have XW_l := XW4.out.lt
  go_wp2_with fail
  refine (eqReach (newR n X Y lv dl) _ _ _ _ _ _ _ _ _ hn' hm' (OG4.out.below ((Below.refl _ _).alloc (Nat.le_refl _) _)) (OW4.out.below ((Below.refl _ _).alloc (Nat.le_refl _) _))).mono ?_
  rintro e w5 ⟨rfl, hb⟩
  clear XW_0 XW_1 XW_2 XW_l
  have hb' := ((Below.refl w4.heap.size w4).alloc (Nat.le_refl _) (.cells #[.slice A5 (newR n X Y lv dl).n c5, .int .i64 (newR n X Y lv dl).v, .slice D5 (newR n X Y lv dl).m d5] 29)).trans (hb.mono (by simp))
  have s5 : w4.heap.size < w5.heap.size := by have := hb.size; simp at this; omega
  have OW5 := Lib.hid (OW4.out.below hb')
  clear OW4
  have XW5 := Lib.hid (XW4.out.below hb')
  clear XW4
  have OX5 := Lib.hid (OX4.out.below hb')
  clear OX4
  have OG5 := Lib.hid (OG4.out.below hb')
  clear OG4
  have HB5 := Lib.hid (HB4.out.trans (hb'.mono HB4.out.size))
  have XG5 := Lib.hid ((Box.new w4 (.slice A5 (newR n X Y lv dl).n c5) (.int .i64 (newR n X Y lv dl).v) (.slice D5 (newR n X Y lv dl).m d5) 29).below hb)
  clear hb hb' HB4
  go_wp2_with fail
  refine (toPointS _ _ _ _ hs X Y (HP.out.below HB5.out)).mono ?_
  rintro e w6 ⟨rfl, hb, hr⟩
  have s6 : w5.heap.size ≤ w6.heap.size := hb.size
  have OW6 := Lib.hid (OW5.out.below hb)
  clear OW5
  have XW6 := Lib.hid (XW5.out.below hb)
  clear XW5
  have OX6 := Lib.hid (OX5.out.below hb)
  clear OX5
  have OG6 := Lib.hid (OG5.out.below hb)
  clear OG5
  have XG6 := Lib.hid (XG5.out.below hb)
  clear XG5
  have HB6 := Lib.hid (HB5.out.trans (hb.mono HB5.out.size))
  have OY6 := Lib.hid (OwnP.of_row (B := 0) hr (Nat.zero_le _))
  clear hr
  clear hb HB5
  go_wp2_with fail
  refine (eqPointS _ _ _ _ _ _ hs X Y OX6.out.1.pts OY6.out.1.pts).mono ?_
  rintro e w7 ⟨rfl, hb⟩
  have s7 : w6.heap.size ≤ w7.heap.size := hb.size
  have OW7 := Lib.hid (OW6.out.below hb)
  clear OW6
  have XW7 := Lib.hid (XW6.out.below hb)
  clear XW6
  have OX7 := Lib.hid (OX6.out.below hb)
  clear OX6
  have OG7 := Lib.hid (OG6.out.below hb)
  clear OG6
  have XG7 := Lib.hid (XG6.out.below hb)
  clear XG6
  have OY7 := Lib.hid (OY6.out.below hb)
  clear OY6
  have HB7 := Lib.hid (HB6.out.trans (hb.mono HB6.out.size))
  clear hb HB6
  clear OY7
  have HTX := Lib.hid OX7.out.2.2
  go_wp2_with fail
  refine (markP _ _ _ _ 1 _ _ _ hs (by omega) OX7.out.1 OX7.out.2.1).mono ?_
  rintro e w8 ⟨rfl, _, _, ht0⟩; have ht := ht0 (w2.heap.size + 1) w3.heap.size (fun _ => HTX.out); clear ht0
  have s8 : w7.heap.size ≤ w8.heap.size := ht.size
  have OW8 := Lib.hid (OW7.out.touch ht (Or.inl (by omega)))
  clear OW7
  have XW8 := Lib.hid (XW7.out.touch ht (Or.inl (by omega)))
  clear XW7
  have OG8 := Lib.hid (OG7.out.touch ht (Or.inr (by omega)))
  clear OG7
  have XG8 := Lib.hid (XG7.out.touch ht (Or.inr (by omega)))
  clear XG7
  have HB8 := Lib.hid (ht.below HB7.out (by omega))
  clear ht HB7
  obtain ⟨XG_0, XG_1, XG_2⟩ := XG8.out.at
  have XG_l := XG8.out.lt
  obtain ⟨XW_0, XW_1, XW_2⟩ := XW8.out.at
  have XW_l := XW8.out.lt
  go_wp2_with fail
  refine (eqReach (newR n X Y lv dl) _ _ _ _ _ _ _ _ _ hn' hm' OG8.out OW8.out).mono ?_
  rintro e w9 ⟨rfl, hb⟩
  clear XG_0 XG_1 XG_2 XG_l
  clear XW_0 XW_1 XW_2 XW_l
  have s9 : w8.heap.size ≤ w9.heap.size := hb.size
  have OW9 := Lib.hid (OW8.out.below hb)
  clear OW8
  have XW9 := Lib.hid (XW8.out.below hb)
  clear XW8
  have OG9 := Lib.hid (OG8.out.below hb)
  clear OG8
  have XG9 := Lib.hid (XG8.out.below hb)
  clear XG8
  have HB9 := Lib.hid (HB8.out.trans (hb.mono HB8.out.size))
  clear hb HB8
  obtain ⟨XG_0, XG_1, XG_2⟩ := XG9.out.at
  have XG_l := XG9.out.lt
  go_wp2_with fail
  refine (markReach (newR n X Y lv dl) _ _ _ _ 1 _ hn' hm' (by omega) OG9.out (by omega)).mono ?_
  rintro e w10 ⟨rfl, ho, ht⟩
  clear XG_0 XG_1 XG_2 XG_l
  have s10 : w9.heap.size ≤ w10.heap.size := ht.size
  have OW10 := Lib.hid (OW9.out.touch ht (Or.inl (by omega)))
  clear OW9
  have XW10 := Lib.hid (XW9.out.touch ht (Or.inl (by omega)))
  clear XW9
  have XG10 := Lib.hid (XG9.out.touch ht (Or.inr (by omega)))
  clear XG9
  have HB10 := Lib.hid (ht.below HB9.out (by omega))
  have OM10 := Lib.hid ho
  clear ho
  clear ht HB9
  obtain ⟨XG_0, XG_1, XG_2⟩ := XG10.out.at
  have XG_l := XG10.out.lt
  go_wp2_with fail
  refine (heldReach (newR n X Y lv dl) _ _ _ _ 1 _ _ hn' hm' (by omega) OM10.out).mono ?_
  rintro e w11 ⟨rfl, hb⟩
  clear XG_0 XG_1 XG_2 XG_l
  have s11 : w10.heap.size ≤ w11.heap.size := hb.size
  have OW11 := Lib.hid (OW10.out.below hb)
  clear OW10
  have XW11 := Lib.hid (XW10.out.below hb)
  clear XW10
  have XG11 := Lib.hid (XG10.out.below hb)
  clear XG10
  have OM11 := Lib.hid (OM10.out.below hb)
  clear OM10
  have HB11 := Lib.hid (HB10.out.trans (hb.mono HB10.out.size))
  clear hb HB10
  go_wp2_with fail
  refine (toPointS _ _ _ _ hs X Y (HP.out.below HB11.out)).mono ?_
  rintro e w12 ⟨rfl, hb, hr⟩
  have s12 : w11.heap.size ≤ w12.heap.size := hb.size
  have OW12 := Lib.hid (OW11.out.below hb)
  clear OW11
  have XW12 := Lib.hid (XW11.out.below hb)
  clear XW11
  have XG12 := Lib.hid (XG11.out.below hb)
  clear XG11
  have OM12 := Lib.hid (OM11.out.below hb)
  clear OM11
  have HB12 := Lib.hid (HB11.out.trans (hb.mono HB11.out.size))
  have OA12 := Lib.hid (OwnP.of_row (B := 0) hr (Nat.zero_le _))
  clear hr
  clear hb HB11
  go_wp2_with fail
  refine (new_impl _ _ _ X Y lv dl _ hs OA12.out.1.pts).mono ?_
  rintro e w13 ⟨⟨A8, c8, D8, d8, ge, gf, rfl, hc8, ho⟩, hb⟩
  have s13 : w12.heap.size ≤ w13.heap.size := hb.size
  have OW13 := Lib.hid (OW12.out.below hb)
  clear OW12
  have XW13 := Lib.hid (XW12.out.below hb)
  clear XW12
  have XG13 := Lib.hid (XG12.out.below hb)
  clear XG12
  have OM13 := Lib.hid (OM12.out.below hb)
  clear OM12
  have OA13 := Lib.hid (OA12.out.below hb)
  clear OA12
  have HB13 := Lib.hid (HB12.out.trans (hb.mono HB12.out.size))
  have OH13 := Lib.hid ho
  clear ho OA13
  clear hb HB12
  obtain ⟨XW_0, XW_1, XW_2⟩ := XW13.out.at
  have XW_l := XW13.out.lt
  go_wp2_with fail
  refine (eqReach (newR n X Y lv dl) _ _ _ _ _ _ _ _ _ hn' hm' (OH13.out.below ((Below.refl _ _).alloc (Nat.le_refl _) _)) (OW13.out.below ((Below.refl _ _).alloc (Nat.le_refl _) _))).mono ?_
  rintro e w14 ⟨rfl, hb⟩
  clear XW_0 XW_1 XW_2 XW_l
  have hb' := ((Below.refl w13.heap.size w13).alloc (Nat.le_refl _) (.cells #[.slice A8 (newR n X Y lv dl).n c8, .int .i64 (newR n X Y lv dl).v, .slice D8 (newR n X Y lv dl).m d8] 29)).trans (hb.mono (by simp))
  have s14 : w13.heap.size < w14.heap.size := by have := hb.size; simp at this; omega
  have OW14 := Lib.hid (OW13.out.below hb')
  clear OW13
  have XW14 := Lib.hid (XW13.out.below hb')
  clear XW13
  have XG14 := Lib.hid (XG13.out.below hb')
  clear XG13
  have OM14 := Lib.hid (OM13.out.below hb')
  clear OM13
  have OH14 := Lib.hid (OH13.out.below hb')
  clear OH13
  have HB14 := Lib.hid (HB13.out.trans (hb'.mono HB13.out.size))
  have XH14 := Lib.hid ((Box.new w13 (.slice A8 (newR n X Y lv dl).n c8) (.int .i64 (newR n X Y lv dl).v) (.slice D8 (newR n X Y lv dl).m d8) 29).below hb)
  clear hb hb' HB13
  obtain ⟨XG_0, XG_1, XG_2⟩ := XG14.out.at
  have XG_l := XG14.out.lt
  go_wp2_with fail
  refine (heldReach (newR n X Y lv dl) _ _ _ _ 1 _ _ hn' hm' (by omega) OM14.out).mono ?_
  rintro e w15 ⟨rfl, hb⟩
  clear XG_0 XG_1 XG_2 XG_l
  have s15 : w14.heap.size ≤ w15.heap.size := hb.size
  have OW15 := Lib.hid (OW14.out.below hb)
  clear OW14
  have XW15 := Lib.hid (XW14.out.below hb)
  clear XW14
  have XG15 := Lib.hid (XG14.out.below hb)
  clear XG14
  have OM15 := Lib.hid (OM14.out.below hb)
  clear OM14
  have OH15 := Lib.hid (OH14.out.below hb)
  clear OH14
  have XH15 := Lib.hid (XH14.out.below hb)
  clear XH14
  have HB15 := Lib.hid (HB14.out.trans (hb.mono HB14.out.size))
  clear hb HB14
  go_wp2
  go_ret
  exact ⟨rfl, HB15.out⟩

theorem parOk : Try.f7.params.toList.all (fun t => Try.prog.readableRec t && decide (t < Try.prog.types.size)) = true := by kernel_rfl
set_option maxRecDepth 100000 in
theorem lifted (os : Os) (started : os.Started) (H : Type) (enc : TypeId × Value → H) :
    ReturnsInHanded {} Try.checked os 7 .any (Rows.fnExactNewReachSpec.pre6 enc Try.prog Try.f7 Rows.fnExactNewReachRow.domain false) (Rows.fnExactNewReachSpec.post enc Try.prog Try.f7 false true false false) := by
  refine law_lifted (C := Try.checked) own started (by kernel_rfl) Try.func7 laid (fun t ht => by
      have h := List.all_eq_true.1 parOk t ht
      rw [Bool.and_eq_true] at h
      exact ⟨h.1, of_decide_eq_true h.2⟩) rfl Try.underlying4 rfl
    (fun xs hx => by
      rw [show Try.f7.params.toList.length = 3 from by rw [Try.params7]; rfl] at hx
      match xs, hx with
      | [d0, d1, d2], _ => rfl)
    (ChangeSpec.witness6 (enc := enc) (C := Try.checked) false ⟨#[], #[.slice none 0 0, .int .i64 0, .int .i64 0], []⟩ 8 (by kernel_rfl) (by kernel_rfl) (by kernel_rfl) (by kernel_rfl)) ?_
  intro W base args ds p hval0 hA0 _
  have hval : ∀ (j : Nat) t v, Try.f7.params[j]? = some t → args[j]? = some v → Value.okWide Try.prog W .any base t v := hval0
  have hA : DataW.TrodAll enc Try.prog W 0 (fun _ => true) true Try.f7.params.toList args.toList ds p := hA0
  clear hA0 hval0
  rw [Try.params7] at hA hval
  obtain ⟨v0, vs0, d0, ds0, p0, q0, hargs, rfl, rfl, h0, r0⟩ := trodAll_cons hA
  obtain ⟨v1, vs1, d1, ds1, p1, q1, rfl, rfl, rfl, h1, r1⟩ := trodAll_cons r0
  obtain ⟨v2, vs2, d2, ds2, p2, q2, rfl, rfl, rfl, h2, r2⟩ := trodAll_cons r1
  obtain ⟨rfl, rfl, rfl⟩ := trodAll_nil r2
  obtain rfl : args = #[v0, v1, v2] := by cases args; simp_all
  obtain ⟨A0, n0, c0, f0, rfl, x0, y0⟩ := slice_ints Try.underlying47 Try.underlying90 (by kernel_rfl) (by kernel_rfl) Try.underlying3 (by kernel_rfl) (hval 0 47 _ rfl rfl) h0
  obtain ⟨a1, rfl, rfl, _, x1⟩ := open_int Try.underlying3 (hval 1 3 _ rfl rfl) h1
  obtain ⟨a2, rfl, rfl, _, x2⟩ := open_int Try.underlying3 (hval 2 3 _ rfl rfl) h2
  exact walk A0 n0 c0 (fun i => f0 i 0) (fun i => f0 i 1) a1 a2 W x0 (src_pts y0) x1 x2

/-- The statement. -/
theorem proved : Rows.FnExactNewReachSaid :=
  OpenClaim.holds_of_wide 7 Try.f7 rfl rfl rfl rfl rfl rfl rfl ⟨rfl, rfl, rfl, rfl, rfl⟩ rfl rfl rfl rfl rfl (by kernel_rfl) Try.func7 (by kernel_rfl)
    (of_decide_eq_true (by kernel_rfl)) (by unfold Func.isWrapper; first | (rw [if_pos (by decide +kernel)]; kernel_rfl) | (rw [if_neg (by decide +kernel)]; exact ⟨rfl, rfl⟩))
    (fun os started H enc _ => lifted os started H enc)
#print axioms proved
end Go.Proofs.Ytglebakgnegogaa.fnExactNewReach
