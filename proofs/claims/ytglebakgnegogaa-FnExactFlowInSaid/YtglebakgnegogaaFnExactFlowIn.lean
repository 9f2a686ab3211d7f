/-
  For every input the Go function 'laws.FnExactFlowIn' returns true, and each argument reads afterwards as it read before. No further condition.
-/
import Derived.Test.YtglebakgnegogaaRchF
import Derived.Test.YtglebakgnegogaaOpenR
import Derived.Deep.RegionHeld3
import Derived.Test.YtglebakgnegogaaLift
import Derived.Test.YtglebakgnegogaaOpen
import Derived.ChangeMaps5
namespace Go.Proofs.Ytglebakgnegogaa.fnExactFlowIn
open Go.Proofs.Ytglebakgnegogaa.C1 Go.Proofs.Ytglebakgnegogaa.Lift Go.Proofs.Ytglebakgnegogaa.Opened
open Go.ChangeShapes Go.WideShapes Go.ChangeAt Go.RowKit Go.ChangeMaps
set_option linter.unusedVariables false

set_option maxRecDepth 100000 in
set_option maxHeartbeats 2000000 in
theorem walk (r : Rc) (A D : Option Addr) (c d : Nat) (w : World) (hArg : ArgR w r A D) :
    Calls Try.prog 14 #[.agg #[.slice A r.n c, .int .i64 r.v, .slice D r.m d]] w fun e w' => e = .returned (.bool true) ∧ Below w.heap.size w w' := by
  obtain ⟨n1, m1, v0, v1, hp, hd⟩ := hArg
  have HP := Lib.hid hp
  have HD := Lib.hid hd
  clear hp hd
  by_cases hbig : 1048576 < r.n + r.m
  · go_enter Try.func14, Try.ntmps14
    go_wp2_with fail
    refine (szReach_no _ _ _ _ _ _ _ _ _ (by omega) (by omega) n1 m1 (by omega)).mono ?_
    rintro e w1 ⟨rfl, hb1⟩
    have HB1 := Lib.hid (((Below.refl w.heap.size w).alloc (Nat.le_refl _) _).trans (hb1.mono (by simp)))
    clear hb1
    go_wp2
    go_ret
    exact ⟨rfl, HB1.out⟩
  have hn : r.n ≤ 1048576 := by omega
  have hm : r.m ≤ 1048576 := by omega
  have hs : (r.n : Int) + r.m ≤ 1048576 := by omega
  have hn' : (flowR r).n ≤ 1048576 := by have := (flowR_n r).1; omega
  have hm' : (flowR r).m ≤ 1048576 := by have := (flowR_n r).2; omega
  clear hbig
  have HB0 := Lib.hid (Below.refl w.heap.size w)
  go_enter Try.func14, Try.ntmps14
  go_wp2_with fail
  refine (szReach_yes _ _ _ _ _ _ _ _ _ (by omega) (by omega) hs).mono ?_
  rintro e w1 ⟨rfl, hb⟩
  have hb' := ((Below.refl w.heap.size w).alloc (Nat.le_refl _) (.cells #[.slice A r.n c, .int .i64 r.v, .slice D r.m d] 49)).trans (hb.mono (by simp))
  have s1 : w.heap.size < w1.heap.size := by have := hb.size; simp at this; omega
  have HB1 := Lib.hid (HB0.out.trans (hb'.mono HB0.out.size))
  have XA1 := Lib.hid ((Box.new w (.slice A r.n c) (.int .i64 r.v) (.slice D r.m d) 49).below hb)
  clear hb hb' HB0
  obtain ⟨XA_0, XA_1, XA_2⟩ := XA1.out.at
  have XA_l := XA1.out.lt
  go_wp2_with fail
  refine (toReach r _ _ _ _ _ hn hm (HP.out.below HB1.out) (HD.out.below HB1.out)).mono ?_
  rintro e w2 ⟨⟨A2, c2, D2, d2, g3, g4, rfl, hc2, ho⟩, hb⟩
  clear XA_0 XA_1 XA_2 XA_l
  have s2 : w1.heap.size ≤ w2.heap.size := hb.size
  have XA2 := Lib.hid (XA1.out.below hb)
  clear XA1
  have HB2 := Lib.hid (HB1.out.trans (hb.mono HB1.out.size))
  have O2_2 := Lib.hid ho
  clear ho
  clear hb HB1
  go_wp2_with fail
  refine (flow_spec r _ _ _ _ _ hn hm hc2 O2_2.out.pts O2_2.out.ints).mono ?_
  rintro e w3 ⟨⟨A3, c3, D3, d3, g5, g6, rfl, hc3, ho⟩, hb⟩
  have s3 : w2.heap.size ≤ w3.heap.size := hb.size
  have XA3 := Lib.hid (XA2.out.below hb)
  clear XA2
  have HB3 := Lib.hid (HB2.out.trans (hb.mono HB2.out.size))
  have OW3 := Lib.hid ho
  clear ho O2_2
  clear hb HB2
  obtain ⟨XA_0, XA_1, XA_2⟩ := XA3.out.at
  have XA_l := XA3.out.lt
  go_wp2_with fail
  refine (toReach r _ _ _ _ _ hn hm ((HP.out.below HB3.out).below ((Below.refl _ _).alloc (Nat.le_refl _) _)) ((HD.out.below HB3.out).below ((Below.refl _ _).alloc (Nat.le_refl _) _))).mono ?_
  rintro e w4 ⟨⟨A4, c4, D4, d4, g7, g8, rfl, hc4, ho⟩, hb⟩
  clear XA_0 XA_1 XA_2 XA_l
  have hb' := ((Below.refl w3.heap.size w3).alloc (Nat.le_refl _) (.cells #[.slice A3 (flowR r).n c3, .int .i64 (flowR r).v, .slice D3 (flowR r).m d3] 29)).trans (hb.mono (by simp))
  have s4 : w3.heap.size < w4.heap.size := by have := hb.size; simp at this; omega
  have XA4 := Lib.hid (XA3.out.below hb')
  clear XA3
  have OW4 := Lib.hid (OW3.out.below hb')
  clear OW3
  have HB4 := Lib.hid (HB3.out.trans (hb'.mono HB3.out.size))
  have XW4 := Lib.hid ((Box.new w3 (.slice A3 (flowR r).n c3) (.int .i64 (flowR r).v) (.slice D3 (flowR r).m d3) 29).below hb)
  simp only [World.size_alloc] at ho
  have OX4 := Lib.hid ho
  clear ho
  clear hb hb' HB3
  go_wp2_with fail
  refine (flow_impl r _ _ _ _ _ hn hm ((OX4.out.below ((Below.refl _ _).alloc (Nat.le_refl _) _))).pts ((OX4.out.below ((Below.refl _ _).alloc (Nat.le_refl _) _))).ints).mono ?_
  rintro e w5 ⟨⟨A5, c5, D5, d5, g9, g10, rfl, hc5, ho⟩, hb⟩
  have hb' := ((Below.refl w4.heap.size w4).alloc (Nat.le_refl _) (.cells #[.slice A4 r.n c4, .int .i64 r.v, .slice D4 r.m d4] 29)).trans (hb.mono (by simp))
  have s5 : w4.heap.size < w5.heap.size := by have := hb.size; simp at this; omega
  have XA5 := Lib.hid (XA4.out.below hb')
  clear XA4
  have OW5 := Lib.hid (OW4.out.below hb')
  clear OW4
  have XW5 := Lib.hid (XW4.out.below hb')
  clear XW4
  have OX5 := Lib.hid (OX4.out.below hb')
  clear OX4
  have HB5 := Lib.hid (HB4.out.trans (hb'.mono HB4.out.size))
  have XX5 := Lib.hid ((Box.new w4 (.slice A4 r.n c4) (.int .i64 r.v) (.slice D4 r.m d4) 29).below hb)
  simp only [World.size_alloc] at ho
  have OG5 := Lib.hid ho
  clear ho
  clear hb hb' HB4
  obtain ⟨XW_0, XW_1, XW_2⟩ := XW5.out.at
  have XW_l := XW5.out.lt
  go_wp2_with fail
  refine (eqReach (flowR r) _ _ _ _ _ _ _ _ _ hn' hm' (OG5.out.below ((Below.refl _ _).alloc (Nat.le_refl _) _)) (OW5.out.below ((Below.refl _ _).alloc (Nat.le_refl _) _))).mono ?_
  rintro e w6 ⟨rfl, hb⟩
  clear XW_0 XW_1 XW_2 XW_l
  have hb' := ((Below.refl w5.heap.size w5).alloc (Nat.le_refl _) (.cells #[.slice A5 (flowR r).n c5, .int .i64 (flowR r).v, .slice D5 (flowR r).m d5] 29)).trans (hb.mono (by simp))
  have s6 : w5.heap.size < w6.heap.size := by have := hb.size; simp at this; omega
  have XA6 := Lib.hid (XA5.out.below hb')
  clear XA5
  have OW6 := Lib.hid (OW5.out.below hb')
  clear OW5
  have XW6 := Lib.hid (XW5.out.below hb')
  clear XW5
  have OX6 := Lib.hid (OX5.out.below hb')
  clear OX5
  have XX6 := Lib.hid (XX5.out.below hb')
  clear XX5
  have OG6 := Lib.hid (OG5.out.below hb')
  clear OG5
  have HB6 := Lib.hid (HB5.out.trans (hb'.mono HB5.out.size))
  have XG6 := Lib.hid ((Box.new w5 (.slice A5 (flowR r).n c5) (.int .i64 (flowR r).v) (.slice D5 (flowR r).m d5) 29).below hb)
  clear hb hb' HB5
  obtain ⟨XX_0, XX_1, XX_2⟩ := XX6.out.at
  have XX_l := XX6.out.lt
  obtain ⟨XA_0, XA_1, XA_2⟩ := XA6.out.at
  have XA_l := XA6.out.lt
  go_wp2
  go_region_held3 (fun w' => w'.cell? ⟨w4.heap.size, 0, none⟩ = some (.slice A4 r.n c4) ∧ w'.cell? ⟨w4.heap.size, 1, none⟩ = some (.int .i64 r.v) ∧ w'.cell? ⟨w4.heap.size, 2, none⟩ = some (.slice D4 r.m d4) ∧ w'.cell? ⟨w.heap.size, 0, none⟩ = some (.slice A r.n c) ∧ w'.cell? ⟨w.heap.size, 1, none⟩ = some (.int .i64 r.v) ∧ w'.cell? ⟨w.heap.size, 2, none⟩ = some (.slice D r.m d) ∧ Below w6.heap.size w6 w')
    (first | exact ⟨XX_0, XX_1, XX_2, XA_0, XA_1, XA_2, Below.refl _ _⟩ | exact ⟨XX_0, XX_1, XX_2, XA_0, XA_1, XA_2, (Below.refl _ _).drew⟩ | assumption)
    (first
      | (go_at_call 35; obtain ⟨a0, a1, a2, a3, a4, a5, hb7⟩ : _ ∧ _ ∧ _ ∧ _ ∧ _ ∧ _ ∧ Below w6.heap.size w6 _ := by assumption
         refine (toReach r _ _ _ _ _ hn hm (HP.out.below (HB6.out.trans (hb7.mono HB6.out.size))) (HD.out.below (HB6.out.trans (hb7.mono HB6.out.size)))).mono ?_
         rintro e w' ⟨⟨A6, c6, D6, d6, ga, gb, rfl, hc6, ho6⟩, hb'⟩
         have HO6 := Lib.hid ho6
         have S1 := And.intro ((hb'.cell (cell_lt' a0)).trans a0) (And.intro ((hb'.cell (cell_lt' a1)).trans a1) (And.intro ((hb'.cell (cell_lt' a2)).trans a2) (And.intro ((hb'.cell (cell_lt' a3)).trans a3) (And.intro ((hb'.cell (cell_lt' a4)).trans a4) (And.intro ((hb'.cell (cell_lt' a5)).trans a5) (hb7.trans (hb'.mono hb7.size)))))))
         clear ho6 hb')
      | (go_at_call 36; obtain ⟨a0, a1, a2, a3, a4, a5, hb7⟩ : _ ∧ _ ∧ _ ∧ _ ∧ _ ∧ _ ∧ Below w6.heap.size w6 _ := by assumption
         refine (eqReach r _ _ _ _ _ _ _ _ _ hn hm (OX6.out.below hb7) HO6.out).mono ?_
         rintro e w' ⟨rfl, hb'⟩
         have S1 := And.intro ((hb'.cell (cell_lt' a0)).trans a0) (And.intro ((hb'.cell (cell_lt' a1)).trans a1) (And.intro ((hb'.cell (cell_lt' a2)).trans a2) (And.intro ((hb'.cell (cell_lt' a3)).trans a3) (And.intro ((hb'.cell (cell_lt' a4)).trans a4) (And.intro ((hb'.cell (cell_lt' a5)).trans a5) (hb7.trans (hb'.mono hb7.size)))))))
         clear hb'))
  obtain ⟨_, _, _, _, _, _, hb⟩ : _ ∧ _ ∧ _ ∧ _ ∧ _ ∧ _ ∧ Below w6.heap.size w6 _ := by assumption
  have q7 := hb.size
  have XA7 := Lib.hid (XA6.out.below hb)
  clear XA6
  have OW7 := Lib.hid (OW6.out.below hb)
  clear OW6
  have XW7 := Lib.hid (XW6.out.below hb)
  clear XW6
  have OX7 := Lib.hid (OX6.out.below hb)
  clear OX6
  have XX7 := Lib.hid (XX6.out.below hb)
  clear XX6
  have OG7 := Lib.hid (OG6.out.below hb)
  clear OG6
  have XG7 := Lib.hid (XG6.out.below hb)
  clear XG6
  have HB7 := Lib.hid (HB6.out.trans (hb.mono HB6.out.size))
  clear HB6
  clear XX_0 XX_1 XX_2 XX_l
  clear XA_0 XA_1 XA_2 XA_l
  obtain ⟨XX_0, XX_1, XX_2⟩ := XX7.out.at
  have XX_l := XX7.out.lt
  go_wp2_with fail
  refine (markReach r _ _ _ _ 1 _ hn hm (by omega) OX7.out (by omega)).mono ?_
  rintro e w8 ⟨rfl, ho, ht⟩
  clear XX_0 XX_1 XX_2 XX_l
  have s8 : w'.heap.size ≤ w8.heap.size := ht.size
  have XA8 := Lib.hid (XA7.out.touch ht (Or.inl (by omega)))
  clear XA7
  have OW8 := Lib.hid (OW7.out.touch ht (Or.inl (by omega)))
  clear OW7
  have XW8 := Lib.hid (XW7.out.touch ht (Or.inl (by omega)))
  clear XW7
  have XX8 := Lib.hid (XX7.out.touch ht (Or.inr (by omega)))
  clear XX7
  have OG8 := Lib.hid (OG7.out.touch ht (Or.inr (by omega)))
  clear OG7
  have XG8 := Lib.hid (XG7.out.touch ht (Or.inr (by omega)))
  clear XG7
  have HB8 := Lib.hid (ht.below HB7.out (by omega))
  clear ht HB7
  obtain ⟨XG_0, XG_1, XG_2⟩ := XG8.out.at
  have XG_l := XG8.out.lt
  obtain ⟨XW_0, XW_1, XW_2⟩ := XW8.out.at
  have XW_l := XW8.out.lt
  go_wp2_with fail
  refine (eqReach (flowR r) _ _ _ _ _ _ _ _ _ hn' hm' OG8.out OW8.out).mono ?_
  rintro e w9 ⟨rfl, hb⟩
  clear XG_0 XG_1 XG_2 XG_l
  clear XW_0 XW_1 XW_2 XW_l
  have s9 : w8.heap.size ≤ w9.heap.size := hb.size
  have XA9 := Lib.hid (XA8.out.below hb)
  clear XA8
  have OW9 := Lib.hid (OW8.out.below hb)
  clear OW8
  have XW9 := Lib.hid (XW8.out.below hb)
  clear XW8
  have XX9 := Lib.hid (XX8.out.below hb)
  clear XX8
  have OG9 := Lib.hid (OG8.out.below hb)
  clear OG8
  have XG9 := Lib.hid (XG8.out.below hb)
  clear XG8
  have HB9 := Lib.hid (HB8.out.trans (hb.mono HB8.out.size))
  clear hb HB8
  obtain ⟨XG_0, XG_1, XG_2⟩ := XG9.out.at
  have XG_l := XG9.out.lt
  go_wp2_with fail
  refine (markReach (flowR r) _ _ _ _ 1 _ hn' hm' (by omega) OG9.out (by omega)).mono ?_
  rintro e w10 ⟨rfl, ho, ht⟩
  clear XG_0 XG_1 XG_2 XG_l
  have s10 : w9.heap.size ≤ w10.heap.size := ht.size
  have XA10 := Lib.hid (XA9.out.touch ht (Or.inl (by omega)))
  clear XA9
  have OW10 := Lib.hid (OW9.out.touch ht (Or.inl (by omega)))
  clear OW9
  have XW10 := Lib.hid (XW9.out.touch ht (Or.inl (by omega)))
  clear XW9
  have XX10 := Lib.hid (XX9.out.touch ht (Or.inl (by omega)))
  clear XX9
  have XG10 := Lib.hid (XG9.out.touch ht (Or.inr (by omega)))
  clear XG9
  have HB10 := Lib.hid (ht.below HB9.out (by omega))
  have OM10 := Lib.hid ho
  clear ho
  clear ht HB9
  obtain ⟨XG_0, XG_1, XG_2⟩ := XG10.out.at
  have XG_l := XG10.out.lt
  go_wp2_with fail
  refine (heldReach (flowR r) _ _ _ _ 1 _ _ hn' hm' (by omega) OM10.out).mono ?_
  rintro e w11 ⟨rfl, hb⟩
  clear XG_0 XG_1 XG_2 XG_l
  have s11 : w10.heap.size ≤ w11.heap.size := hb.size
  have XA11 := Lib.hid (XA10.out.below hb)
  clear XA10
  have OW11 := Lib.hid (OW10.out.below hb)
  clear OW10
  have XW11 := Lib.hid (XW10.out.below hb)
  clear XW10
  have XX11 := Lib.hid (XX10.out.below hb)
  clear XX10
  have XG11 := Lib.hid (XG10.out.below hb)
  clear XG10
  have OM11 := Lib.hid (OM10.out.below hb)
  clear OM10
  have HB11 := Lib.hid (HB10.out.trans (hb.mono HB10.out.size))
  clear hb HB10
  obtain ⟨XA_0, XA_1, XA_2⟩ := XA11.out.at
  have XA_l := XA11.out.lt
  go_wp2_with fail
  refine (toReach r _ _ _ _ _ hn hm (HP.out.below HB11.out) (HD.out.below HB11.out)).mono ?_
  rintro e w12 ⟨⟨A7, c7, D7, d7, gc, gd, rfl, hc7, ho⟩, hb⟩
  clear XA_0 XA_1 XA_2 XA_l
  have s12 : w11.heap.size ≤ w12.heap.size := hb.size
  have XA12 := Lib.hid (XA11.out.below hb)
  clear XA11
  have OW12 := Lib.hid (OW11.out.below hb)
  clear OW11
  have XW12 := Lib.hid (XW11.out.below hb)
  clear XW11
  have XX12 := Lib.hid (XX11.out.below hb)
  clear XX11
  have XG12 := Lib.hid (XG11.out.below hb)
  clear XG11
  have OM12 := Lib.hid (OM11.out.below hb)
  clear OM11
  have HB12 := Lib.hid (HB11.out.trans (hb.mono HB11.out.size))
  have O7_12 := Lib.hid ho
  clear ho
  clear hb HB11
  go_wp2_with fail
  refine (flow_impl r _ _ _ _ _ hn hm (O7_12.out).pts (O7_12.out).ints).mono ?_
  rintro e w13 ⟨⟨A8, c8, D8, d8, ge, gf, rfl, hc8, ho⟩, hb⟩
  have s13 : w12.heap.size ≤ w13.heap.size := hb.size
  have XA13 := Lib.hid (XA12.out.below hb)
  clear XA12
  have OW13 := Lib.hid (OW12.out.below hb)
  clear OW12
  have XW13 := Lib.hid (XW12.out.below hb)
  clear XW12
  have XX13 := Lib.hid (XX12.out.below hb)
  clear XX12
  have XG13 := Lib.hid (XG12.out.below hb)
  clear XG12
  have OM13 := Lib.hid (OM12.out.below hb)
  clear OM12
  have HB13 := Lib.hid (HB12.out.trans (hb.mono HB12.out.size))
  have OH13 := Lib.hid ho
  clear ho
  clear hb HB12
  obtain ⟨XW_0, XW_1, XW_2⟩ := XW13.out.at
  have XW_l := XW13.out.lt
  go_wp2_with fail
  refine (eqReach (flowR r) _ _ _ _ _ _ _ _ _ hn' hm' (OH13.out.below ((Below.refl _ _).alloc (Nat.le_refl _) _)) (OW13.out.below ((Below.refl _ _).alloc (Nat.le_refl _) _))).mono ?_
  rintro e w14 ⟨rfl, hb⟩
  clear XW_0 XW_1 XW_2 XW_l
  have hb' := ((Below.refl w13.heap.size w13).alloc (Nat.le_refl _) (.cells #[.slice A8 (flowR r).n c8, .int .i64 (flowR r).v, .slice D8 (flowR r).m d8] 29)).trans (hb.mono (by simp))
  have s14 : w13.heap.size < w14.heap.size := by have := hb.size; simp at this; omega
  have XA14 := Lib.hid (XA13.out.below hb')
  clear XA13
  have OW14 := Lib.hid (OW13.out.below hb')
  clear OW13
  have XW14 := Lib.hid (XW13.out.below hb')
  clear XW13
  have XX14 := Lib.hid (XX13.out.below hb')
  clear XX13
  have XG14 := Lib.hid (XG13.out.below hb')
  clear XG13
  have OM14 := Lib.hid (OM13.out.below hb')
  clear OM13
  have OH14 := Lib.hid (OH13.out.below hb')
  clear OH13
  have HB14 := Lib.hid (HB13.out.trans (hb'.mono HB13.out.size))
  have XH14 := Lib.hid ((Box.new w13 (.slice A8 (flowR r).n c8) (.int .i64 (flowR r).v) (.slice D8 (flowR r).m d8) 29).below hb)
  clear hb hb' HB13
  obtain ⟨XG_0, XG_1, XG_2⟩ := XG14.out.at
  have XG_l := XG14.out.lt
  go_wp2_with fail
  refine (heldReach (flowR r) _ _ _ _ 1 _ _ hn' hm' (by omega) OM14.out).mono ?_
  rintro e w15 ⟨rfl, hb⟩
  clear XG_0 XG_1 XG_2 XG_l
  have s15 : w14.heap.size ≤ w15.heap.size := hb.size
  have XA15 := Lib.hid (XA14.out.below hb)
  clear XA14
  have OW15 := Lib.hid (OW14.out.below hb)
  clear OW14
  have XW15 := Lib.hid (XW14.out.below hb)
  clear XW14
  have XX15 := Lib.hid (XX14.out.below hb)
  clear XX14
  have XG15 := Lib.hid (XG14.out.below hb)
  clear XG14
  have OM15 := Lib.hid (OM14.out.below hb)
  clear OM14
  have OH15 := Lib.hid (OH14.out.below hb)
  clear OH14
  have XH15 := Lib.hid (XH14.out.below hb)
  clear XH14
  have HB15 := Lib.hid (HB14.out.trans (hb.mono HB14.out.size))
  clear hb HB14
  go_wp2
  go_ret
  exact ⟨rfl, HB15.out⟩

theorem parOk : Try.f14.params.toList.all (fun t => Try.prog.readableRec t && decide (t < Try.prog.types.size)) = true := by kernel_rfl
set_option maxRecDepth 100000 in
theorem lifted (os : Os) (started : os.Started) (H : Type) (enc : TypeId × Value → H) :
    ReturnsInHanded {} Try.checked os 14 .any (Rows.fnExactFlowInSpec.pre6 enc Try.prog Try.f14 Rows.fnExactFlowInRow.domain false) (Rows.fnExactFlowInSpec.post enc Try.prog Try.f14 false true false false) := by
  refine law_lifted (C := Try.checked) own started (by kernel_rfl) Try.func14 laid (fun t ht => by
      have h := List.all_eq_true.1 parOk t ht
      rw [Bool.and_eq_true] at h
      exact ⟨h.1, of_decide_eq_true h.2⟩) rfl Try.underlying4 rfl
    (fun xs hx => by
      rw [show Try.f14.params.toList.length = 1 from by rw [Try.params14]; rfl] at hx
      match xs, hx with
      | [d0], _ => rfl)
    (ChangeSpec.witness6 (enc := enc) (C := Try.checked) false ⟨#[], #[.agg #[.slice none 0 0, .int .i64 0, .slice none 0 0]], []⟩ 8 (by kernel_rfl) (by kernel_rfl) (by kernel_rfl) (by kernel_rfl)) ?_
  intro W base args ds p hval0 hA0 _
  have hval : ∀ (j : Nat) t v, Try.f14.params[j]? = some t → args[j]? = some v → Value.okWide Try.prog W .any base t v := hval0
  have hA : DataW.TrodAll enc Try.prog W 0 (fun _ => true) true Try.f14.params.toList args.toList ds p := hA0
  clear hA0 hval0
  rw [Try.params14] at hA hval
  obtain ⟨v0, vs0, d0, ds0, p0, q0, hargs, rfl, rfl, h0, r0⟩ := trodAll_cons hA
  obtain ⟨rfl, rfl, rfl⟩ := trodAll_nil r0
  obtain rfl : args = #[v0] := by cases args; simp_all
  obtain ⟨rc0, A0, D0, c0, e0, rfl, x0⟩ := open_reach (hval 0 49 _ rfl rfl) h0
  exact walk rc0 A0 D0 c0 e0 W x0

/-- The statement. -/
theorem proved : Rows.FnExactFlowInSaid :=
  OpenClaim.holds_of_wide 14 Try.f14 rfl rfl rfl rfl rfl rfl rfl ⟨rfl, rfl, rfl, rfl, rfl⟩ rfl rfl rfl rfl rfl (by kernel_rfl) Try.func14 (by kernel_rfl)
    (of_decide_eq_true (by kernel_rfl)) (by unfold Func.isWrapper; first | (rw [if_pos (by decide +kernel)]; kernel_rfl) | (rw [if_neg (by decide +kernel)]; exact ⟨rfl, rfl⟩))
    (fun os started H enc _ => lifted os started H enc)
#print axioms proved
end Go.Proofs.Ytglebakgnegogaa.fnExactFlowIn
