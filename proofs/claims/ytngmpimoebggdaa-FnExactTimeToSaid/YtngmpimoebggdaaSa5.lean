/- The time of a mover: of the model. -/
import Derived.Test.YtngmpimoebggdaaSa4
namespace Go.Proofs.Ytngmpimoebggdaa.C1
open Go.ChangeShapes Go.WideShapes Go.ChangeAt Go.RowKit
set_option linter.unusedVariables false
set_option linter.unusedSimpArgs false

theorem timS_cases (C : Mv) (Y : Wy) (r : Rc) : (mvB C Y = false ∧ timZ C Y r = -1) ∨ (mvB C Y = true ∧ rOk r = false ∧ timZ C Y r = -1) ∨ (mvB C Y = true ∧ rOk r = true ∧ timZ C Y r = if lefZ C Y = 0 then 0 else if pacZ C.T (depZ Y r) = 0 then -1 else (lefZ C Y + pacZ C.T (depZ Y r) - 1) / pacZ C.T (depZ Y r)) := by
  cases h : mvB C Y with
  | false => exact Or.inl ⟨rfl, tim_no (by unfold mayS; rw [h]; rfl)⟩
  | true =>
    cases h2 : rOk r with
    | false => exact Or.inr (Or.inl ⟨rfl, rfl, tim_no (by unfold mayS; rw [h2, Bool.and_false])⟩)
    | true => exact Or.inr (Or.inr ⟨rfl, rfl, by unfold timZ; rw [show mayS C Y r = true from by unfold mayS; rw [h, h2]; rfl, if_pos rfl]⟩)
set_option maxRecDepth 100000 in
set_option maxHeartbeats 8000000 in
theorem timeto_spec (C : Mv) (A : Option Addr) (c : Nat) (Y : Wy) (r : Rc) (B D : Option Addr) (b d : Nat) (w : World) (hmt : Mod C.T) (ht : Trn w A C.T) (hn : r.n ≤ 1048576) (hm : r.m ≤ 1048576) (hp : Pts w B r.n r.X r.Y) (hd : Ints w D r.m r.Z) :
    Calls Try.prog 28 #[.agg #[.bool C.up, .slice A C.T.length c, .int .i64 C.p], .agg #[.int .i64 Y.l, .int .i64 Y.b], .agg #[.slice B r.n b, .int .i64 r.v, .slice D r.m d]] w (AnsI w (timZ C Y r)) := by
  obtain ⟨hX, hB⟩ := mwr_new C A c Y r B D b d w ht hp hd
  have HB0 := vl hB
  have HX0 := vl hX
  have HM := vl hmt
  have HOk := vl (fun (w : World) (hr : Pts w B r.n r.X r.Y) (hd : Ints w D r.m r.Z) => ok_spec r B D b d w hn hm hr hd)
  obtain ⟨x0, x1, x2, y0, y1, z0, z1, z2⟩ := hX.at
  clear hX hB ht hp hd hmt
  generalize hW : ((w.alloc (.cells #[.bool C.up, .slice A C.T.length c, .int .i64 C.p] 40)).alloc (.cells #[.int .i64 Y.l, .int .i64 Y.b] 42)).alloc (.cells #[.slice B r.n b, .int .i64 r.v, .slice D r.m d] 54) = W at *
  rcases timS_cases C Y r with ⟨h, hs⟩ | ⟨h, h1, hs⟩ | ⟨h, h1, hs⟩
  · have HS := vl hs
    have H0 := vl h
    clear h hs HOk
    go_enter Try.func28, Try.ntmps28
    go_wp2_with fail
    try rw [hW]
    clear hW
    refine (mvok_spec C A c Y _ HM.out HX0.out.tr).mono ?_
    rintro e w1 ⟨rfl, hb1⟩
    rw [H0.out]
    have HB1 := vl (HB0.out.trans (hb1.mono HB0.out.size))
    clear hb1 x0 x1 x2 y0 y1 z0 z1 z2
    go_wp2
    go_ret
    exact ⟨ret_int HS.out.symm, HB1.out⟩
  · have HS := vl hs
    have H0 := vl h
    rw [h1] at HOk
    clear h hs h1
    go_enter Try.func28, Try.ntmps28
    go_wp2_with fail
    try rw [hW]
    clear hW
    refine (mvok_spec C A c Y _ HM.out HX0.out.tr).mono ?_
    rintro e w1 ⟨rfl, hb1⟩
    rw [H0.out]
    have HB1 := vl (HB0.out.trans (hb1.mono HB0.out.size))
    have HX1 := vl (HX0.out.below hb1)
    clear hb1 x0 x1 x2 y0 y1 z0 z1 z2
    obtain ⟨x0, x1, x2, y0, y1, z0, z1, z2⟩ := HX1.out.at
    go_wp2_with fail
    refine (HOk.out _ HX1.out.pt HX1.out.dl).mono ?_
    rintro e w2 ⟨rfl, hb2⟩
    have HB2 := vl (HB1.out.trans (hb2.mono HB1.out.size))
    clear hb2 x0 x1 x2 y0 y1 z0 z1 z2
    go_wp2
    go_ret
    exact ⟨ret_int HS.out.symm, HB2.out⟩
  · rw [h1] at HOk
    have H0 := vl h
    have pb := pacZ_bd C.T (depZ Y r)
    obtain ⟨pc, hpc⟩ : ∃ pc, pacZ C.T (depZ Y r) = pc := ⟨_, rfl⟩
    have HPc := vl (fun (w : World) (ht : Trn w A C.T) => by have h := pace_spec C.up A c C.T (depZ Y r) w HM.out ht; rw [hpc] at h; exact h)
    rw [hpc] at pb hs
    obtain ⟨p0, p1⟩ := pb
    obtain ⟨mw, mt, mp0, mp1⟩ := mvB_iff.1 h
    have ml := (wyB_iff.1 mw).l1
    have HDp := vl (fun (w : World) (hr : Pts w B r.n r.X r.Y) (hd : Ints w D r.m r.Z) => depin_spec Y r B D b d w hn hm hr hd)
    have HL := vl (show lefZ C Y = if C.up = true then C.p else Y.l - C.p from rfl)
    clear h h1 hpc mw mt
    have hu : C.up = false ∨ C.up = true := by cases C.up <;> simp
    rcases hu with hu | hu
    all_goals
      have HU := vl hu
      have hs' := hs
      rw [HL.out, hu] at hs'
      simp only [Bool.false_eq_true, if_false, if_true] at hs'
      have HS := vl hs'
      clear hs hs' hu HL
      go_enter Try.func28, Try.ntmps28
      go_wp2_with fail
      try rw [hW]
      clear hW
      refine (mvok_spec C A c Y _ HM.out HX0.out.tr).mono ?_
      rintro e w1 ⟨rfl, hb1⟩
      rw [H0.out]
      have HB1 := vl (HB0.out.trans (hb1.mono HB0.out.size))
      have HX1 := vl (HX0.out.below hb1)
      clear hb1 x0 x1 x2 y0 y1 z0 z1 z2
      obtain ⟨x0, x1, x2, y0, y1, z0, z1, z2⟩ := HX1.out.at
      go_wp2_with fail
      refine (HOk.out _ HX1.out.pt HX1.out.dl).mono ?_
      rintro e w2 ⟨rfl, hb2⟩
      have HB2 := vl (HB1.out.trans (hb2.mono HB1.out.size))
      have HX2 := vl (HX1.out.below hb2)
      clear hb2 x0 x1 x2 y0 y1 z0 z1 z2
      obtain ⟨x0, x1, x2, y0, y1, z0, z1, z2⟩ := HX2.out.at
      rw [HU.out] at x0
      go_wp2
      go_region_held3 (fun w' => w'.cell? ⟨w.heap.size, 0, none⟩ = some (.bool C.up) ∧ w'.cell? ⟨w.heap.size, 1, none⟩ = some (.slice A C.T.length c) ∧ w'.cell? ⟨w.heap.size, 2, none⟩ = some (.int .i64 C.p) ∧ w'.cell? ⟨w.heap.size + 1, 0, none⟩ = some (.int .i64 Y.l) ∧ w'.cell? ⟨w.heap.size + 1, 1, none⟩ = some (.int .i64 Y.b) ∧ w'.cell? ⟨w.heap.size + 1 + 1, 0, none⟩ = some (.slice B r.n b) ∧ w'.cell? ⟨w.heap.size + 1 + 1, 1, none⟩ = some (.int .i64 r.v) ∧ w'.cell? ⟨w.heap.size + 1 + 1, 2, none⟩ = some (.slice D r.m d) ∧ Below w2.heap.size w2 w')
        (first | exact ⟨x0.trans (by rw [HU.out]), x1, x2, y0, y1, z0, z1, z2, Below.refl _ _⟩ | exact ⟨x0.trans (by rw [HU.out]), x1, x2, y0, y1, z0, z1, z2, (Below.refl _ _).drew⟩ | assumption)
        (first
          | (go_at_call 80; obtain ⟨_, _, _, _, _, _, _, _, hb7⟩ : _ ∧ _ ∧ _ ∧ _ ∧ _ ∧ _ ∧ _ ∧ _ ∧ Below w2.heap.size w2 _ := by assumption
             refine (HDp.out _ (HX2.out.pt.below hb7) (HX2.out.dl.below hb7)).mono ?_
             rintro en w' ⟨rfl, hb'⟩
             have S1 := (HX2.out.below hb7).cells hb7 hb'
             clear hb')
          | (go_at_call 15; obtain ⟨_, _, _, _, _, _, _, _, hb7⟩ : _ ∧ _ ∧ _ ∧ _ ∧ _ ∧ _ ∧ _ ∧ _ ∧ Below w2.heap.size w2 _ := by assumption
             refine (HPc.out _ (HX2.out.tr.below hb7)).mono ?_
             rintro en w' ⟨rfl, hb'⟩
             have S2 := (HX2.out.below hb7).cells hb7 hb'
             clear hb'))
      obtain ⟨_, _, _, _, _, _, _, _, hb9⟩ : _ ∧ _ ∧ _ ∧ _ ∧ _ ∧ _ ∧ _ ∧ _ ∧ Below w2.heap.size w2 _ := by assumption
      have HB9 := vl (HB2.out.trans (hb9.mono HB2.out.size))
      clear hb9 S1 S2 x0 x1 x2 y0 y1 z0 z1 z2
    · obtain ⟨lf, hlf⟩ : ∃ lf, Y.l - C.p = lf := ⟨_, rfl⟩
      rw [hlf] at HS
      have hwl : IntKind.i64.wrap (Y.l - C.p) = lf := by rw [← hlf]; exact IntWalk.i64_in _ (by omega)
      have lf0 : 0 ≤ lf := by omega
      have lf1 : lf ≤ 10000 := by omega
      simp only [hlf]
      by_cases h1 : lf = 0
      · subst h1
        have HS' : Veil (timZ C Y r = 0) := vl (HS.out.trans (if_pos rfl))
        go_wp2
        go_ret
        exact ⟨ret_int HS'.out.symm, HB9.out⟩
      · have h1' : (lf == 0) = false := beq_eq_false_iff_ne.2 h1
        by_cases h2 : pc = 0
        · subst h2
          have HS' : Veil (timZ C Y r = -1) := vl (HS.out.trans (by rw [if_neg h1, if_pos rfl]))
          go_wp2
          go_ret
          exact ⟨ret_int HS'.out.symm, HB9.out⟩
        · have h2' : (pc == 0) = false := beq_eq_false_iff_ne.2 h2
          have HS' : Veil (timZ C Y r = (lf + pc - 1) / pc) := vl (HS.out.trans (by rw [if_neg h1, if_neg h2]))
          have hq0 : 0 ≤ (lf + pc - 1) / pc := Int.ediv_nonneg (by omega) p0
          have hq1 : (lf + pc - 1) / pc ≤ lf + pc - 1 := Int.ediv_le_self _ (by omega)
          obtain ⟨qq, hqq⟩ : ∃ qq, (lf + pc - 1) / pc = qq := ⟨_, rfl⟩
          have HQ := vl (show IntKind.i64.wrap ((lf + pc - 1) / pc) = (lf + pc - 1) / pc by rw [hqq] at hq0 hq1 ⊢; exact IntWalk.i64_in _ (by omega))
          clear hq0 hq1 hqq
          go_wp2
          go_ret
          exact ⟨ret_int (HS'.out.trans (by first | rfl | exact HQ.out.symm)).symm, HB9.out⟩
    · obtain ⟨lf, hlf⟩ : ∃ lf, C.p = lf := ⟨_, rfl⟩
      rw [hlf] at HS mp0 mp1
      simp only [hlf]
      by_cases h1 : lf = 0
      · subst h1
        have HS' : Veil (timZ C Y r = 0) := vl (HS.out.trans (if_pos rfl))
        go_wp2
        go_ret
        exact ⟨ret_int HS'.out.symm, HB9.out⟩
      · have h1' : (lf == 0) = false := beq_eq_false_iff_ne.2 h1
        by_cases h2 : pc = 0
        · subst h2
          have HS' : Veil (timZ C Y r = -1) := vl (HS.out.trans (by rw [if_neg h1, if_pos rfl]))
          go_wp2
          go_ret
          exact ⟨ret_int HS'.out.symm, HB9.out⟩
        · have h2' : (pc == 0) = false := beq_eq_false_iff_ne.2 h2
          have HS' : Veil (timZ C Y r = (lf + pc - 1) / pc) := vl (HS.out.trans (by rw [if_neg h1, if_neg h2]))
          have hq0 : 0 ≤ (lf + pc - 1) / pc := Int.ediv_nonneg (by omega) p0
          have hq1 : (lf + pc - 1) / pc ≤ lf + pc - 1 := Int.ediv_le_self _ (by omega)
          obtain ⟨qq, hqq⟩ : ∃ qq, (lf + pc - 1) / pc = qq := ⟨_, rfl⟩
          have HQ := vl (show IntKind.i64.wrap ((lf + pc - 1) / pc) = (lf + pc - 1) / pc by rw [hqq] at hq0 hq1 ⊢; exact IntWalk.i64_in _ (by omega))
          clear hq0 hq1 hqq
          go_wp2
          go_ret
          exact ⟨ret_int (HS'.out.trans (by first | rfl | exact HQ.out.symm)).symm, HB9.out⟩
end Go.Proofs.Ytngmpimoebggdaa.C1
