/- Whether a mover may sail, its pace as a function value, and its time: of the program and of its model. -/
import Derived.Test.YtngmpimoebggdaaSa3
namespace Go.Proofs.Ytngmpimoebggdaa.C1
open Go.ChangeShapes Go.WideShapes Go.ChangeAt Go.RowKit
set_option linter.unusedVariables false
set_option linter.unusedSimpArgs false

/-- The boxes of a mover, a way and a reach. -/
structure MWR (w : World) (p : Nat) (C : Mv) (A : Option Addr) (c : Nat) (q : Nat) (Y : Wy) (s : Nat) (r : Rc) (B D : Option Addr) (b d : Nat) : Prop where
  bm : MBox w p C A c 40
  bw : WBox w q Y 42
  br : Box w s (.slice B r.n b) (.int .i64 r.v) (.slice D r.m d) 54
  tr : Trn w A C.T
  pt : Pts w B r.n r.X r.Y
  dl : Ints w D r.m r.Z
theorem MWR.below {w w' : World} {p q s c b d : Nat} {C : Mv} {A B D : Option Addr} {Y : Wy} {r : Rc} (h : MWR w p C A c q Y s r B D b d) (hb : Below w.heap.size w w') : MWR w' p C A c q Y s r B D b d :=
  ⟨h.bm.below hb, h.bw.below hb, h.br.below hb, h.tr.below hb, h.pt.below hb, h.dl.below hb⟩
theorem MWR.at {w : World} {p q s c b d : Nat} {C : Mv} {A B D : Option Addr} {Y : Wy} {r : Rc} (h : MWR w p C A c q Y s r B D b d) :
    w.cell? ⟨p, 0, none⟩ = some (.bool C.up) ∧ w.cell? ⟨p, 1, none⟩ = some (.slice A C.T.length c) ∧ w.cell? ⟨p, 2, none⟩ = some (.int .i64 C.p) ∧ w.cell? ⟨q, 0, none⟩ = some (.int .i64 Y.l) ∧ w.cell? ⟨q, 1, none⟩ = some (.int .i64 Y.b) ∧ w.cell? ⟨s, 0, none⟩ = some (.slice B r.n b) ∧ w.cell? ⟨s, 1, none⟩ = some (.int .i64 r.v) ∧ w.cell? ⟨s, 2, none⟩ = some (.slice D r.m d) :=
  ⟨h.bm.at.1, h.bm.at.2.1, h.bm.at.2.2, h.bw.at.1, h.bw.at.2, h.br.at.1, h.br.at.2.1, h.br.at.2.2⟩
theorem MWR.cells {W w w' : World} {p q s c b d : Nat} {C : Mv} {A B D : Option Addr} {Y : Wy} {r : Rc} (h : MWR w p C A c q Y s r B D b d) (hb : Below W.heap.size W w) (hb' : Below w.heap.size w w') :
    w'.cell? ⟨p, 0, none⟩ = some (.bool C.up) ∧ w'.cell? ⟨p, 1, none⟩ = some (.slice A C.T.length c) ∧ w'.cell? ⟨p, 2, none⟩ = some (.int .i64 C.p) ∧ w'.cell? ⟨q, 0, none⟩ = some (.int .i64 Y.l) ∧ w'.cell? ⟨q, 1, none⟩ = some (.int .i64 Y.b) ∧ w'.cell? ⟨s, 0, none⟩ = some (.slice B r.n b) ∧ w'.cell? ⟨s, 1, none⟩ = some (.int .i64 r.v) ∧ w'.cell? ⟨s, 2, none⟩ = some (.slice D r.m d) ∧ Below W.heap.size W w' := by
  obtain ⟨a0, a1, a2, a3, a4, a5, a6, a7⟩ := (h.below hb').at
  exact ⟨a0, a1, a2, a3, a4, a5, a6, a7, hb.trans (hb'.mono hb.size)⟩
theorem mwr_new (C : Mv) (A : Option Addr) (c : Nat) (Y : Wy) (r : Rc) (B D : Option Addr) (b d : Nat) (w : World) (ht : Trn w A C.T) (hp : Pts w B r.n r.X r.Y) (hd : Ints w D r.m r.Z) :
    MWR (((w.alloc (.cells #[.bool C.up, .slice A C.T.length c, .int .i64 C.p] 40)).alloc (.cells #[.int .i64 Y.l, .int .i64 Y.b] 42)).alloc (.cells #[.slice B r.n b, .int .i64 r.v, .slice D r.m d] 54)) w.heap.size C A c (w.heap.size + 1) Y (w.heap.size + 1 + 1) r B D b d ∧ Below w.heap.size w (((w.alloc (.cells #[.bool C.up, .slice A C.T.length c, .int .i64 C.p] 40)).alloc (.cells #[.int .i64 Y.l, .int .i64 Y.b] 42)).alloc (.cells #[.slice B r.n b, .int .i64 r.v, .slice D r.m d] 54)) := by
  obtain ⟨h1, h2, h3⟩ := mw_new C A c Y w
  have hb := h3.alloc (by simp; omega) (.cells #[.slice B r.n b, .int .i64 r.v, .slice D r.m d] 54)
  refine ⟨⟨h1.alloc _, h2.alloc _, ?_, ht.below hb, hp.below hb, hd.below hb⟩, hb⟩
  have h := Box.new ((w.alloc (.cells #[.bool C.up, .slice A C.T.length c, .int .i64 C.p] 40)).alloc (.cells #[.int .i64 Y.l, .int .i64 Y.b] 42)) (.slice B r.n b) (.int .i64 r.v) (.slice D r.m d) 54
  simpa using h
theorem tim_cases (C : Mv) (Y : Wy) (r : Rc) : (mayS C Y r = false ∧ timZ C Y r = -1) ∨ (mayS C Y r = true ∧ lefZ C Y = 0 ∧ timZ C Y r = 0) ∨ (mayS C Y r = true ∧ lefZ C Y ≠ 0 ∧ pacC C.T (depZ Y r) = 0 ∧ timZ C Y r = -1) ∨
    (mayS C Y r = true ∧ lefZ C Y ≠ 0 ∧ pacC C.T (depZ Y r) ≠ 0 ∧ timZ C Y r = (lefZ C Y + pacC C.T (depZ Y r) - 1) / pacC C.T (depZ Y r)) := by
  have hd := dep_bd Y r
  cases h : mayS C Y r with
  | false => exact Or.inl ⟨rfl, tim_no h⟩
  | true =>
    have hp : pacZ C.T (depZ Y r) = pacC C.T (depZ Y r) := pac_yes (mvB_iff.1 (may_yes h).1).t (inB_yes hd.1 hd.2)
    have ht : timZ C Y r = if lefZ C Y = 0 then 0 else if pacC C.T (depZ Y r) = 0 then -1 else (lefZ C Y + pacC C.T (depZ Y r) - 1) / pacC C.T (depZ Y r) := by unfold timZ; rw [h, if_pos rfl, hp]
    by_cases h1 : lefZ C Y = 0
    · exact Or.inr (Or.inl ⟨rfl, h1, by rw [ht, if_pos h1]⟩)
    · by_cases h2 : pacC C.T (depZ Y r) = 0
      · exact Or.inr (Or.inr (Or.inl ⟨rfl, h1, h2, by rw [ht, if_neg h1, if_pos h2]⟩))
      · exact Or.inr (Or.inr (Or.inr ⟨rfl, h1, h2, by rw [ht, if_neg h1, if_neg h2]⟩))
theorem quo_s {a b : Int} (h : 0 ≤ a) (_ : 0 < b) : Int.tdiv a b = a / b := Int.tdiv_eq_ediv_of_nonneg h
set_option maxHeartbeats 2000000 in
theorem maysail (C : Mv) (A : Option Addr) (c : Nat) (Y : Wy) (r : Rc) (B D : Option Addr) (b d : Nat) (w : World) (hmt : Mod C.T) (ht : Trn w A C.T) (hn : r.n ≤ 1048576) (hm : r.m ≤ 1048576) (hp : Pts w B r.n r.X r.Y) (hd : Ints w D r.m r.Z) :
    Calls Try.prog 82 #[.agg #[.bool C.up, .slice A C.T.length c, .int .i64 C.p], .agg #[.int .i64 Y.l, .int .i64 Y.b], .agg #[.slice B r.n b, .int .i64 r.v, .slice D r.m d]] w (AnsB w (mayS C Y r)) := by
  obtain ⟨hX, hB⟩ := mwr_new C A c Y r B D b d w ht hp hd
  have HB0 := vl hB
  have HX0 := vl hX
  have HM := vl hmt
  have H := vl (show mayS C Y r = (mvB C Y && rOk r) from rfl)
  obtain ⟨x0, x1, x2, y0, y1, z0, z1, z2⟩ := hX.at
  clear hX hB ht hp hd hmt
  generalize hW : ((w.alloc (.cells #[.bool C.up, .slice A C.T.length c, .int .i64 C.p] 40)).alloc (.cells #[.int .i64 Y.l, .int .i64 Y.b] 42)).alloc (.cells #[.slice B r.n b, .int .i64 r.v, .slice D r.m d] 54) = W at *
  cases h0 : mvB C Y <;> cases h1 : rOk r
  all_goals
    have H' := vl (H.out.trans (by rw [h0, h1]))
    have H0 := vl h0
    have H1 := vl h1
    clear H h0 h1
    go_enter Try.func82, Try.ntmps82
    go_wp2_with fail
    try rw [hW]
    clear hW
    refine (mvok_impl C A c Y _ HM.out HX0.out.tr).mono ?_
    rintro e w1 ⟨rfl, hb1⟩
    rw [H0.out]
    have HB1 := vl (HB0.out.trans (hb1.mono HB0.out.size))
    have HX1 := vl (HX0.out.below hb1)
    clear hb1 x0 x1 x2 y0 y1 z0 z1 z2
    obtain ⟨z0, z1, z2⟩ := HX1.out.br.at
    go_wp2_with (go_at_call 156; refine (ok_impl r B D b d _ hn hm HX1.out.pt HX1.out.dl).mono ?_; rintro e w2 ⟨rfl, hb2⟩; rw [H1.out]; have HB2 := vl (HB1.out.trans (hb2.mono HB1.out.size)); clear hb2)
    go_ret
    first | exact ⟨ret_bool H'.out.symm, HB2.out⟩ | exact ⟨ret_bool H'.out.symm, HB1.out⟩
theorem pacein (Y : Wy) (r : Rc) (B D : Option Addr) (b d : Nat) (w : World) (hn : r.n ≤ 1048576) (hm : r.m ≤ 1048576) (hp : Pts w B r.n r.X r.Y) (hd : Ints w D r.m r.Z) :
    Calls Try.prog 83 #[.agg #[.int .i64 Y.l, .int .i64 Y.b], .agg #[.slice B r.n b, .int .i64 r.v, .slice D r.m d]] w fun e w' => e = .returned (.func (Fn.func 71) #[.agg #[.int .i64 (depZ Y r)]] #[]) ∧ Below w.heap.size w w' := by
  have hmf : ∀ (fn : Fn) (first cap : Array Value) (w : World), (Instr.makeFunc fn first cap).run Try.prog w = .ok (.func fn first cap) w := fun _ _ _ _ => rfl
  obtain ⟨hx, hy, hB⟩ := wr_new Y r B D b d w
  have HB0 := vl hB
  have HP := vl (hp.below hB)
  have HD := vl (hd.below hB)
  obtain ⟨x0, x1⟩ := hx.at
  obtain ⟨y0, y1, y2⟩ := hy.at
  clear hp hd hx hy hB
  go_enter Try.func83, Try.ntmps83
  go_wp2_with fail
  refine (depin_impl Y r B D b d _ hn hm HP.out HD.out).mono ?_
  rintro e w1 ⟨rfl, hb1⟩
  have HB1 := vl (HB0.out.trans (hb1.mono HB0.out.size))
  clear hb1 x0 x1 y0 y1 y2
  go_wp2
  go_ret
  exact ⟨rfl, HB1.out⟩
set_option maxRecDepth 100000 in
set_option maxHeartbeats 4000000 in
theorem timeto_impl (C : Mv) (A : Option Addr) (c : Nat) (Y : Wy) (r : Rc) (B D : Option Addr) (b d : Nat) (w : World) (hmt : Mod C.T) (ht : Trn w A C.T) (hn : r.n ≤ 1048576) (hm : r.m ≤ 1048576) (hp : Pts w B r.n r.X r.Y) (hd : Ints w D r.m r.Z) :
    Calls Try.prog 30 #[.agg #[.bool C.up, .slice A C.T.length c, .int .i64 C.p], .agg #[.int .i64 Y.l, .int .i64 Y.b], .agg #[.slice B r.n b, .int .i64 r.v, .slice D r.m d]] w (AnsI w (timZ C Y r)) := by
  obtain ⟨hX, hB⟩ := mwr_new C A c Y r B D b d w ht hp hd
  have HB0 := vl hB
  have HX0 := vl hX
  have HM := vl hmt
  obtain ⟨x0, x1, x2, y0, y1, z0, z1, z2⟩ := hX.at
  clear hX hB ht hp hd hmt
  generalize hW : ((w.alloc (.cells #[.bool C.up, .slice A C.T.length c, .int .i64 C.p] 40)).alloc (.cells #[.int .i64 Y.l, .int .i64 Y.b] 42)).alloc (.cells #[.slice B r.n b, .int .i64 r.v, .slice D r.m d] 54) = W at *
  have dp := dep_bd Y r
  have pb := pacC_bd C.T (depZ Y r)
  obtain ⟨pc, hpc⟩ : ∃ pc, pacC C.T (depZ Y r) = pc := ⟨_, rfl⟩
  have HPc := vl (fun (w : World) (ht : Trn w A C.T) => by have h := wpace_impl C.up A c C.T (depZ Y r) w dp.1 dp.2 HM.out ht; rw [hpc] at h; exact h)
  rcases tim_cases C Y r with ⟨h, hs⟩ | ⟨h, h1, hs⟩ | ⟨h, h1, h2, hs⟩ | ⟨h, h1, h2, hs⟩
  · have HS := vl hs
    have H0 := vl h
    clear h hs dp pb hpc HPc
    go_enter Try.func30, Try.ntmps30
    go_wp2_with fail
    try rw [hW]
    clear hW
    refine (maysail C A c Y r B D b d _ HM.out HX0.out.tr hn hm HX0.out.pt HX0.out.dl).mono ?_
    rintro e w1 ⟨rfl, hb1⟩
    rw [H0.out]
    have HB1 := vl (HB0.out.trans (hb1.mono HB0.out.size))
    clear hb1 x0 x1 x2 y0 y1 z0 z1 z2
    go_wp2
    go_ret
    exact ⟨ret_int HS.out.symm, HB1.out⟩
  all_goals
    rw [hpc] at pb
    obtain ⟨p0, p1⟩ := pb
    have HV := vl (may_yes h).1
    have hlb := lef_bd (may_yes h).1
    have HDi := vl (fun (w : World) => dist_impl C A c Y w HV.out)
    obtain ⟨lf, hlf⟩ : ∃ lf, lefZ C Y = lf := ⟨_, rfl⟩
    rw [hlf] at h1 hlb HDi
    try rw [hlf] at hs
    obtain ⟨lb0, lb1⟩ := hlb
    try rw [hpc] at h2
    try rw [hpc] at hs
    have HS := vl hs
    have H0 := vl h
    clear h hs dp hpc hlf HV
    go_enter Try.func30, Try.ntmps30
    go_wp2_with fail
    try rw [hW]
    clear hW
    refine (maysail C A c Y r B D b d _ HM.out HX0.out.tr hn hm HX0.out.pt HX0.out.dl).mono ?_
    rintro e w1 ⟨rfl, hb1⟩
    rw [H0.out]
    have HB1 := vl (HB0.out.trans (hb1.mono HB0.out.size))
    have HX1 := vl (HX0.out.below hb1)
    clear hb1 x0 x1 x2 y0 y1 z0 z1 z2
    obtain ⟨x0, x1, x2, y0, y1, z0, z1, z2⟩ := HX1.out.at
    go_wp2_with fail
    refine (HDi.out _).mono ?_
    rintro e w2 ⟨rfl, hb2⟩
    have HB2 := vl (HB1.out.trans (hb2.mono HB1.out.size))
    have HX2 := vl (HX1.out.below hb2)
    clear hb2 x0 x1 x2 y0 y1 z0 z1 z2 HDi
  · subst h1
    clear HPc
    go_wp2
    go_ret
    exact ⟨ret_int HS.out.symm, HB2.out⟩
  all_goals
    obtain ⟨x0, x1, x2, y0, y1, z0, z1, z2⟩ := HX2.out.at
    have h1' : (lf == 0) = false := beq_eq_false_iff_ne.2 h1
    go_wp2
    go_region_held3 (fun w' => w'.cell? ⟨w.heap.size, 0, none⟩ = some (.bool C.up) ∧ w'.cell? ⟨w.heap.size, 1, none⟩ = some (.slice A C.T.length c) ∧ w'.cell? ⟨w.heap.size, 2, none⟩ = some (.int .i64 C.p) ∧ w'.cell? ⟨w.heap.size + 1, 0, none⟩ = some (.int .i64 Y.l) ∧ w'.cell? ⟨w.heap.size + 1, 1, none⟩ = some (.int .i64 Y.b) ∧ w'.cell? ⟨w.heap.size + 1 + 1, 0, none⟩ = some (.slice B r.n b) ∧ w'.cell? ⟨w.heap.size + 1 + 1, 1, none⟩ = some (.int .i64 r.v) ∧ w'.cell? ⟨w.heap.size + 1 + 1, 2, none⟩ = some (.slice D r.m d) ∧ Below w2.heap.size w2 w')
      (first | exact ⟨x0, x1, x2, y0, y1, z0, z1, z2, Below.refl _ _⟩ | exact ⟨x0, x1, x2, y0, y1, z0, z1, z2, (Below.refl _ _).drew⟩ | assumption)
      (first
        | (go_at_call 83; obtain ⟨_, _, _, _, _, _, _, _, hb7⟩ : _ ∧ _ ∧ _ ∧ _ ∧ _ ∧ _ ∧ _ ∧ _ ∧ Below w2.heap.size w2 _ := by assumption
           refine (pacein Y r B D b d _ hn hm (HX2.out.pt.below hb7) (HX2.out.dl.below hb7)).mono ?_
           rintro en w' ⟨rfl, hb'⟩
           have S1 := (HX2.out.below hb7).cells hb7 hb'
           clear hb')
        | (go_at_call 71; obtain ⟨_, _, _, _, _, _, _, _, hb7⟩ : _ ∧ _ ∧ _ ∧ _ ∧ _ ∧ _ ∧ _ ∧ _ ∧ Below w2.heap.size w2 _ := by assumption
           refine (HPc.out _ (HX2.out.tr.below hb7)).mono ?_
           rintro en w' ⟨rfl, hb'⟩
           have S2 := (HX2.out.below hb7).cells hb7 hb'
           clear hb'))
    obtain ⟨_, _, _, _, _, _, _, _, hb9⟩ : _ ∧ _ ∧ _ ∧ _ ∧ _ ∧ _ ∧ _ ∧ _ ∧ Below w2.heap.size w2 _ := by assumption
    have HB9 := vl (HB2.out.trans (hb9.mono HB2.out.size))
    clear hb9 S1 S2 x0 x1 x2 y0 y1 z0 z1 z2
  · subst h2
    go_wp2
    go_ret
    exact ⟨ret_int HS.out.symm, HB9.out⟩
  · have h2' : (pc == 0) = false := beq_eq_false_iff_ne.2 h2
    have hq0 : 0 ≤ (lf + pc - 1) / pc := Int.ediv_nonneg (by omega) p0
    have hq1 : (lf + pc - 1) / pc ≤ lf + pc - 1 := Int.ediv_le_self _ (by omega)
    obtain ⟨qq, hqq⟩ : ∃ qq, (lf + pc - 1) / pc = qq := ⟨_, rfl⟩
    have HQ := vl (show IntKind.i64.wrap ((lf + pc - 1) / pc) = (lf + pc - 1) / pc by rw [hqq] at hq0 hq1 ⊢; exact IntWalk.i64_in _ (by omega))
    clear hq0 hq1 hqq
    go_wp2
    go_ret
    exact ⟨ret_int (HS.out.trans (by first | rfl | exact HQ.out.symm)).symm, HB9.out⟩
end Go.Proofs.Ytngmpimoebggdaa.C1
