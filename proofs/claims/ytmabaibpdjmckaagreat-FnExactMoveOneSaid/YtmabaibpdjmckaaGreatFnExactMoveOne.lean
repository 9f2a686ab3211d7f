/-
  For every input the Go function 'laws.FnExactMoveOne' returns true, and each argument reads afterwards as it read before. No further condition.
-/
import Derived.Test.YtmabaibpdjmckaaGreatSa5
import Derived.Test.YtmabaibpdjmckaaGreatSa8
import Derived.Test.YtmabaibpdjmckaaGreatSaO
import Derived.Test.YtmabaibpdjmckaaGreatOpenR
import Derived.Test.YtmabaibpdjmckaaGreatHeld
import Derived.Test.YtmabaibpdjmckaaGreatLift
import Derived.Test.YtmabaibpdjmckaaGreatOpen
import Derived.ChangeMaps5
namespace Go.Proofs.YtmabaibpdjmckaaGreat.fnExactMoveOne
open Go.Proofs.YtmabaibpdjmckaaGreat.C1 Go.Proofs.YtmabaibpdjmckaaGreat.Lift Go.Proofs.YtmabaibpdjmckaaGreat.Opened
open Go.ChangeShapes Go.WideShapes Go.ChangeAt Go.RowKit Go.ChangeMaps
set_option linter.unusedVariables false

set_option linter.unusedSimpArgs false
set_option maxRecDepth 100000 in
set_option maxHeartbeats 8000000 in
theorem walk (C0 : Mv) (A0 : Option Addr) (c0 : Nat) (Y1 : Wy) (r2 : Rc) (B2 : Option Addr) (D2 : Option Addr) (b2 : Nat) (d2 : Nat) (w : World) (hu0 : ArgT w A0 C0.T) (hu2 : ArgR w r2 B2 D2) :
    Calls Tryz.prog 3 #[.agg #[.bool C0.up, .slice A0 C0.T.length c0, .int .i64 C0.p], .agg #[.int .i64 Y1.l, .int .i64 Y1.b], .agg #[.slice B2 r2.n b2, .int .i64 r2.v, .slice D2 r2.m d2]] w fun e w' => e = .returned (.bool true) ∧ Below w.heap.size w w' := by
  have hB := ((((Below.refl w.heap.size w).alloc (Nat.le_refl _) (.cells #[.bool C0.up, .slice A0 C0.T.length c0, .int .i64 C0.p] 26)).alloc (by simp) (.cells #[.int .i64 Y1.l, .int .i64 Y1.b] 28)).alloc (by simp; omega) (.cells #[.slice B2 r2.n b2, .int .i64 r2.v, .slice D2 r2.m d2] 32))
  have hl0 := (((MBox.new w C0 A0 c0 26).below ((Below.refl _ _).alloc (Nat.le_refl _) (.cells #[.int .i64 Y1.l, .int .i64 Y1.b] 28))).below ((Below.refl _ _).alloc (Nat.le_refl _) (.cells #[.slice B2 r2.n b2, .int .i64 r2.v, .slice D2 r2.m d2] 32)))
  have hl1 : WBox (((w.alloc (.cells #[.bool C0.up, .slice A0 C0.T.length c0, .int .i64 C0.p] 26)).alloc (.cells #[.int .i64 Y1.l, .int .i64 Y1.b] 28)).alloc (.cells #[.slice B2 r2.n b2, .int .i64 r2.v, .slice D2 r2.m d2] 32)) (w.heap.size + 1) Y1 28 := by have h := ((WBox.new (w.alloc (.cells #[.bool C0.up, .slice A0 C0.T.length c0, .int .i64 C0.p] 26)) Y1 28).below ((Below.refl _ _).alloc (Nat.le_refl _) (.cells #[.slice B2 r2.n b2, .int .i64 r2.v, .slice D2 r2.m d2] 32))); simpa using h
  have hl2 : Box (((w.alloc (.cells #[.bool C0.up, .slice A0 C0.T.length c0, .int .i64 C0.p] 26)).alloc (.cells #[.int .i64 Y1.l, .int .i64 Y1.b] 28)).alloc (.cells #[.slice B2 r2.n b2, .int .i64 r2.v, .slice D2 r2.m d2] 32)) (w.heap.size + 1 + 1) (.slice B2 r2.n b2) (.int .i64 r2.v) (.slice D2 r2.m d2) 32 := by have h := (Box.new ((w.alloc (.cells #[.bool C0.up, .slice A0 C0.T.length c0, .int .i64 C0.p] 26)).alloc (.cells #[.int .i64 Y1.l, .int .i64 Y1.b] 28)) (.slice B2 r2.n b2) (.int .i64 r2.v) (.slice D2 r2.m d2) 32); simpa using h
  have HB0 := vl hB
  have HL0_0 := vl hl0
  have HL1_0 := vl hl1
  have HL2_0 := vl hl2
  have HU0 := vl hu0
  have HA0_0 := vl (hu0.below hB)
  clear hu0
  obtain ⟨n1_2, n2_2, _, _, hsp2, hsi2⟩ := hu2
  have HSP2 := vl hsp2
  have HSI2 := vl hsi2
  clear hsp2 hsi2
  generalize hW : (((w.alloc (.cells #[.bool C0.up, .slice A0 C0.T.length c0, .int .i64 C0.p] 26)).alloc (.cells #[.int .i64 Y1.l, .int .i64 Y1.b] 28)).alloc (.cells #[.slice B2 r2.n b2, .int .i64 r2.v, .slice D2 r2.m d2] 32)) = W at HB0 HL0_0 HL1_0 HL2_0 HA0_0
  clear hB hl0 hl1 hl2
  obtain ⟨l0_0, l0_1, l0_2⟩ := HL0_0.out.at
  obtain ⟨l1_0, l1_1⟩ := HL1_0.out.at
  obtain ⟨l2_0, l2_1, l2_2⟩ := HL2_0.out.at
  by_cases hbig0 : (1048576 : Int) < (szT C0.T : Int)
  · go_enter Tryz.func3, Tryz.ntmps3
    go_wp2_with fail
    clear hW
    refine (szMover_no C0 A0 c0 _ _ (by omega) (by omega) HA0_0.out hbig0).mono ?_
    rintro en w1 ⟨rfl, hb⟩
    have HBe := vl (HB0.out.trans (hb.mono HB0.out.size))
    clear hb
    go_wp2
    go_ret
    exact ⟨rfl, HBe.out⟩
  have hsz0 : (szT C0.T : Int) ≤ 1048576 := by omega
  have HM0 := vl (mod_of (T := C0.T) (by omega))
  have hn0 := HM0.out.rows
  have HR0 := vl (fun r (hr : r ∈ C0.T) => HM0.out.row hr)
  have hnn0 : (0 : Int) ≤ 1048576 - (szT C0.T : Int) := by omega
  clear hbig0
  go_enter Tryz.func3, Tryz.ntmps3
  go_wp2_with fail
  clear hW
  refine (szMover_yes C0 A0 c0 _ _ (by omega) HA0_0.out hsz0).mono ?_
  rintro en w1 ⟨rfl, hb⟩
  clear l0_0 l0_1 l0_2 l1_0 l1_1 l2_0 l2_1 l2_2
  have HL0_1 := vl (HL0_0.out.below hb)
  have HL1_1 := vl (HL1_0.out.below hb)
  have HL2_1 := vl (HL2_0.out.below hb)
  clear HL0_0 HL1_0 HL2_0
  have HB1 := vl (HB0.out.trans (hb.mono HB0.out.size))
  clear hb
  obtain ⟨l0_0, l0_1, l0_2⟩ := HL0_1.out.at
  obtain ⟨l1_0, l1_1⟩ := HL1_1.out.at
  obtain ⟨l2_0, l2_1, l2_2⟩ := HL2_1.out.at
  by_cases hbig2 : 1048576 - (szT C0.T : Int) < (r2.n : Int) + r2.m
  · go_wp2_with fail
    refine (szReach_no _ _ _ _ _ _ _ _ _ (by omega) (by omega) n1_2 n2_2 hbig2).mono ?_
    rintro en w2 ⟨rfl, hb⟩
    have HBe := vl (HB1.out.trans (hb.mono HB1.out.size))
    clear hb
    go_wp2
    go_ret
    exact ⟨rfl, HBe.out⟩
  have hn2 : r2.n ≤ 1048576 := by omega
  have hm2 : r2.m ≤ 1048576 := by omega
  have hsz2 : (r2.n : Int) + r2.m ≤ 1048576 - (szT C0.T : Int) := by omega
  have hnn2 : (0 : Int) ≤ 1048576 - (szT C0.T : Int) - (r2.n : Int) - (r2.m : Int) := by omega
  clear hbig2
  go_wp2_with fail
  refine (szReach_yes _ _ _ _ _ _ _ _ _ (by omega) (by omega) hsz2).mono ?_
  rintro en w2 ⟨rfl, hb⟩
  clear l0_0 l0_1 l0_2 l1_0 l1_1 l2_0 l2_1 l2_2
  have HL0_2 := vl (HL0_1.out.below hb)
  have HL1_2 := vl (HL1_1.out.below hb)
  have HL2_2 := vl (HL2_1.out.below hb)
  clear HL0_1 HL1_1 HL2_1
  have HB2 := vl (HB1.out.trans (hb.mono HB1.out.size))
  clear hb
  obtain ⟨l0_0, l0_1, l0_2⟩ := HL0_2.out.at
  obtain ⟨l1_0, l1_1⟩ := HL1_2.out.at
  obtain ⟨l2_0, l2_1, l2_2⟩ := HL2_2.out.at
  clear hnn0 hnn2
  clear l0_0 l0_1 l0_2 l1_0 l1_1 l2_0 l2_1 l2_2
  generalize hg2 : w.heap.size + 1 + 1 = g2 at *
  generalize hg1 : w.heap.size + 1 = g1 at *
  obtain ⟨N, hN⟩ : ∃ N, movM C0 Y1 r2 = N := ⟨_, rfl⟩
  have HNT := vl (show N.T = C0.T by rw [← hN]; rfl)
  have HMN := vl (show Mod N.T by rw [HNT.out]; exact HM0.out)
  have HSp := vl (fun (A' : Option Addr) (c' : Nat) (B' D' : Option Addr) (b' d' : Nat) (w : World) (ht : Trn w A' C0.T) (hp : Pts w B' r2.n r2.X r2.Y) (hd : Ints w D' r2.m r2.Z) => by have h := mov_spec C0 A' c' Y1 r2 B' D' b' d' w HM0.out ht hn2 hm2 hp hd; rw [hN] at h; exact h)
  have HIm := vl (fun (A' : Option Addr) (c' : Nat) (B' D' : Option Addr) (b' d' : Nat) (w : World) (ht : Trn w A' C0.T) (hp : Pts w B' r2.n r2.X r2.Y) (hd : Ints w D' r2.m r2.Z) => by have h := mov_impl C0 A' c' Y1 r2 B' D' b' d' w HM0.out ht hn2 hm2 hp hd; rw [hN] at h; exact h)
  have hnN := HMN.out.rows
  have HRN := vl (fun q (hq : q ∈ N.T) => HMN.out.row hq)
  clear hN
  have k0 := HL0_2.out.lt
  have k1 := HL1_2.out.lt
  have k2 := HL2_2.out.lt
  go_upto_region 8 with fail
  obtain ⟨l0_0, l0_1, l0_2⟩ := HL0_2.out.at
  obtain ⟨l1_0, l1_1⟩ := HL1_2.out.at
  obtain ⟨l2_0, l2_1, l2_2⟩ := HL2_2.out.at
  go_cut [8] (fun s wx => ∃ bn A5 c5 g5 G5 lo hi, s = .pointer (some ⟨bn, 0, none⟩) ∧ Veil (OneM wx bn N A5 c5 lo hi N.T g5 G5) ∧ Veil (Below w2.heap.size w2 wx) ∧ Veil (w2.heap.size ≤ bn ∧ bn < wx.heap.size ∧ w2.heap.size ≤ lo ∧ lo ≤ hi ∧ hi ≤ wx.heap.size ∧ (bn < lo ∨ hi ≤ bn)))
  case first =>
    have HK := vl (fun (w' : World) (hb' : Below w2.heap.size w2 w') => (show w'.cell? ⟨w.heap.size, 0, none⟩ = some (.bool C0.up) ∧ w'.cell? ⟨w.heap.size, 1, none⟩ = some (.slice A0 C0.T.length c0) ∧ w'.cell? ⟨w.heap.size, 2, none⟩ = some (.int .i64 C0.p) ∧ w'.cell? ⟨g1, 0, none⟩ = some (.int .i64 Y1.l) ∧ w'.cell? ⟨g1, 1, none⟩ = some (.int .i64 Y1.b) ∧ w'.cell? ⟨g2, 0, none⟩ = some (.slice B2 r2.n b2) ∧ w'.cell? ⟨g2, 1, none⟩ = some (.int .i64 r2.v) ∧ w'.cell? ⟨g2, 2, none⟩ = some (.slice D2 r2.m d2) ∧ Below w2.heap.size w2 w' from ⟨(hb'.cell (cell_lt' l0_0)).trans l0_0, (hb'.cell (cell_lt' l0_1)).trans l0_1, (hb'.cell (cell_lt' l0_2)).trans l0_2, (hb'.cell (cell_lt' l1_0)).trans l1_0, (hb'.cell (cell_lt' l1_1)).trans l1_1, (hb'.cell (cell_lt' l2_0)).trans l2_0, (hb'.cell (cell_lt' l2_1)).trans l2_1, (hb'.cell (cell_lt' l2_2)).trans l2_2, hb'⟩))
    refine wp_region_held_drew (S := fun w' => w'.cell? ⟨w.heap.size, 0, none⟩ = some (.bool C0.up) ∧ w'.cell? ⟨w.heap.size, 1, none⟩ = some (.slice A0 C0.T.length c0) ∧ w'.cell? ⟨w.heap.size, 2, none⟩ = some (.int .i64 C0.p) ∧ w'.cell? ⟨g1, 0, none⟩ = some (.int .i64 Y1.l) ∧ w'.cell? ⟨g1, 1, none⟩ = some (.int .i64 Y1.b) ∧ w'.cell? ⟨g2, 0, none⟩ = some (.slice B2 r2.n b2) ∧ w'.cell? ⟨g2, 1, none⟩ = some (.int .i64 r2.v) ∧ w'.cell? ⟨g2, 2, none⟩ = some (.slice D2 r2.m d2) ∧ Below w2.heap.size w2 w') (by kernel_rfl) (HK.out _ (Below.refl _ _).drew) (fun hHeld0 => ?_)
    clear l0_0 l0_1 l0_2 l1_0 l1_1 l2_0 l2_1 l2_2
    try dsimp only at hHeld0
    have s0 : w2.heap.size ≤ w2.drew.heap.size := hHeld0.2.2.2.2.2.2.2.2.size
    generalize w2.drew = v0 at *
    refine wpAnyH_take (i := 0) (oi := _) (v := ?_) rfl (by kernel_rfl) (by kernel_rfl) (by kernel_rfl) (fun _ _ _ h => h) (Or.inl ⟨by rfl, ?_⟩) (by assumption) ?_
    rotate_left 1
    · intro w hSw
      try dsimp only at hSw
      go_simp
      try with_reducible rfl
    try simp only [Act.put, List.getElem_toArray, List.getElem_cons_succ, List.getElem_cons_zero, List.setIfInBounds_toArray, List.set_cons_zero, List.set_cons_succ]
    refine wpAnyH_take (i := 2) (oi := _) (v := ?_) rfl (by kernel_rfl) (by kernel_rfl) (by kernel_rfl) (fun _ _ _ h => h) (Or.inl ⟨by rfl, ?_⟩) (by assumption) ?_
    rotate_left 1
    · intro w hSw
      try dsimp only at hSw
      go_simp
      try with_reducible rfl
    try simp only [Act.put, List.getElem_toArray, List.getElem_cons_succ, List.getElem_cons_zero, List.setIfInBounds_toArray, List.set_cons_zero, List.set_cons_succ]
    refine wpAnyH_take (i := 4) (oi := _) (v := ?_) rfl (by kernel_rfl) (by kernel_rfl) (by kernel_rfl) (fun _ _ _ h => h) (Or.inl ⟨by rfl, ?_⟩) (by assumption) ?_
    rotate_left 1
    · intro w hSw
      try dsimp only at hSw
      go_simp
      try with_reducible rfl
    try simp only [Act.put, List.getElem_toArray, List.getElem_cons_succ, List.getElem_cons_zero, List.setIfInBounds_toArray, List.set_cons_zero, List.set_cons_succ]
    refine wpAnyH_ready (rs := [1, 7]) (by kernel_rfl) (by simp) ?_
    refine AllReadyH.cons (o := _) rfl (fun K hK => ?_) (AllReadyH.cons (o := _) rfl (fun K hK => ?_) AllReadyH.nil)
    · have hBk := hHeld0.2.2.2.2.2.2.2.2
      go_simp
      go_at_call 7
      with_reducible refine (toMover C0 A0 c0 _ hn0 HR0.out (HU0.out.src.below (HB2.out.trans (hBk.mono HB2.out.size)))).mono ?_
      rintro en v1 ⟨⟨A5, c5, g5, G5, rfl, hc5, ho5⟩, hb'⟩
      have HMo := vl ho5.trn
      have hB1 := hBk.trans (hb'.mono hBk.size)
      have z1 := hb'.size
      clear hBk hb'
      refine hK.out _ _ (HK.out _ hB1) (fun hHeld1 => ?_)
      clear hK K
      try dsimp only at hHeld1
      try simp only [Act.put, List.getElem_toArray, List.getElem_cons_succ, List.getElem_cons_zero, List.setIfInBounds_toArray, List.set_cons_zero, List.set_cons_succ]
      refine wpAnyH_ready (rs := [3, 7]) (by kernel_rfl) (by simp) ?_
      refine AllReadyH.cons (o := _) rfl (fun K hK => ?_) (AllReadyH.cons (o := _) rfl (fun K hK => ?_) AllReadyH.nil)
      · have hBk := hHeld1.2.2.2.2.2.2.2.2
        go_simp
        go_at_call 8
        with_reducible refine (toWay Y1 _).mono ?_
        rintro en v2 ⟨rfl, hb'⟩
        replace HMo := vl (HMo.out.below hb')
        have hB2 := hBk.trans (hb'.mono hBk.size)
        have z2 := hb'.size
        clear hBk hb'
        refine hK.out _ _ (HK.out _ hB2) (fun hHeld2 => ?_)
        clear hK K
        try dsimp only at hHeld2
        try simp only [Act.put, List.getElem_toArray, List.getElem_cons_succ, List.getElem_cons_zero, List.setIfInBounds_toArray, List.set_cons_zero, List.set_cons_succ]
        refine wpAnyH_ready (rs := [5, 7]) (by kernel_rfl) (by simp) ?_
        refine AllReadyH.cons (o := _) rfl (fun K hK => ?_) (AllReadyH.cons (o := _) rfl (fun K hK => ?_) AllReadyH.nil)
        · have hBk := hHeld2.2.2.2.2.2.2.2.2
          go_simp
          go_at_call 9
          with_reducible refine (toReach r2 B2 D2 b2 d2 _ hn2 hm2 (HSP2.out.below (HB2.out.trans (hBk.mono HB2.out.size))) (HSI2.out.below (HB2.out.trans (hBk.mono HB2.out.size)))).mono ?_
          rintro en v3 ⟨⟨B6, b6, D6, d6, g6, h6, rfl, hc6, ho6⟩, hb'⟩
          replace HMo := vl (HMo.out.below hb')
          have HRp := vl ho6.pts
          have HRi := vl ho6.ints
          have hB3 := hBk.trans (hb'.mono hBk.size)
          have z3 := hb'.size
          clear hBk hb'
          refine hK.out _ _ (HK.out _ hB3) (fun hHeld3 => ?_)
          clear hK K
          try dsimp only at hHeld3
          try simp only [Act.put, List.getElem_toArray, List.getElem_cons_succ, List.getElem_cons_zero, List.setIfInBounds_toArray, List.set_cons_zero, List.set_cons_succ]
          refine wpAnyH_ready (rs := [6, 7]) (by kernel_rfl) (by simp) ?_
          refine AllReadyH.cons (o := _) rfl (fun K hK => ?_) (AllReadyH.cons (o := _) rfl (fun K hK => ?_) AllReadyH.nil)
          · have hBk := hHeld3.2.2.2.2.2.2.2.2
            go_simp
            go_at_call 6
            with_reducible refine (HSp.out A5 c5 B6 D6 b6 d6 _ HMo.out HRp.out HRi.out).mono ?_
            rintro en v4 ⟨⟨A7, c7, g7, G7, rfl, hc7, ho7⟩, hb'⟩
            replace HMo := vl (HMo.out.below hb')
            replace HRp := vl (HRp.out.below hb')
            replace HRi := vl (HRi.out.below hb')
            have HRs := vl ho7
            have hB4 := hBk.trans (hb'.mono hBk.size)
            have z4 := hb'.size
            clear hBk hb'
            refine hK.out _ _ (HK.out _ hB4) (fun hHeld4 => ?_)
            clear hK K
            try dsimp only at hHeld4
            try simp only [Act.put, List.getElem_toArray, List.getElem_cons_succ, List.getElem_cons_zero, List.setIfInBounds_toArray, List.set_cons_zero, List.set_cons_succ]
            refine wpAnyH_ready (rs := [7]) (by kernel_rfl) (by simp) ?_
            refine AllReadyH.cons (o := _) rfl (fun K hK => ?_) AllReadyH.nil
            have hBk := hHeld4.2.2.2.2.2.2.2.2
            go_simp
            have HN := vl (Box.new v4 (.bool false) (.slice none 0 0) (.int .i64 0) 39)
            have hb' := (Below.refl v4.heap.size v4).alloc (Nat.le_refl _) (.cells #[.bool false, .slice none 0 0, .int .i64 0] 39)
            have hsN : v4.heap.size < (v4.alloc (.cells #[.bool false, .slice none 0 0, .int .i64 0] 39)).heap.size := by simp
            obtain ⟨bn, hbn⟩ : ∃ x, x = v4.heap.size := ⟨_, rfl⟩
            generalize hu : v4.alloc (.cells #[.bool false, .slice none 0 0, .int .i64 0] 39) = v5 at *
            clear hu
            replace HMo := vl (HMo.out.below hb')
            replace HRp := vl (HRp.out.below hb')
            replace HRi := vl (HRi.out.below hb')
            replace HRs := vl (HRs.out.below hb')
            have hB5 := hBk.trans (hb'.mono hBk.size)
            have z5 := hb'.size
            clear hBk hb'
            refine hK.out _ _ (HK.out _ hB5) (fun hHeld5 => ?_)
            clear hK K
            try dsimp only at hHeld5
            try simp only [Act.put, List.getElem_toArray, List.getElem_cons_succ, List.getElem_cons_zero, List.setIfInBounds_toArray, List.set_cons_zero, List.set_cons_succ]
            have hBk := hHeld5.2.2.2.2.2.2.2.2
            obtain ⟨p0, p1, p2⟩ := HN.out.at
            obtain ⟨f0, f1, f2⟩ := HN.out.free
            refine wpAnyH_ready (rs := [8]) (by kernel_rfl) (by simp) ?_
            refine AllReadyH.cons (o := _) rfl (fun K hK => ?_) AllReadyH.nil
            go_simp
            clear p0 p1 p2 f0 f1 f2
            have hbj : ∀ j : Nat, w2.heap.size ≤ (⟨v4.heap.size, j, none⟩ : Addr).block := fun j => by dsimp only; omega
            have hB6 := (((hBk.setCell (hbj 0) (.bool N.up)).setCell (hbj 1) (.slice A7 N.T.length c7)).setCell (hbj 2) (.int .i64 N.p))
            have ht' := touch3 (w := v5) (g := v4.heap.size) (.bool N.up) (.slice A7 N.T.length c7) (.int .i64 N.p)
            replace HN := vl (((HN.out.set0 (.bool N.up)).set1 (.slice A7 N.T.length c7)).set2 (.int .i64 N.p))
            replace HRs := vl (HRs.out.touch ht' (by omega))
            have hsz : (((v5.setCell ⟨v4.heap.size, 0, none⟩ (.bool N.up)).setCell ⟨v4.heap.size, 1, none⟩ (.slice A7 N.T.length c7)).setCell ⟨v4.heap.size, 2, none⟩ (.int .i64 N.p)).heap.size = v5.heap.size := by simp
            generalize hu : (((v5.setCell ⟨v4.heap.size, 0, none⟩ (.bool N.up)).setCell ⟨v4.heap.size, 1, none⟩ (.slice A7 N.T.length c7)).setCell ⟨v4.heap.size, 2, none⟩ (.int .i64 N.p)) = v6 at *
            clear hu hbj hBk ht'
            refine hK.out _ _ (HK.out _ hB6) (fun hHeld6 => ?_)
            clear hK K
            try dsimp only at hHeld6
            try simp only [Act.put, List.getElem_toArray, List.getElem_cons_succ, List.getElem_cons_zero, List.setIfInBounds_toArray, List.set_cons_zero, List.set_cons_succ]
            refine wpAnyH_done (by kernel_rfl) ?_ _
            go_simp
            go_wp2_with fail
            go_meet
            exact ⟨_, _, _, _, _, _, _, rfl, vl ⟨HN.out, HRs.out⟩, vl hHeld6.2.2.2.2.2.2.2.2, vl (by omega)⟩
          · have hBk := hHeld3.2.2.2.2.2.2.2.2
            go_simp
            have HN := vl (Box.new v3 (.bool false) (.slice none 0 0) (.int .i64 0) 39)
            have hb' := (Below.refl v3.heap.size v3).alloc (Nat.le_refl _) (.cells #[.bool false, .slice none 0 0, .int .i64 0] 39)
            have hsN : v3.heap.size < (v3.alloc (.cells #[.bool false, .slice none 0 0, .int .i64 0] 39)).heap.size := by simp
            obtain ⟨bn, hbn⟩ : ∃ x, x = v3.heap.size := ⟨_, rfl⟩
            generalize hu : v3.alloc (.cells #[.bool false, .slice none 0 0, .int .i64 0] 39) = v4 at *
            clear hu
            replace HMo := vl (HMo.out.below hb')
            replace HRp := vl (HRp.out.below hb')
            replace HRi := vl (HRi.out.below hb')
            have hB4 := hBk.trans (hb'.mono hBk.size)
            have z4 := hb'.size
            clear hBk hb'
            refine hK.out _ _ (HK.out _ hB4) (fun hHeld4 => ?_)
            clear hK K
            try dsimp only at hHeld4
            try simp only [Act.put, List.getElem_toArray, List.getElem_cons_succ, List.getElem_cons_zero, List.setIfInBounds_toArray, List.set_cons_zero, List.set_cons_succ]
            refine wpAnyH_ready (rs := [6]) (by kernel_rfl) (by simp) ?_
            refine AllReadyH.cons (o := _) rfl (fun K hK => ?_) AllReadyH.nil
            have hBk := hHeld4.2.2.2.2.2.2.2.2
            go_simp
            go_at_call 6
            with_reducible refine (HSp.out A5 c5 B6 D6 b6 d6 _ HMo.out HRp.out HRi.out).mono ?_
            rintro en v5 ⟨⟨A7, c7, g7, G7, rfl, hc7, ho7⟩, hb'⟩
            replace HMo := vl (HMo.out.below hb')
            replace HRp := vl (HRp.out.below hb')
            replace HRi := vl (HRi.out.below hb')
            replace HN := vl (HN.out.below hb')
            have HRs := vl ho7
            have hB5 := hBk.trans (hb'.mono hBk.size)
            have z5 := hb'.size
            clear hBk hb'
            refine hK.out _ _ (HK.out _ hB5) (fun hHeld5 => ?_)
            clear hK K
            try dsimp only at hHeld5
            try simp only [Act.put, List.getElem_toArray, List.getElem_cons_succ, List.getElem_cons_zero, List.setIfInBounds_toArray, List.set_cons_zero, List.set_cons_succ]
            have hBk := hHeld5.2.2.2.2.2.2.2.2
            obtain ⟨p0, p1, p2⟩ := HN.out.at
            obtain ⟨f0, f1, f2⟩ := HN.out.free
            refine wpAnyH_ready (rs := [8]) (by kernel_rfl) (by simp) ?_
            refine AllReadyH.cons (o := _) rfl (fun K hK => ?_) AllReadyH.nil
            go_simp
            clear p0 p1 p2 f0 f1 f2
            have hbj : ∀ j : Nat, w2.heap.size ≤ (⟨v3.heap.size, j, none⟩ : Addr).block := fun j => by dsimp only; omega
            have hB6 := (((hBk.setCell (hbj 0) (.bool N.up)).setCell (hbj 1) (.slice A7 N.T.length c7)).setCell (hbj 2) (.int .i64 N.p))
            have ht' := touch3 (w := v5) (g := v3.heap.size) (.bool N.up) (.slice A7 N.T.length c7) (.int .i64 N.p)
            replace HN := vl (((HN.out.set0 (.bool N.up)).set1 (.slice A7 N.T.length c7)).set2 (.int .i64 N.p))
            replace HRs := vl (HRs.out.touch ht' (by omega))
            have hsz : (((v5.setCell ⟨v3.heap.size, 0, none⟩ (.bool N.up)).setCell ⟨v3.heap.size, 1, none⟩ (.slice A7 N.T.length c7)).setCell ⟨v3.heap.size, 2, none⟩ (.int .i64 N.p)).heap.size = v5.heap.size := by simp
            generalize hu : (((v5.setCell ⟨v3.heap.size, 0, none⟩ (.bool N.up)).setCell ⟨v3.heap.size, 1, none⟩ (.slice A7 N.T.length c7)).setCell ⟨v3.heap.size, 2, none⟩ (.int .i64 N.p)) = v6 at *
            clear hu hbj hBk ht'
            refine hK.out _ _ (HK.out _ hB6) (fun hHeld6 => ?_)
            clear hK K
            try dsimp only at hHeld6
            try simp only [Act.put, List.getElem_toArray, List.getElem_cons_succ, List.getElem_cons_zero, List.setIfInBounds_toArray, List.set_cons_zero, List.set_cons_succ]
            refine wpAnyH_done (by kernel_rfl) ?_ _
            go_simp
            go_wp2_with fail
            go_meet
            exact ⟨_, _, _, _, _, _, _, rfl, vl ⟨HN.out, HRs.out⟩, vl hHeld6.2.2.2.2.2.2.2.2, vl (by omega)⟩
        · have hBk := hHeld2.2.2.2.2.2.2.2.2
          go_simp
          have HN := vl (Box.new v2 (.bool false) (.slice none 0 0) (.int .i64 0) 39)
          have hb' := (Below.refl v2.heap.size v2).alloc (Nat.le_refl _) (.cells #[.bool false, .slice none 0 0, .int .i64 0] 39)
          have hsN : v2.heap.size < (v2.alloc (.cells #[.bool false, .slice none 0 0, .int .i64 0] 39)).heap.size := by simp
          obtain ⟨bn, hbn⟩ : ∃ x, x = v2.heap.size := ⟨_, rfl⟩
          generalize hu : v2.alloc (.cells #[.bool false, .slice none 0 0, .int .i64 0] 39) = v3 at *
          clear hu
          replace HMo := vl (HMo.out.below hb')
          have hB3 := hBk.trans (hb'.mono hBk.size)
          have z3 := hb'.size
          clear hBk hb'
          refine hK.out _ _ (HK.out _ hB3) (fun hHeld3 => ?_)
          clear hK K
          try dsimp only at hHeld3
          try simp only [Act.put, List.getElem_toArray, List.getElem_cons_succ, List.getElem_cons_zero, List.setIfInBounds_toArray, List.set_cons_zero, List.set_cons_succ]
          refine wpAnyH_ready (rs := [5]) (by kernel_rfl) (by simp) ?_
          refine AllReadyH.cons (o := _) rfl (fun K hK => ?_) AllReadyH.nil
          have hBk := hHeld3.2.2.2.2.2.2.2.2
          go_simp
          go_at_call 9
          with_reducible refine (toReach r2 B2 D2 b2 d2 _ hn2 hm2 (HSP2.out.below (HB2.out.trans (hBk.mono HB2.out.size))) (HSI2.out.below (HB2.out.trans (hBk.mono HB2.out.size)))).mono ?_
          rintro en v4 ⟨⟨B6, b6, D6, d6, g6, h6, rfl, hc6, ho6⟩, hb'⟩
          replace HMo := vl (HMo.out.below hb')
          replace HN := vl (HN.out.below hb')
          have HRp := vl ho6.pts
          have HRi := vl ho6.ints
          have hB4 := hBk.trans (hb'.mono hBk.size)
          have z4 := hb'.size
          clear hBk hb'
          refine hK.out _ _ (HK.out _ hB4) (fun hHeld4 => ?_)
          clear hK K
          try dsimp only at hHeld4
          try simp only [Act.put, List.getElem_toArray, List.getElem_cons_succ, List.getElem_cons_zero, List.setIfInBounds_toArray, List.set_cons_zero, List.set_cons_succ]
          refine wpAnyH_ready (rs := [6]) (by kernel_rfl) (by simp) ?_
          refine AllReadyH.cons (o := _) rfl (fun K hK => ?_) AllReadyH.nil
          have hBk := hHeld4.2.2.2.2.2.2.2.2
          go_simp
          go_at_call 6
          with_reducible refine (HSp.out A5 c5 B6 D6 b6 d6 _ HMo.out HRp.out HRi.out).mono ?_
          rintro en v5 ⟨⟨A7, c7, g7, G7, rfl, hc7, ho7⟩, hb'⟩
          replace HMo := vl (HMo.out.below hb')
          replace HN := vl (HN.out.below hb')
          replace HRp := vl (HRp.out.below hb')
          replace HRi := vl (HRi.out.below hb')
          have HRs := vl ho7
          have hB5 := hBk.trans (hb'.mono hBk.size)
          have z5 := hb'.size
          clear hBk hb'
          refine hK.out _ _ (HK.out _ hB5) (fun hHeld5 => ?_)
          clear hK K
          try dsimp only at hHeld5
          try simp only [Act.put, List.getElem_toArray, List.getElem_cons_succ, List.getElem_cons_zero, List.setIfInBounds_toArray, List.set_cons_zero, List.set_cons_succ]
          have hBk := hHeld5.2.2.2.2.2.2.2.2
          obtain ⟨p0, p1, p2⟩ := HN.out.at
          obtain ⟨f0, f1, f2⟩ := HN.out.free
          refine wpAnyH_ready (rs := [8]) (by kernel_rfl) (by simp) ?_
          refine AllReadyH.cons (o := _) rfl (fun K hK => ?_) AllReadyH.nil
          go_simp
          clear p0 p1 p2 f0 f1 f2
          have hbj : ∀ j : Nat, w2.heap.size ≤ (⟨v2.heap.size, j, none⟩ : Addr).block := fun j => by dsimp only; omega
          have hB6 := (((hBk.setCell (hbj 0) (.bool N.up)).setCell (hbj 1) (.slice A7 N.T.length c7)).setCell (hbj 2) (.int .i64 N.p))
          have ht' := touch3 (w := v5) (g := v2.heap.size) (.bool N.up) (.slice A7 N.T.length c7) (.int .i64 N.p)
          replace HN := vl (((HN.out.set0 (.bool N.up)).set1 (.slice A7 N.T.length c7)).set2 (.int .i64 N.p))
          replace HRs := vl (HRs.out.touch ht' (by omega))
          have hsz : (((v5.setCell ⟨v2.heap.size, 0, none⟩ (.bool N.up)).setCell ⟨v2.heap.size, 1, none⟩ (.slice A7 N.T.length c7)).setCell ⟨v2.heap.size, 2, none⟩ (.int .i64 N.p)).heap.size = v5.heap.size := by simp
          generalize hu : (((v5.setCell ⟨v2.heap.size, 0, none⟩ (.bool N.up)).setCell ⟨v2.heap.size, 1, none⟩ (.slice A7 N.T.length c7)).setCell ⟨v2.heap.size, 2, none⟩ (.int .i64 N.p)) = v6 at *
          clear hu hbj hBk ht'
          refine hK.out _ _ (HK.out _ hB6) (fun hHeld6 => ?_)
          clear hK K
          try dsimp only at hHeld6
          try simp only [Act.put, List.getElem_toArray, List.getElem_cons_succ, List.getElem_cons_zero, List.setIfInBounds_toArray, List.set_cons_zero, List.set_cons_succ]
          refine wpAnyH_done (by kernel_rfl) ?_ _
          go_simp
          go_wp2_with fail
          go_meet
          exact ⟨_, _, _, _, _, _, _, rfl, vl ⟨HN.out, HRs.out⟩, vl hHeld6.2.2.2.2.2.2.2.2, vl (by omega)⟩
      · have hBk := hHeld1.2.2.2.2.2.2.2.2
        go_simp
        have HN := vl (Box.new v1 (.bool false) (.slice none 0 0) (.int .i64 0) 39)
        have hb' := (Below.refl v1.heap.size v1).alloc (Nat.le_refl _) (.cells #[.bool false, .slice none 0 0, .int .i64 0] 39)
        have hsN : v1.heap.size < (v1.alloc (.cells #[.bool false, .slice none 0 0, .int .i64 0] 39)).heap.size := by simp
        obtain ⟨bn, hbn⟩ : ∃ x, x = v1.heap.size := ⟨_, rfl⟩
        generalize hu : v1.alloc (.cells #[.bool false, .slice none 0 0, .int .i64 0] 39) = v2 at *
        clear hu
        replace HMo := vl (HMo.out.below hb')
        have hB2 := hBk.trans (hb'.mono hBk.size)
        have z2 := hb'.size
        clear hBk hb'
        refine hK.out _ _ (HK.out _ hB2) (fun hHeld2 => ?_)
        clear hK K
        try dsimp only at hHeld2
        try simp only [Act.put, List.getElem_toArray, List.getElem_cons_succ, List.getElem_cons_zero, List.setIfInBounds_toArray, List.set_cons_zero, List.set_cons_succ]
        refine wpAnyH_ready (rs := [3]) (by kernel_rfl) (by simp) ?_
        refine AllReadyH.cons (o := _) rfl (fun K hK => ?_) AllReadyH.nil
        have hBk := hHeld2.2.2.2.2.2.2.2.2
        go_simp
        go_at_call 8
        with_reducible refine (toWay Y1 _).mono ?_
        rintro en v3 ⟨rfl, hb'⟩
        replace HMo := vl (HMo.out.below hb')
        replace HN := vl (HN.out.below hb')
        have hB3 := hBk.trans (hb'.mono hBk.size)
        have z3 := hb'.size
        clear hBk hb'
        refine hK.out _ _ (HK.out _ hB3) (fun hHeld3 => ?_)
        clear hK K
        try dsimp only at hHeld3
        try simp only [Act.put, List.getElem_toArray, List.getElem_cons_succ, List.getElem_cons_zero, List.setIfInBounds_toArray, List.set_cons_zero, List.set_cons_succ]
        refine wpAnyH_ready (rs := [5]) (by kernel_rfl) (by simp) ?_
        refine AllReadyH.cons (o := _) rfl (fun K hK => ?_) AllReadyH.nil
        have hBk := hHeld3.2.2.2.2.2.2.2.2
        go_simp
        go_at_call 9
        with_reducible refine (toReach r2 B2 D2 b2 d2 _ hn2 hm2 (HSP2.out.below (HB2.out.trans (hBk.mono HB2.out.size))) (HSI2.out.below (HB2.out.trans (hBk.mono HB2.out.size)))).mono ?_
        rintro en v4 ⟨⟨B6, b6, D6, d6, g6, h6, rfl, hc6, ho6⟩, hb'⟩
        replace HMo := vl (HMo.out.below hb')
        replace HN := vl (HN.out.below hb')
        have HRp := vl ho6.pts
        have HRi := vl ho6.ints
        have hB4 := hBk.trans (hb'.mono hBk.size)
        have z4 := hb'.size
        clear hBk hb'
        refine hK.out _ _ (HK.out _ hB4) (fun hHeld4 => ?_)
        clear hK K
        try dsimp only at hHeld4
        try simp only [Act.put, List.getElem_toArray, List.getElem_cons_succ, List.getElem_cons_zero, List.setIfInBounds_toArray, List.set_cons_zero, List.set_cons_succ]
        refine wpAnyH_ready (rs := [6]) (by kernel_rfl) (by simp) ?_
        refine AllReadyH.cons (o := _) rfl (fun K hK => ?_) AllReadyH.nil
        have hBk := hHeld4.2.2.2.2.2.2.2.2
        go_simp
        go_at_call 6
        with_reducible refine (HSp.out A5 c5 B6 D6 b6 d6 _ HMo.out HRp.out HRi.out).mono ?_
        rintro en v5 ⟨⟨A7, c7, g7, G7, rfl, hc7, ho7⟩, hb'⟩
        replace HMo := vl (HMo.out.below hb')
        replace HN := vl (HN.out.below hb')
        replace HRp := vl (HRp.out.below hb')
        replace HRi := vl (HRi.out.below hb')
        have HRs := vl ho7
        have hB5 := hBk.trans (hb'.mono hBk.size)
        have z5 := hb'.size
        clear hBk hb'
        refine hK.out _ _ (HK.out _ hB5) (fun hHeld5 => ?_)
        clear hK K
        try dsimp only at hHeld5
        try simp only [Act.put, List.getElem_toArray, List.getElem_cons_succ, List.getElem_cons_zero, List.setIfInBounds_toArray, List.set_cons_zero, List.set_cons_succ]
        have hBk := hHeld5.2.2.2.2.2.2.2.2
        obtain ⟨p0, p1, p2⟩ := HN.out.at
        obtain ⟨f0, f1, f2⟩ := HN.out.free
        refine wpAnyH_ready (rs := [8]) (by kernel_rfl) (by simp) ?_
        refine AllReadyH.cons (o := _) rfl (fun K hK => ?_) AllReadyH.nil
        go_simp
        clear p0 p1 p2 f0 f1 f2
        have hbj : ∀ j : Nat, w2.heap.size ≤ (⟨v1.heap.size, j, none⟩ : Addr).block := fun j => by dsimp only; omega
        have hB6 := (((hBk.setCell (hbj 0) (.bool N.up)).setCell (hbj 1) (.slice A7 N.T.length c7)).setCell (hbj 2) (.int .i64 N.p))
        have ht' := touch3 (w := v5) (g := v1.heap.size) (.bool N.up) (.slice A7 N.T.length c7) (.int .i64 N.p)
        replace HN := vl (((HN.out.set0 (.bool N.up)).set1 (.slice A7 N.T.length c7)).set2 (.int .i64 N.p))
        replace HRs := vl (HRs.out.touch ht' (by omega))
        have hsz : (((v5.setCell ⟨v1.heap.size, 0, none⟩ (.bool N.up)).setCell ⟨v1.heap.size, 1, none⟩ (.slice A7 N.T.length c7)).setCell ⟨v1.heap.size, 2, none⟩ (.int .i64 N.p)).heap.size = v5.heap.size := by simp
        generalize hu : (((v5.setCell ⟨v1.heap.size, 0, none⟩ (.bool N.up)).setCell ⟨v1.heap.size, 1, none⟩ (.slice A7 N.T.length c7)).setCell ⟨v1.heap.size, 2, none⟩ (.int .i64 N.p)) = v6 at *
        clear hu hbj hBk ht'
        refine hK.out _ _ (HK.out _ hB6) (fun hHeld6 => ?_)
        clear hK K
        try dsimp only at hHeld6
        try simp only [Act.put, List.getElem_toArray, List.getElem_cons_succ, List.getElem_cons_zero, List.setIfInBounds_toArray, List.set_cons_zero, List.set_cons_succ]
        refine wpAnyH_done (by kernel_rfl) ?_ _
        go_simp
        go_wp2_with fail
        go_meet
        exact ⟨_, _, _, _, _, _, _, rfl, vl ⟨HN.out, HRs.out⟩, vl hHeld6.2.2.2.2.2.2.2.2, vl (by omega)⟩
    · have hBk := hHeld0.2.2.2.2.2.2.2.2
      go_simp
      have HN := vl (Box.new v0 (.bool false) (.slice none 0 0) (.int .i64 0) 39)
      have hb' := (Below.refl v0.heap.size v0).alloc (Nat.le_refl _) (.cells #[.bool false, .slice none 0 0, .int .i64 0] 39)
      have hsN : v0.heap.size < (v0.alloc (.cells #[.bool false, .slice none 0 0, .int .i64 0] 39)).heap.size := by simp
      obtain ⟨bn, hbn⟩ : ∃ x, x = v0.heap.size := ⟨_, rfl⟩
      generalize hu : v0.alloc (.cells #[.bool false, .slice none 0 0, .int .i64 0] 39) = v1 at *
      clear hu
      have hB1 := hBk.trans (hb'.mono hBk.size)
      have z1 := hb'.size
      clear hBk hb'
      refine hK.out _ _ (HK.out _ hB1) (fun hHeld1 => ?_)
      clear hK K
      try dsimp only at hHeld1
      try simp only [Act.put, List.getElem_toArray, List.getElem_cons_succ, List.getElem_cons_zero, List.setIfInBounds_toArray, List.set_cons_zero, List.set_cons_succ]
      refine wpAnyH_ready (rs := [1]) (by kernel_rfl) (by simp) ?_
      refine AllReadyH.cons (o := _) rfl (fun K hK => ?_) AllReadyH.nil
      have hBk := hHeld1.2.2.2.2.2.2.2.2
      go_simp
      go_at_call 7
      with_reducible refine (toMover C0 A0 c0 _ hn0 HR0.out (HU0.out.src.below (HB2.out.trans (hBk.mono HB2.out.size)))).mono ?_
      rintro en v2 ⟨⟨A5, c5, g5, G5, rfl, hc5, ho5⟩, hb'⟩
      replace HN := vl (HN.out.below hb')
      have HMo := vl ho5.trn
      have hB2 := hBk.trans (hb'.mono hBk.size)
      have z2 := hb'.size
      clear hBk hb'
      refine hK.out _ _ (HK.out _ hB2) (fun hHeld2 => ?_)
      clear hK K
      try dsimp only at hHeld2
      try simp only [Act.put, List.getElem_toArray, List.getElem_cons_succ, List.getElem_cons_zero, List.setIfInBounds_toArray, List.set_cons_zero, List.set_cons_succ]
      refine wpAnyH_ready (rs := [3]) (by kernel_rfl) (by simp) ?_
      refine AllReadyH.cons (o := _) rfl (fun K hK => ?_) AllReadyH.nil
      have hBk := hHeld2.2.2.2.2.2.2.2.2
      go_simp
      go_at_call 8
      with_reducible refine (toWay Y1 _).mono ?_
      rintro en v3 ⟨rfl, hb'⟩
      replace HN := vl (HN.out.below hb')
      replace HMo := vl (HMo.out.below hb')
      have hB3 := hBk.trans (hb'.mono hBk.size)
      have z3 := hb'.size
      clear hBk hb'
      refine hK.out _ _ (HK.out _ hB3) (fun hHeld3 => ?_)
      clear hK K
      try dsimp only at hHeld3
      try simp only [Act.put, List.getElem_toArray, List.getElem_cons_succ, List.getElem_cons_zero, List.setIfInBounds_toArray, List.set_cons_zero, List.set_cons_succ]
      refine wpAnyH_ready (rs := [5]) (by kernel_rfl) (by simp) ?_
      refine AllReadyH.cons (o := _) rfl (fun K hK => ?_) AllReadyH.nil
      have hBk := hHeld3.2.2.2.2.2.2.2.2
      go_simp
      go_at_call 9
      with_reducible refine (toReach r2 B2 D2 b2 d2 _ hn2 hm2 (HSP2.out.below (HB2.out.trans (hBk.mono HB2.out.size))) (HSI2.out.below (HB2.out.trans (hBk.mono HB2.out.size)))).mono ?_
      rintro en v4 ⟨⟨B6, b6, D6, d6, g6, h6, rfl, hc6, ho6⟩, hb'⟩
      replace HN := vl (HN.out.below hb')
      replace HMo := vl (HMo.out.below hb')
      have HRp := vl ho6.pts
      have HRi := vl ho6.ints
      have hB4 := hBk.trans (hb'.mono hBk.size)
      have z4 := hb'.size
      clear hBk hb'
      refine hK.out _ _ (HK.out _ hB4) (fun hHeld4 => ?_)
      clear hK K
      try dsimp only at hHeld4
      try simp only [Act.put, List.getElem_toArray, List.getElem_cons_succ, List.getElem_cons_zero, List.setIfInBounds_toArray, List.set_cons_zero, List.set_cons_succ]
      refine wpAnyH_ready (rs := [6]) (by kernel_rfl) (by simp) ?_
      refine AllReadyH.cons (o := _) rfl (fun K hK => ?_) AllReadyH.nil
      have hBk := hHeld4.2.2.2.2.2.2.2.2
      go_simp
      go_at_call 6
      with_reducible refine (HSp.out A5 c5 B6 D6 b6 d6 _ HMo.out HRp.out HRi.out).mono ?_
      rintro en v5 ⟨⟨A7, c7, g7, G7, rfl, hc7, ho7⟩, hb'⟩
      replace HN := vl (HN.out.below hb')
      replace HMo := vl (HMo.out.below hb')
      replace HRp := vl (HRp.out.below hb')
      replace HRi := vl (HRi.out.below hb')
      have HRs := vl ho7
      have hB5 := hBk.trans (hb'.mono hBk.size)
      have z5 := hb'.size
      clear hBk hb'
      refine hK.out _ _ (HK.out _ hB5) (fun hHeld5 => ?_)
      clear hK K
      try dsimp only at hHeld5
      try simp only [Act.put, List.getElem_toArray, List.getElem_cons_succ, List.getElem_cons_zero, List.setIfInBounds_toArray, List.set_cons_zero, List.set_cons_succ]
      have hBk := hHeld5.2.2.2.2.2.2.2.2
      obtain ⟨p0, p1, p2⟩ := HN.out.at
      obtain ⟨f0, f1, f2⟩ := HN.out.free
      refine wpAnyH_ready (rs := [8]) (by kernel_rfl) (by simp) ?_
      refine AllReadyH.cons (o := _) rfl (fun K hK => ?_) AllReadyH.nil
      go_simp
      clear p0 p1 p2 f0 f1 f2
      have hbj : ∀ j : Nat, w2.heap.size ≤ (⟨v0.heap.size, j, none⟩ : Addr).block := fun j => by dsimp only; omega
      have hB6 := (((hBk.setCell (hbj 0) (.bool N.up)).setCell (hbj 1) (.slice A7 N.T.length c7)).setCell (hbj 2) (.int .i64 N.p))
      have ht' := touch3 (w := v5) (g := v0.heap.size) (.bool N.up) (.slice A7 N.T.length c7) (.int .i64 N.p)
      replace HN := vl (((HN.out.set0 (.bool N.up)).set1 (.slice A7 N.T.length c7)).set2 (.int .i64 N.p))
      replace HRs := vl (HRs.out.touch ht' (by omega))
      have hsz : (((v5.setCell ⟨v0.heap.size, 0, none⟩ (.bool N.up)).setCell ⟨v0.heap.size, 1, none⟩ (.slice A7 N.T.length c7)).setCell ⟨v0.heap.size, 2, none⟩ (.int .i64 N.p)).heap.size = v5.heap.size := by simp
      generalize hu : (((v5.setCell ⟨v0.heap.size, 0, none⟩ (.bool N.up)).setCell ⟨v0.heap.size, 1, none⟩ (.slice A7 N.T.length c7)).setCell ⟨v0.heap.size, 2, none⟩ (.int .i64 N.p)) = v6 at *
      clear hu hbj hBk ht'
      refine hK.out _ _ (HK.out _ hB6) (fun hHeld6 => ?_)
      clear hK K
      try dsimp only at hHeld6
      try simp only [Act.put, List.getElem_toArray, List.getElem_cons_succ, List.getElem_cons_zero, List.setIfInBounds_toArray, List.set_cons_zero, List.set_cons_succ]
      refine wpAnyH_done (by kernel_rfl) ?_ _
      go_simp
      go_wp2_with fail
      go_meet
      exact ⟨_, _, _, _, _, _, _, rfl, vl ⟨HN.out, HRs.out⟩, vl hHeld6.2.2.2.2.2.2.2.2, vl (by omega)⟩
  case rest =>
  obtain ⟨b3, A3, c3, g3, G3, lo3, hi3, rfl, HW_x, hbc, hx⟩ := hcut
  obtain ⟨i30, i31, i32, i33, i34, i35⟩ := hx.out
  generalize wc = u3 at *
  have hb := hbc.out
  have HL0_3 := vl (HL0_2.out.below hb)
  have HL1_3 := vl (HL1_2.out.below hb)
  have HL2_3 := vl (HL2_2.out.below hb)
  have HB3 := vl (HB2.out.trans (hb.mono HB2.out.size))
  have z3 := hb.size
  clear HL0_2 HL1_2 HL2_2
  have HW_3 := HW_x
  clear hb hbc hx HW_x
  obtain ⟨l0_0, l0_1, l0_2⟩ := HL0_3.out.at
  go_wp2_with fail
  refine (toMover C0 A0 c0 _ hn0 HR0.out (HU0.out.src.below HB3.out)).mono ?_
  rintro en u4 ⟨⟨A4, c4, g4, G4, rfl, _, ho4⟩, hb4⟩
  clear l0_0 l0_1 l0_2
  have hba := (Below.refl u4.heap.size u4).alloc (Nat.le_refl _) (.cells #[.bool C0.up, .slice A4 C0.T.length c4, .int .i64 C0.p] 39)
  have hb := hb4.trans (hba.mono hb4.size)
  have HL0_5 := vl (HL0_3.out.below hb)
  have HL1_5 := vl (HL1_3.out.below hb)
  have HL2_5 := vl (HL2_3.out.below hb)
  have HW_5 := vl (HW_3.out.below hb)
  have HB5 := vl (HB3.out.trans (hb.mono HB3.out.size))
  have z5 := hb.size
  clear HL0_3 HL1_3 HL2_3 HW_3
  have HP_5 : Veil (OneM (u4.alloc (.cells #[.bool C0.up, .slice A4 C0.T.length c4, .int .i64 C0.p] 39)) u4.heap.size C0 A4 c4 u3.heap.size u4.heap.size C0.T g4 G4) := vl ⟨Box.new u4 _ _ _ _, ho4.below hba⟩
  have y5 := hb4.size
  have y5' : (u4.alloc (.cells #[.bool C0.up, .slice A4 C0.T.length c4, .int .i64 C0.p] 39)).heap.size = u4.heap.size + 1 := by simp
  clear hb hb4 hba ho4
  generalize hu5 : u4.alloc (.cells #[.bool C0.up, .slice A4 C0.T.length c4, .int .i64 C0.p] 39) = u5 at *
  obtain ⟨l2_0, l2_1, l2_2⟩ := HL2_5.out.at
  go_wp2_with fail
  try rw [hu5]
  clear hu5
  refine (toReach r2 B2 D2 b2 d2 _ hn2 hm2 (HSP2.out.below HB5.out) (HSI2.out.below HB5.out)).mono ?_
  rintro en u6 ⟨⟨B6, b6, D6, d6, g6, h6, rfl, _, ho6⟩, hb6⟩
  clear l2_0 l2_1 l2_2
  have hba := (Below.refl u6.heap.size u6).alloc (Nat.le_refl _) (.cells #[.slice B6 r2.n b6, .int .i64 r2.v, .slice D6 r2.m d6] 46)
  have hb := hb6.trans (hba.mono hb6.size)
  have HL0_7 := vl (HL0_5.out.below hb)
  have HL1_7 := vl (HL1_5.out.below hb)
  have HL2_7 := vl (HL2_5.out.below hb)
  have HW_7 := vl (HW_5.out.below hb)
  have HP_7 := vl (HP_5.out.below hb)
  have HB7 := vl (HB5.out.trans (hb.mono HB5.out.size))
  have z7 := hb.size
  clear HL0_5 HL1_5 HL2_5 HW_5 HP_5
  have HQ_7 : Veil (OneR (u6.alloc (.cells #[.slice B6 r2.n b6, .int .i64 r2.v, .slice D6 r2.m d6] 46)) u6.heap.size r2 B6 D6 b6 d6 u5.heap.size u6.heap.size g6 h6) := vl ⟨Box.new u6 _ _ _ _, ho6.below hba⟩
  have y7 := hb6.size
  have y7' : (u6.alloc (.cells #[.slice B6 r2.n b6, .int .i64 r2.v, .slice D6 r2.m d6] 46)).heap.size = u6.heap.size + 1 := by simp
  clear hb hb6 hba ho6
  generalize hu7 : u6.alloc (.cells #[.slice B6 r2.n b6, .int .i64 r2.v, .slice D6 r2.m d6] 46) = u7 at *
  go_upto_region 11 with fail
  try rw [hu7]
  clear hu7
  obtain ⟨p0, p1, p2⟩ := HP_7.out.x.at
  obtain ⟨q0, q1, q2⟩ := HQ_7.out.x.at
  obtain ⟨l1_0, l1_1⟩ := HL1_7.out.at
  go_cut [11] (fun s wx => ∃ bn A5 c5 g5 G5 lo hi, s = .pointer (some ⟨bn, 0, none⟩) ∧ Veil (OneM wx bn N A5 c5 lo hi N.T g5 G5) ∧ Veil (Below u7.heap.size u7 wx) ∧ Veil (u7.heap.size ≤ bn ∧ bn < wx.heap.size ∧ u7.heap.size ≤ lo ∧ lo ≤ hi ∧ hi ≤ wx.heap.size ∧ (bn < lo ∨ hi ≤ bn)))
  case first =>
    have HK := vl (fun (w' : World) (hb' : Below u7.heap.size u7 w') => (show w'.cell? ⟨u4.heap.size, 0, none⟩ = some (.bool C0.up) ∧ w'.cell? ⟨u4.heap.size, 1, none⟩ = some (.slice A4 C0.T.length c4) ∧ w'.cell? ⟨u4.heap.size, 2, none⟩ = some (.int .i64 C0.p) ∧ w'.cell? ⟨g1, 0, none⟩ = some (.int .i64 Y1.l) ∧ w'.cell? ⟨g1, 1, none⟩ = some (.int .i64 Y1.b) ∧ w'.cell? ⟨u6.heap.size, 0, none⟩ = some (.slice B6 r2.n b6) ∧ w'.cell? ⟨u6.heap.size, 1, none⟩ = some (.int .i64 r2.v) ∧ w'.cell? ⟨u6.heap.size, 2, none⟩ = some (.slice D6 r2.m d6) ∧ Below u7.heap.size u7 w' from ⟨(hb'.cell (cell_lt' p0)).trans p0, (hb'.cell (cell_lt' p1)).trans p1, (hb'.cell (cell_lt' p2)).trans p2, (hb'.cell (cell_lt' l1_0)).trans l1_0, (hb'.cell (cell_lt' l1_1)).trans l1_1, (hb'.cell (cell_lt' q0)).trans q0, (hb'.cell (cell_lt' q1)).trans q1, (hb'.cell (cell_lt' q2)).trans q2, hb'⟩))
    refine wp_region_held_drew (S := fun w' => w'.cell? ⟨u4.heap.size, 0, none⟩ = some (.bool C0.up) ∧ w'.cell? ⟨u4.heap.size, 1, none⟩ = some (.slice A4 C0.T.length c4) ∧ w'.cell? ⟨u4.heap.size, 2, none⟩ = some (.int .i64 C0.p) ∧ w'.cell? ⟨g1, 0, none⟩ = some (.int .i64 Y1.l) ∧ w'.cell? ⟨g1, 1, none⟩ = some (.int .i64 Y1.b) ∧ w'.cell? ⟨u6.heap.size, 0, none⟩ = some (.slice B6 r2.n b6) ∧ w'.cell? ⟨u6.heap.size, 1, none⟩ = some (.int .i64 r2.v) ∧ w'.cell? ⟨u6.heap.size, 2, none⟩ = some (.slice D6 r2.m d6) ∧ Below u7.heap.size u7 w') (by kernel_rfl) (HK.out _ (Below.refl _ _).drew) (fun hHeld0 => ?_)
    clear p0 p1 p2 l1_0 l1_1 q0 q1 q2
    try dsimp only at hHeld0
    have s0 : u7.heap.size ≤ u7.drew.heap.size := hHeld0.2.2.2.2.2.2.2.2.size
    generalize u7.drew = v0 at *
    refine wpAnyH_take (i := 0) (oi := _) (v := ?_) rfl (by kernel_rfl) (by kernel_rfl) (by kernel_rfl) (fun _ _ _ h => h) (Or.inl ⟨by rfl, ?_⟩) (by assumption) ?_
    rotate_left 1
    · intro w hSw
      try dsimp only at hSw
      go_simp
      try with_reducible rfl
    try simp only [Act.put, List.getElem_toArray, List.getElem_cons_succ, List.getElem_cons_zero, List.setIfInBounds_toArray, List.set_cons_zero, List.set_cons_succ]
    refine wpAnyH_take (i := 1) (oi := _) (v := ?_) rfl (by kernel_rfl) (by kernel_rfl) (by kernel_rfl) (fun _ _ _ h => h) (Or.inl ⟨by rfl, ?_⟩) (by assumption) ?_
    rotate_left 1
    · intro w hSw
      try dsimp only at hSw
      go_simp
      try with_reducible rfl
    try simp only [Act.put, List.getElem_toArray, List.getElem_cons_succ, List.getElem_cons_zero, List.setIfInBounds_toArray, List.set_cons_zero, List.set_cons_succ]
    refine wpAnyH_take (i := 3) (oi := _) (v := ?_) rfl (by kernel_rfl) (by kernel_rfl) (by kernel_rfl) (fun _ _ _ h => h) (Or.inl ⟨by rfl, ?_⟩) (by assumption) ?_
    rotate_left 1
    · intro w hSw
      try dsimp only at hSw
      go_simp
      try with_reducible rfl
    try simp only [Act.put, List.getElem_toArray, List.getElem_cons_succ, List.getElem_cons_zero, List.setIfInBounds_toArray, List.set_cons_zero, List.set_cons_succ]
    refine wpAnyH_ready (rs := [2, 5]) (by kernel_rfl) (by simp) ?_
    refine AllReadyH.cons (o := _) rfl (fun K hK => ?_) (AllReadyH.cons (o := _) rfl (fun K hK => ?_) AllReadyH.nil)
    · have hBk := hHeld0.2.2.2.2.2.2.2.2
      go_simp
      go_at_call 8
      with_reducible refine (toWay Y1 _).mono ?_
      rintro en v1 ⟨rfl, hb'⟩
      have hB1 := hBk.trans (hb'.mono hBk.size)
      have z1 := hb'.size
      clear hBk hb'
      refine hK.out _ _ (HK.out _ hB1) (fun hHeld1 => ?_)
      clear hK K
      try dsimp only at hHeld1
      try simp only [Act.put, List.getElem_toArray, List.getElem_cons_succ, List.getElem_cons_zero, List.setIfInBounds_toArray, List.set_cons_zero, List.set_cons_succ]
      refine wpAnyH_ready (rs := [4, 5]) (by kernel_rfl) (by simp) ?_
      refine AllReadyH.cons (o := _) rfl (fun K hK => ?_) (AllReadyH.cons (o := _) rfl (fun K hK => ?_) AllReadyH.nil)
      · have hBk := hHeld1.2.2.2.2.2.2.2.2
        go_simp
        go_at_call 10
        with_reducible refine (HIm.out A4 c4 B6 D6 b6 d6 _ (HP_7.out.o.trn.below hBk) (HQ_7.out.o.pts.below hBk) (HQ_7.out.o.ints.below hBk)).mono ?_
        rintro en v2 ⟨⟨A7, c7, g7, G7, rfl, hc7, ho7⟩, hb'⟩
        have HRs := vl ho7
        have hB2 := hBk.trans (hb'.mono hBk.size)
        have z2 := hb'.size
        clear hBk hb'
        refine hK.out _ _ (HK.out _ hB2) (fun hHeld2 => ?_)
        clear hK K
        try dsimp only at hHeld2
        try simp only [Act.put, List.getElem_toArray, List.getElem_cons_succ, List.getElem_cons_zero, List.setIfInBounds_toArray, List.set_cons_zero, List.set_cons_succ]
        refine wpAnyH_ready (rs := [5]) (by kernel_rfl) (by simp) ?_
        refine AllReadyH.cons (o := _) rfl (fun K hK => ?_) AllReadyH.nil
        have hBk := hHeld2.2.2.2.2.2.2.2.2
        go_simp
        have HN := vl (Box.new v2 (.bool false) (.slice none 0 0) (.int .i64 0) 39)
        have hb' := (Below.refl v2.heap.size v2).alloc (Nat.le_refl _) (.cells #[.bool false, .slice none 0 0, .int .i64 0] 39)
        have hsN : v2.heap.size < (v2.alloc (.cells #[.bool false, .slice none 0 0, .int .i64 0] 39)).heap.size := by simp
        obtain ⟨bn, hbn⟩ : ∃ x, x = v2.heap.size := ⟨_, rfl⟩
        generalize hu : v2.alloc (.cells #[.bool false, .slice none 0 0, .int .i64 0] 39) = v3 at *
        clear hu
        replace HRs := vl (HRs.out.below hb')
        have hB3 := hBk.trans (hb'.mono hBk.size)
        have z3 := hb'.size
        clear hBk hb'
        refine hK.out _ _ (HK.out _ hB3) (fun hHeld3 => ?_)
        clear hK K
        try dsimp only at hHeld3
        try simp only [Act.put, List.getElem_toArray, List.getElem_cons_succ, List.getElem_cons_zero, List.setIfInBounds_toArray, List.set_cons_zero, List.set_cons_succ]
        have hBk := hHeld3.2.2.2.2.2.2.2.2
        obtain ⟨p0, p1, p2⟩ := HN.out.at
        obtain ⟨f0, f1, f2⟩ := HN.out.free
        refine wpAnyH_ready (rs := [6]) (by kernel_rfl) (by simp) ?_
        refine AllReadyH.cons (o := _) rfl (fun K hK => ?_) AllReadyH.nil
        go_simp
        clear p0 p1 p2 f0 f1 f2
        have hbj : ∀ j : Nat, u7.heap.size ≤ (⟨v2.heap.size, j, none⟩ : Addr).block := fun j => by dsimp only; omega
        have hB4 := (((hBk.setCell (hbj 0) (.bool N.up)).setCell (hbj 1) (.slice A7 N.T.length c7)).setCell (hbj 2) (.int .i64 N.p))
        have ht' := touch3 (w := v3) (g := v2.heap.size) (.bool N.up) (.slice A7 N.T.length c7) (.int .i64 N.p)
        replace HN := vl (((HN.out.set0 (.bool N.up)).set1 (.slice A7 N.T.length c7)).set2 (.int .i64 N.p))
        replace HRs := vl (HRs.out.touch ht' (by omega))
        have hsz : (((v3.setCell ⟨v2.heap.size, 0, none⟩ (.bool N.up)).setCell ⟨v2.heap.size, 1, none⟩ (.slice A7 N.T.length c7)).setCell ⟨v2.heap.size, 2, none⟩ (.int .i64 N.p)).heap.size = v3.heap.size := by simp
        generalize hu : (((v3.setCell ⟨v2.heap.size, 0, none⟩ (.bool N.up)).setCell ⟨v2.heap.size, 1, none⟩ (.slice A7 N.T.length c7)).setCell ⟨v2.heap.size, 2, none⟩ (.int .i64 N.p)) = v4 at *
        clear hu hbj hBk ht'
        refine hK.out _ _ (HK.out _ hB4) (fun hHeld4 => ?_)
        clear hK K
        try dsimp only at hHeld4
        try simp only [Act.put, List.getElem_toArray, List.getElem_cons_succ, List.getElem_cons_zero, List.setIfInBounds_toArray, List.set_cons_zero, List.set_cons_succ]
        refine wpAnyH_done (by kernel_rfl) ?_ _
        go_simp
        go_wp2_with fail
        go_meet
        exact ⟨_, _, _, _, _, _, _, rfl, vl ⟨HN.out, HRs.out⟩, vl hHeld4.2.2.2.2.2.2.2.2, vl (by omega)⟩
      · have hBk := hHeld1.2.2.2.2.2.2.2.2
        go_simp
        have HN := vl (Box.new v1 (.bool false) (.slice none 0 0) (.int .i64 0) 39)
        have hb' := (Below.refl v1.heap.size v1).alloc (Nat.le_refl _) (.cells #[.bool false, .slice none 0 0, .int .i64 0] 39)
        have hsN : v1.heap.size < (v1.alloc (.cells #[.bool false, .slice none 0 0, .int .i64 0] 39)).heap.size := by simp
        obtain ⟨bn, hbn⟩ : ∃ x, x = v1.heap.size := ⟨_, rfl⟩
        generalize hu : v1.alloc (.cells #[.bool false, .slice none 0 0, .int .i64 0] 39) = v2 at *
        clear hu
        have hB2 := hBk.trans (hb'.mono hBk.size)
        have z2 := hb'.size
        clear hBk hb'
        refine hK.out _ _ (HK.out _ hB2) (fun hHeld2 => ?_)
        clear hK K
        try dsimp only at hHeld2
        try simp only [Act.put, List.getElem_toArray, List.getElem_cons_succ, List.getElem_cons_zero, List.setIfInBounds_toArray, List.set_cons_zero, List.set_cons_succ]
        refine wpAnyH_ready (rs := [4]) (by kernel_rfl) (by simp) ?_
        refine AllReadyH.cons (o := _) rfl (fun K hK => ?_) AllReadyH.nil
        have hBk := hHeld2.2.2.2.2.2.2.2.2
        go_simp
        go_at_call 10
        with_reducible refine (HIm.out A4 c4 B6 D6 b6 d6 _ (HP_7.out.o.trn.below hBk) (HQ_7.out.o.pts.below hBk) (HQ_7.out.o.ints.below hBk)).mono ?_
        rintro en v3 ⟨⟨A7, c7, g7, G7, rfl, hc7, ho7⟩, hb'⟩
        replace HN := vl (HN.out.below hb')
        have HRs := vl ho7
        have hB3 := hBk.trans (hb'.mono hBk.size)
        have z3 := hb'.size
        clear hBk hb'
        refine hK.out _ _ (HK.out _ hB3) (fun hHeld3 => ?_)
        clear hK K
        try dsimp only at hHeld3
        try simp only [Act.put, List.getElem_toArray, List.getElem_cons_succ, List.getElem_cons_zero, List.setIfInBounds_toArray, List.set_cons_zero, List.set_cons_succ]
        have hBk := hHeld3.2.2.2.2.2.2.2.2
        obtain ⟨p0, p1, p2⟩ := HN.out.at
        obtain ⟨f0, f1, f2⟩ := HN.out.free
        refine wpAnyH_ready (rs := [6]) (by kernel_rfl) (by simp) ?_
        refine AllReadyH.cons (o := _) rfl (fun K hK => ?_) AllReadyH.nil
        go_simp
        clear p0 p1 p2 f0 f1 f2
        have hbj : ∀ j : Nat, u7.heap.size ≤ (⟨v1.heap.size, j, none⟩ : Addr).block := fun j => by dsimp only; omega
        have hB4 := (((hBk.setCell (hbj 0) (.bool N.up)).setCell (hbj 1) (.slice A7 N.T.length c7)).setCell (hbj 2) (.int .i64 N.p))
        have ht' := touch3 (w := v3) (g := v1.heap.size) (.bool N.up) (.slice A7 N.T.length c7) (.int .i64 N.p)
        replace HN := vl (((HN.out.set0 (.bool N.up)).set1 (.slice A7 N.T.length c7)).set2 (.int .i64 N.p))
        replace HRs := vl (HRs.out.touch ht' (by omega))
        have hsz : (((v3.setCell ⟨v1.heap.size, 0, none⟩ (.bool N.up)).setCell ⟨v1.heap.size, 1, none⟩ (.slice A7 N.T.length c7)).setCell ⟨v1.heap.size, 2, none⟩ (.int .i64 N.p)).heap.size = v3.heap.size := by simp
        generalize hu : (((v3.setCell ⟨v1.heap.size, 0, none⟩ (.bool N.up)).setCell ⟨v1.heap.size, 1, none⟩ (.slice A7 N.T.length c7)).setCell ⟨v1.heap.size, 2, none⟩ (.int .i64 N.p)) = v4 at *
        clear hu hbj hBk ht'
        refine hK.out _ _ (HK.out _ hB4) (fun hHeld4 => ?_)
        clear hK K
        try dsimp only at hHeld4
        try simp only [Act.put, List.getElem_toArray, List.getElem_cons_succ, List.getElem_cons_zero, List.setIfInBounds_toArray, List.set_cons_zero, List.set_cons_succ]
        refine wpAnyH_done (by kernel_rfl) ?_ _
        go_simp
        go_wp2_with fail
        go_meet
        exact ⟨_, _, _, _, _, _, _, rfl, vl ⟨HN.out, HRs.out⟩, vl hHeld4.2.2.2.2.2.2.2.2, vl (by omega)⟩
    · have hBk := hHeld0.2.2.2.2.2.2.2.2
      go_simp
      have HN := vl (Box.new v0 (.bool false) (.slice none 0 0) (.int .i64 0) 39)
      have hb' := (Below.refl v0.heap.size v0).alloc (Nat.le_refl _) (.cells #[.bool false, .slice none 0 0, .int .i64 0] 39)
      have hsN : v0.heap.size < (v0.alloc (.cells #[.bool false, .slice none 0 0, .int .i64 0] 39)).heap.size := by simp
      obtain ⟨bn, hbn⟩ : ∃ x, x = v0.heap.size := ⟨_, rfl⟩
      generalize hu : v0.alloc (.cells #[.bool false, .slice none 0 0, .int .i64 0] 39) = v1 at *
      clear hu
      have hB1 := hBk.trans (hb'.mono hBk.size)
      have z1 := hb'.size
      clear hBk hb'
      refine hK.out _ _ (HK.out _ hB1) (fun hHeld1 => ?_)
      clear hK K
      try dsimp only at hHeld1
      try simp only [Act.put, List.getElem_toArray, List.getElem_cons_succ, List.getElem_cons_zero, List.setIfInBounds_toArray, List.set_cons_zero, List.set_cons_succ]
      refine wpAnyH_ready (rs := [2]) (by kernel_rfl) (by simp) ?_
      refine AllReadyH.cons (o := _) rfl (fun K hK => ?_) AllReadyH.nil
      have hBk := hHeld1.2.2.2.2.2.2.2.2
      go_simp
      go_at_call 8
      with_reducible refine (toWay Y1 _).mono ?_
      rintro en v2 ⟨rfl, hb'⟩
      replace HN := vl (HN.out.below hb')
      have hB2 := hBk.trans (hb'.mono hBk.size)
      have z2 := hb'.size
      clear hBk hb'
      refine hK.out _ _ (HK.out _ hB2) (fun hHeld2 => ?_)
      clear hK K
      try dsimp only at hHeld2
      try simp only [Act.put, List.getElem_toArray, List.getElem_cons_succ, List.getElem_cons_zero, List.setIfInBounds_toArray, List.set_cons_zero, List.set_cons_succ]
      refine wpAnyH_ready (rs := [4]) (by kernel_rfl) (by simp) ?_
      refine AllReadyH.cons (o := _) rfl (fun K hK => ?_) AllReadyH.nil
      have hBk := hHeld2.2.2.2.2.2.2.2.2
      go_simp
      go_at_call 10
      with_reducible refine (HIm.out A4 c4 B6 D6 b6 d6 _ (HP_7.out.o.trn.below hBk) (HQ_7.out.o.pts.below hBk) (HQ_7.out.o.ints.below hBk)).mono ?_
      rintro en v3 ⟨⟨A7, c7, g7, G7, rfl, hc7, ho7⟩, hb'⟩
      replace HN := vl (HN.out.below hb')
      have HRs := vl ho7
      have hB3 := hBk.trans (hb'.mono hBk.size)
      have z3 := hb'.size
      clear hBk hb'
      refine hK.out _ _ (HK.out _ hB3) (fun hHeld3 => ?_)
      clear hK K
      try dsimp only at hHeld3
      try simp only [Act.put, List.getElem_toArray, List.getElem_cons_succ, List.getElem_cons_zero, List.setIfInBounds_toArray, List.set_cons_zero, List.set_cons_succ]
      have hBk := hHeld3.2.2.2.2.2.2.2.2
      obtain ⟨p0, p1, p2⟩ := HN.out.at
      obtain ⟨f0, f1, f2⟩ := HN.out.free
      refine wpAnyH_ready (rs := [6]) (by kernel_rfl) (by simp) ?_
      refine AllReadyH.cons (o := _) rfl (fun K hK => ?_) AllReadyH.nil
      go_simp
      clear p0 p1 p2 f0 f1 f2
      have hbj : ∀ j : Nat, u7.heap.size ≤ (⟨v0.heap.size, j, none⟩ : Addr).block := fun j => by dsimp only; omega
      have hB4 := (((hBk.setCell (hbj 0) (.bool N.up)).setCell (hbj 1) (.slice A7 N.T.length c7)).setCell (hbj 2) (.int .i64 N.p))
      have ht' := touch3 (w := v3) (g := v0.heap.size) (.bool N.up) (.slice A7 N.T.length c7) (.int .i64 N.p)
      replace HN := vl (((HN.out.set0 (.bool N.up)).set1 (.slice A7 N.T.length c7)).set2 (.int .i64 N.p))
      replace HRs := vl (HRs.out.touch ht' (by omega))
      have hsz : (((v3.setCell ⟨v0.heap.size, 0, none⟩ (.bool N.up)).setCell ⟨v0.heap.size, 1, none⟩ (.slice A7 N.T.length c7)).setCell ⟨v0.heap.size, 2, none⟩ (.int .i64 N.p)).heap.size = v3.heap.size := by simp
      generalize hu : (((v3.setCell ⟨v0.heap.size, 0, none⟩ (.bool N.up)).setCell ⟨v0.heap.size, 1, none⟩ (.slice A7 N.T.length c7)).setCell ⟨v0.heap.size, 2, none⟩ (.int .i64 N.p)) = v4 at *
      clear hu hbj hBk ht'
      refine hK.out _ _ (HK.out _ hB4) (fun hHeld4 => ?_)
      clear hK K
      try dsimp only at hHeld4
      try simp only [Act.put, List.getElem_toArray, List.getElem_cons_succ, List.getElem_cons_zero, List.setIfInBounds_toArray, List.set_cons_zero, List.set_cons_succ]
      refine wpAnyH_done (by kernel_rfl) ?_ _
      go_simp
      go_wp2_with fail
      go_meet
      exact ⟨_, _, _, _, _, _, _, rfl, vl ⟨HN.out, HRs.out⟩, vl hHeld4.2.2.2.2.2.2.2.2, vl (by omega)⟩
  case rest =>
  obtain ⟨b8, A8, c8, g8, G8, lo8, hi8, rfl, HG_x, hbc, hx⟩ := hcut
  obtain ⟨i80, i81, i82, i83, i84, i85⟩ := hx.out
  generalize wc = u8 at *
  have hb := hbc.out
  have HL0_8 := vl (HL0_7.out.below hb)
  have HL1_8 := vl (HL1_7.out.below hb)
  have HL2_8 := vl (HL2_7.out.below hb)
  have HW_8 := vl (HW_7.out.below hb)
  have HP_8 := vl (HP_7.out.below hb)
  have HQ_8 := vl (HQ_7.out.below hb)
  have HB8 := vl (HB7.out.trans (hb.mono HB7.out.size))
  have z8 := hb.size
  clear HL0_7 HL1_7 HL2_7 HW_7 HP_7 HQ_7
  have HG_8 := HG_x
  clear hb hbc hx HG_x
  obtain ⟨a0, a1, a2⟩ := HG_8.out.x.at
  obtain ⟨e0, e1, e2⟩ := HW_8.out.x.at
  go_wp2_with fail
  refine (eqMover N _ _ _ _ _ hnN HRN.out HG_8.out.o.trn HW_8.out.o.trn).mono ?_
  rintro en u9 ⟨rfl, hb⟩
  clear a0 a1 a2 e0 e1 e2
  have HL0_9 := vl (HL0_8.out.below hb)
  have HL1_9 := vl (HL1_8.out.below hb)
  have HL2_9 := vl (HL2_8.out.below hb)
  have HW_9 := vl (HW_8.out.below hb)
  have HP_9 := vl (HP_8.out.below hb)
  have HQ_9 := vl (HQ_8.out.below hb)
  have HG_9 := vl (HG_8.out.below hb)
  have HB9 := vl (HB8.out.trans (hb.mono HB8.out.size))
  have z9 := hb.size
  clear HL0_8 HL1_8 HL2_8 HW_8 HP_8 HQ_8 HG_8
  clear hb
  obtain ⟨p0, p1, p2⟩ := HP_9.out.x.at
  obtain ⟨l0_0, l0_1, l0_2⟩ := HL0_9.out.at
  go_wp2
  go_region_held3 (fun w' => w'.cell? ⟨u4.heap.size, 0, none⟩ = some (.bool C0.up) ∧ w'.cell? ⟨u4.heap.size, 1, none⟩ = some (.slice A4 C0.T.length c4) ∧ w'.cell? ⟨u4.heap.size, 2, none⟩ = some (.int .i64 C0.p) ∧ w'.cell? ⟨w.heap.size, 0, none⟩ = some (.bool C0.up) ∧ w'.cell? ⟨w.heap.size, 1, none⟩ = some (.slice A0 C0.T.length c0) ∧ w'.cell? ⟨w.heap.size, 2, none⟩ = some (.int .i64 C0.p) ∧ Below u9.heap.size u9 w')
    (first | exact ⟨p0, p1, p2, l0_0, l0_1, l0_2, Below.refl _ _⟩ | exact ⟨p0, p1, p2, l0_0, l0_1, l0_2, (Below.refl _ _).drew⟩ | assumption)
    (first
      | (go_at_call 7; obtain ⟨m0, m1, m2, m3, m4, m5, hb7⟩ : _ ∧ _ ∧ _ ∧ _ ∧ _ ∧ _ ∧ Below u9.heap.size u9 _ := by assumption
         refine (toMover C0 A0 c0 _ hn0 HR0.out (HU0.out.src.below (HB9.out.trans (hb7.mono HB9.out.size)))).mono ?_
         rintro en w' ⟨⟨A9, c9, g9, G9, rfl, _, ho9⟩, hb'⟩
         have HOE := vl ho9.trn
         have S1 := And.intro ((hb'.cell (cell_lt' m0)).trans m0) (And.intro ((hb'.cell (cell_lt' m1)).trans m1) (And.intro ((hb'.cell (cell_lt' m2)).trans m2) (And.intro ((hb'.cell (cell_lt' m3)).trans m3) (And.intro ((hb'.cell (cell_lt' m4)).trans m4) (And.intro ((hb'.cell (cell_lt' m5)).trans m5) (hb7.trans (hb'.mono hb7.size)))))))
         clear ho9 hb')
      | (go_at_call 11; obtain ⟨m0, m1, m2, m3, m4, m5, hb7⟩ : _ ∧ _ ∧ _ ∧ _ ∧ _ ∧ _ ∧ Below u9.heap.size u9 _ := by assumption
         refine (eqMover C0 _ _ _ _ _ hn0 HR0.out (HP_9.out.o.trn.below hb7) HOE.out).mono ?_
         rintro en w' ⟨rfl, hb'⟩
         have S2 := And.intro ((hb'.cell (cell_lt' m0)).trans m0) (And.intro ((hb'.cell (cell_lt' m1)).trans m1) (And.intro ((hb'.cell (cell_lt' m2)).trans m2) (And.intro ((hb'.cell (cell_lt' m3)).trans m3) (And.intro ((hb'.cell (cell_lt' m4)).trans m4) (And.intro ((hb'.cell (cell_lt' m5)).trans m5) (hb7.trans (hb'.mono hb7.size)))))))
         clear hb'))
  obtain ⟨m0, m1, m2, m3, m4, m5, hb9⟩ : _ ∧ _ ∧ _ ∧ _ ∧ _ ∧ _ ∧ Below u9.heap.size u9 _ := by assumption
  obtain ⟨u10, hw9⟩ : ∃ u, u = w' := ⟨_, rfl⟩
  rw [← hw9] at m0 m1 m2 m3 m4 m5 hb9 ⊢
  clear hw9 S1 S2 HOE m0 m1 m2 m3 m4 m5 p0 p1 p2 l0_0 l0_1 l0_2
  have HL0_10 := vl (HL0_9.out.below hb9)
  have HL1_10 := vl (HL1_9.out.below hb9)
  have HL2_10 := vl (HL2_9.out.below hb9)
  have HW_10 := vl (HW_9.out.below hb9)
  have HP_10 := vl (HP_9.out.below hb9)
  have HQ_10 := vl (HQ_9.out.below hb9)
  have HG_10 := vl (HG_9.out.below hb9)
  have HB10 := vl (HB9.out.trans (hb9.mono HB9.out.size))
  have z10 := hb9.size
  clear HL0_9 HL1_9 HL2_9 HW_9 HP_9 HQ_9 HG_9
  clear hb9
  obtain ⟨q0, q1, q2⟩ := HQ_10.out.x.at
  obtain ⟨l2_0, l2_1, l2_2⟩ := HL2_10.out.at
  go_wp2
  go_region_held3 (fun w' => w'.cell? ⟨u6.heap.size, 0, none⟩ = some (.slice B6 r2.n b6) ∧ w'.cell? ⟨u6.heap.size, 1, none⟩ = some (.int .i64 r2.v) ∧ w'.cell? ⟨u6.heap.size, 2, none⟩ = some (.slice D6 r2.m d6) ∧ w'.cell? ⟨g2, 0, none⟩ = some (.slice B2 r2.n b2) ∧ w'.cell? ⟨g2, 1, none⟩ = some (.int .i64 r2.v) ∧ w'.cell? ⟨g2, 2, none⟩ = some (.slice D2 r2.m d2) ∧ Below u10.heap.size u10 w')
    (first | exact ⟨q0, q1, q2, l2_0, l2_1, l2_2, Below.refl _ _⟩ | exact ⟨q0, q1, q2, l2_0, l2_1, l2_2, (Below.refl _ _).drew⟩ | assumption)
    (first
      | (go_at_call 9; obtain ⟨m0, m1, m2, m3, m4, m5, hb7⟩ : _ ∧ _ ∧ _ ∧ _ ∧ _ ∧ _ ∧ Below u10.heap.size u10 _ := by assumption
         refine (toReach r2 B2 D2 b2 d2 _ hn2 hm2 (HSP2.out.below (HB10.out.trans (hb7.mono HB10.out.size))) (HSI2.out.below (HB10.out.trans (hb7.mono HB10.out.size)))).mono ?_
         rintro en w' ⟨⟨B9, b9, D9, d9, g9, h9, rfl, _, ho9⟩, hb'⟩
         have HOE := vl ho9
         have S1 := And.intro ((hb'.cell (cell_lt' m0)).trans m0) (And.intro ((hb'.cell (cell_lt' m1)).trans m1) (And.intro ((hb'.cell (cell_lt' m2)).trans m2) (And.intro ((hb'.cell (cell_lt' m3)).trans m3) (And.intro ((hb'.cell (cell_lt' m4)).trans m4) (And.intro ((hb'.cell (cell_lt' m5)).trans m5) (hb7.trans (hb'.mono hb7.size)))))))
         clear ho9 hb')
      | (go_at_call 12; obtain ⟨m0, m1, m2, m3, m4, m5, hb7⟩ : _ ∧ _ ∧ _ ∧ _ ∧ _ ∧ _ ∧ Below u10.heap.size u10 _ := by assumption
         refine (eqReach r2 _ _ _ _ _ _ _ _ _ hn2 hm2 (HQ_10.out.o.below hb7) HOE.out).mono ?_
         rintro en w' ⟨rfl, hb'⟩
         have S2 := And.intro ((hb'.cell (cell_lt' m0)).trans m0) (And.intro ((hb'.cell (cell_lt' m1)).trans m1) (And.intro ((hb'.cell (cell_lt' m2)).trans m2) (And.intro ((hb'.cell (cell_lt' m3)).trans m3) (And.intro ((hb'.cell (cell_lt' m4)).trans m4) (And.intro ((hb'.cell (cell_lt' m5)).trans m5) (hb7.trans (hb'.mono hb7.size)))))))
         clear hb'))
  obtain ⟨m0, m1, m2, m3, m4, m5, hb9⟩ : _ ∧ _ ∧ _ ∧ _ ∧ _ ∧ _ ∧ Below u10.heap.size u10 _ := by assumption
  obtain ⟨u11, hw9⟩ : ∃ u, u = w' := ⟨_, rfl⟩
  rw [← hw9] at m0 m1 m2 m3 m4 m5 hb9 ⊢
  clear hw9 S1 S2 HOE m0 m1 m2 m3 m4 m5 q0 q1 q2 l2_0 l2_1 l2_2
  have HL0_11 := vl (HL0_10.out.below hb9)
  have HL1_11 := vl (HL1_10.out.below hb9)
  have HL2_11 := vl (HL2_10.out.below hb9)
  have HW_11 := vl (HW_10.out.below hb9)
  have HP_11 := vl (HP_10.out.below hb9)
  have HQ_11 := vl (HQ_10.out.below hb9)
  have HG_11 := vl (HG_10.out.below hb9)
  have HB11 := vl (HB10.out.trans (hb9.mono HB10.out.size))
  have z11 := hb9.size
  clear HL0_10 HL1_10 HL2_10 HW_10 HP_10 HQ_10 HG_10
  clear hb9
  have hall := HM0.out.all
  have hallN := HMN.out.all
  obtain ⟨K1, hK1⟩ : ∃ K1, K1 = 1 + 6 * (bts C0.T).length := ⟨_, rfl⟩
  obtain ⟨K2, hK2⟩ : ∃ K2, K2 = K1 + 2 * r2.n + r2.m := ⟨_, rfl⟩
  obtain ⟨K3, hK3⟩ : ∃ K3, K3 = 1 + 6 * (bts N.T).length := ⟨_, rfl⟩
  have hz1 : (0 : Int) ≤ (K1 : Int) := by omega
  have hz2 : (0 : Int) ≤ (K2 : Int) := by omega
  have hz3 : (0 : Int) ≤ (K3 : Int) := by omega
  have hk1 : K1 ≤ 50000000 := by omega
  have HK1 := vl hK1
  have HK2 := vl hK2
  have HK3 := vl hK3
  clear hK1 hK2 hK3
  obtain ⟨a0, a1, a2⟩ := HP_11.out.x.at
  go_wp2_with fail
  refine (markMover C0 A4 c4 1 _ HM0.out (by omega) HP_11.out.o (by omega)).mono ?_
  rintro en u12 ⟨he, ho, ht⟩
  rw [← HK1.out] at he
  subst he
  clear a0 a1 a2
  have hs := ht.size
  have HL0_12 := vl (HL0_11.out.touch ht (by omega))
  have HL1_12 := vl (HL1_11.out.touch ht (by omega))
  have HL2_12 := vl (HL2_11.out.touch ht (by omega))
  have HW_12 := vl (HW_11.out.touch ht (by omega) (by omega))
  have HQ_12 := vl (HQ_11.out.touch ht (by omega) (by omega))
  have HG_12 := vl (HG_11.out.touch ht (by omega) (by omega))
  have HB12 := vl (ht.below HB11.out (by omega))
  have z12 := hs
  clear ht ho hs HL0_11 HL1_11 HL2_11 HW_11 HP_11 HQ_11 HG_11
  obtain ⟨a0, a1, a2⟩ := HQ_12.out.x.at
  go_wp2_with fail
  refine (markReach r2 B6 D6 b6 d6 K1 _ hn2 hm2 hk1 HQ_12.out.o (by omega)).mono ?_
  rintro en u13 ⟨he, ho, ht⟩
  rw [← HK2.out] at he
  subst he
  clear a0 a1 a2
  have hs := ht.size
  have HL0_13 := vl (HL0_12.out.touch ht (by omega))
  have HL1_13 := vl (HL1_12.out.touch ht (by omega))
  have HL2_13 := vl (HL2_12.out.touch ht (by omega))
  have HW_13 := vl (HW_12.out.touch ht (by omega) (by omega))
  have HG_13 := vl (HG_12.out.touch ht (by omega) (by omega))
  have HB13 := vl (ht.below HB12.out (by omega))
  have z13 := hs
  clear ht ho hs HL0_12 HL1_12 HL2_12 HW_12 HQ_12 HG_12
  obtain ⟨a0, a1, a2⟩ := HG_13.out.x.at
  obtain ⟨e0, e1, e2⟩ := HW_13.out.x.at
  go_wp2_with fail
  refine (eqMover N _ _ _ _ _ hnN HRN.out HG_13.out.o.trn HW_13.out.o.trn).mono ?_
  rintro en u14 ⟨rfl, hb⟩
  clear a0 a1 a2 e0 e1 e2
  have HL0_14 := vl (HL0_13.out.below hb)
  have HL1_14 := vl (HL1_13.out.below hb)
  have HL2_14 := vl (HL2_13.out.below hb)
  have HW_14 := vl (HW_13.out.below hb)
  have HG_14 := vl (HG_13.out.below hb)
  have HB14 := vl (HB13.out.trans (hb.mono HB13.out.size))
  have z14 := hb.size
  clear HL0_13 HL1_13 HL2_13 HW_13 HG_13
  clear hb
  obtain ⟨a0, a1, a2⟩ := HG_14.out.x.at
  go_wp2_with fail
  refine (markMover N A8 c8 1 _ HMN.out (by omega) HG_14.out.o (by omega)).mono ?_
  rintro en u15 ⟨he, ho, ht⟩
  rw [← HK3.out] at he
  subst he
  clear a0 a1 a2
  have hs := ht.size
  have HL0_15 := vl (HL0_14.out.touch ht (by omega))
  have HL1_15 := vl (HL1_14.out.touch ht (by omega))
  have HL2_15 := vl (HL2_14.out.touch ht (by omega))
  have HW_15 := vl (HW_14.out.touch ht (by omega) (by omega))
  have HG_15 := vl (HG_14.out.mark ht (by omega) ho)
  have HB15 := vl (ht.below HB14.out (by omega))
  have z15 := hs
  clear ht ho hs HL0_14 HL1_14 HL2_14 HW_14 HG_14
  obtain ⟨a0, a1, a2⟩ := HG_15.out.x.at
  go_wp2_with fail
  refine (heldMover N A8 c8 1 _ HMN.out (by omega) HG_15.out.o).mono ?_
  rintro en u16 ⟨he, hb⟩
  rw [← HK3.out] at he
  subst he
  clear a0 a1 a2
  have HL0_16 := vl (HL0_15.out.below hb)
  have HL1_16 := vl (HL1_15.out.below hb)
  have HL2_16 := vl (HL2_15.out.below hb)
  have HW_16 := vl (HW_15.out.below hb)
  have HG_16 := vl (HG_15.out.below hb)
  have HB16 := vl (HB15.out.trans (hb.mono HB15.out.size))
  have z16 := hb.size
  clear HL0_15 HL1_15 HL2_15 HW_15 HG_15
  clear hb
  go_upto_region 31 with fail
  obtain ⟨l0_0, l0_1, l0_2⟩ := HL0_16.out.at
  obtain ⟨l1_0, l1_1⟩ := HL1_16.out.at
  obtain ⟨l2_0, l2_1, l2_2⟩ := HL2_16.out.at
  go_cut [15] (fun s wx => ∃ bn A5 c5 g5 G5 lo hi, s = .pointer (some ⟨bn, 0, none⟩) ∧ Veil (OneM wx bn N A5 c5 lo hi N.T g5 G5) ∧ Veil (Below u16.heap.size u16 wx) ∧ Veil (u16.heap.size ≤ bn ∧ bn < wx.heap.size ∧ u16.heap.size ≤ lo ∧ lo ≤ hi ∧ hi ≤ wx.heap.size ∧ (bn < lo ∨ hi ≤ bn)))
  case first =>
    have HK := vl (fun (w' : World) (hb' : Below u16.heap.size u16 w') => (show w'.cell? ⟨w.heap.size, 0, none⟩ = some (.bool C0.up) ∧ w'.cell? ⟨w.heap.size, 1, none⟩ = some (.slice A0 C0.T.length c0) ∧ w'.cell? ⟨w.heap.size, 2, none⟩ = some (.int .i64 C0.p) ∧ w'.cell? ⟨g1, 0, none⟩ = some (.int .i64 Y1.l) ∧ w'.cell? ⟨g1, 1, none⟩ = some (.int .i64 Y1.b) ∧ w'.cell? ⟨g2, 0, none⟩ = some (.slice B2 r2.n b2) ∧ w'.cell? ⟨g2, 1, none⟩ = some (.int .i64 r2.v) ∧ w'.cell? ⟨g2, 2, none⟩ = some (.slice D2 r2.m d2) ∧ Below u16.heap.size u16 w' from ⟨(hb'.cell (cell_lt' l0_0)).trans l0_0, (hb'.cell (cell_lt' l0_1)).trans l0_1, (hb'.cell (cell_lt' l0_2)).trans l0_2, (hb'.cell (cell_lt' l1_0)).trans l1_0, (hb'.cell (cell_lt' l1_1)).trans l1_1, (hb'.cell (cell_lt' l2_0)).trans l2_0, (hb'.cell (cell_lt' l2_1)).trans l2_1, (hb'.cell (cell_lt' l2_2)).trans l2_2, hb'⟩))
    refine wp_region_held_drew (S := fun w' => w'.cell? ⟨w.heap.size, 0, none⟩ = some (.bool C0.up) ∧ w'.cell? ⟨w.heap.size, 1, none⟩ = some (.slice A0 C0.T.length c0) ∧ w'.cell? ⟨w.heap.size, 2, none⟩ = some (.int .i64 C0.p) ∧ w'.cell? ⟨g1, 0, none⟩ = some (.int .i64 Y1.l) ∧ w'.cell? ⟨g1, 1, none⟩ = some (.int .i64 Y1.b) ∧ w'.cell? ⟨g2, 0, none⟩ = some (.slice B2 r2.n b2) ∧ w'.cell? ⟨g2, 1, none⟩ = some (.int .i64 r2.v) ∧ w'.cell? ⟨g2, 2, none⟩ = some (.slice D2 r2.m d2) ∧ Below u16.heap.size u16 w') (by kernel_rfl) (HK.out _ (Below.refl _ _).drew) (fun hHeld0 => ?_)
    clear l0_0 l0_1 l0_2 l1_0 l1_1 l2_0 l2_1 l2_2
    try dsimp only at hHeld0
    have s0 : u16.heap.size ≤ u16.drew.heap.size := hHeld0.2.2.2.2.2.2.2.2.size
    generalize u16.drew = v0 at *
    refine wpAnyH_take (i := 0) (oi := _) (v := ?_) rfl (by kernel_rfl) (by kernel_rfl) (by kernel_rfl) (fun _ _ _ h => h) (Or.inl ⟨by rfl, ?_⟩) (by assumption) ?_
    rotate_left 1
    · intro w hSw
      try dsimp only at hSw
      go_simp
      try with_reducible rfl
    try simp only [Act.put, List.getElem_toArray, List.getElem_cons_succ, List.getElem_cons_zero, List.setIfInBounds_toArray, List.set_cons_zero, List.set_cons_succ]
    refine wpAnyH_take (i := 2) (oi := _) (v := ?_) rfl (by kernel_rfl) (by kernel_rfl) (by kernel_rfl) (fun _ _ _ h => h) (Or.inl ⟨by rfl, ?_⟩) (by assumption) ?_
    rotate_left 1
    · intro w hSw
      try dsimp only at hSw
      go_simp
      try with_reducible rfl
    try simp only [Act.put, List.getElem_toArray, List.getElem_cons_succ, List.getElem_cons_zero, List.setIfInBounds_toArray, List.set_cons_zero, List.set_cons_succ]
    refine wpAnyH_take (i := 4) (oi := _) (v := ?_) rfl (by kernel_rfl) (by kernel_rfl) (by kernel_rfl) (fun _ _ _ h => h) (Or.inl ⟨by rfl, ?_⟩) (by assumption) ?_
    rotate_left 1
    · intro w hSw
      try dsimp only at hSw
      go_simp
      try with_reducible rfl
    try simp only [Act.put, List.getElem_toArray, List.getElem_cons_succ, List.getElem_cons_zero, List.setIfInBounds_toArray, List.set_cons_zero, List.set_cons_succ]
    refine wpAnyH_ready (rs := [1, 7]) (by kernel_rfl) (by simp) ?_
    refine AllReadyH.cons (o := _) rfl (fun K hK => ?_) (AllReadyH.cons (o := _) rfl (fun K hK => ?_) AllReadyH.nil)
    · have hBk := hHeld0.2.2.2.2.2.2.2.2
      go_simp
      go_at_call 7
      with_reducible refine (toMover C0 A0 c0 _ hn0 HR0.out (HU0.out.src.below (HB16.out.trans (hBk.mono HB16.out.size)))).mono ?_
      rintro en v1 ⟨⟨A5, c5, g5, G5, rfl, hc5, ho5⟩, hb'⟩
      have HMo := vl ho5.trn
      have hB1 := hBk.trans (hb'.mono hBk.size)
      have z1 := hb'.size
      clear hBk hb'
      refine hK.out _ _ (HK.out _ hB1) (fun hHeld1 => ?_)
      clear hK K
      try dsimp only at hHeld1
      try simp only [Act.put, List.getElem_toArray, List.getElem_cons_succ, List.getElem_cons_zero, List.setIfInBounds_toArray, List.set_cons_zero, List.set_cons_succ]
      refine wpAnyH_ready (rs := [3, 7]) (by kernel_rfl) (by simp) ?_
      refine AllReadyH.cons (o := _) rfl (fun K hK => ?_) (AllReadyH.cons (o := _) rfl (fun K hK => ?_) AllReadyH.nil)
      · have hBk := hHeld1.2.2.2.2.2.2.2.2
        go_simp
        go_at_call 8
        with_reducible refine (toWay Y1 _).mono ?_
        rintro en v2 ⟨rfl, hb'⟩
        replace HMo := vl (HMo.out.below hb')
        have hB2 := hBk.trans (hb'.mono hBk.size)
        have z2 := hb'.size
        clear hBk hb'
        refine hK.out _ _ (HK.out _ hB2) (fun hHeld2 => ?_)
        clear hK K
        try dsimp only at hHeld2
        try simp only [Act.put, List.getElem_toArray, List.getElem_cons_succ, List.getElem_cons_zero, List.setIfInBounds_toArray, List.set_cons_zero, List.set_cons_succ]
        refine wpAnyH_ready (rs := [5, 7]) (by kernel_rfl) (by simp) ?_
        refine AllReadyH.cons (o := _) rfl (fun K hK => ?_) (AllReadyH.cons (o := _) rfl (fun K hK => ?_) AllReadyH.nil)
        · have hBk := hHeld2.2.2.2.2.2.2.2.2
          go_simp
          go_at_call 9
          with_reducible refine (toReach r2 B2 D2 b2 d2 _ hn2 hm2 (HSP2.out.below (HB16.out.trans (hBk.mono HB16.out.size))) (HSI2.out.below (HB16.out.trans (hBk.mono HB16.out.size)))).mono ?_
          rintro en v3 ⟨⟨B6, b6, D6, d6, g6, h6, rfl, hc6, ho6⟩, hb'⟩
          replace HMo := vl (HMo.out.below hb')
          have HRp := vl ho6.pts
          have HRi := vl ho6.ints
          have hB3 := hBk.trans (hb'.mono hBk.size)
          have z3 := hb'.size
          clear hBk hb'
          refine hK.out _ _ (HK.out _ hB3) (fun hHeld3 => ?_)
          clear hK K
          try dsimp only at hHeld3
          try simp only [Act.put, List.getElem_toArray, List.getElem_cons_succ, List.getElem_cons_zero, List.setIfInBounds_toArray, List.set_cons_zero, List.set_cons_succ]
          refine wpAnyH_ready (rs := [6, 7]) (by kernel_rfl) (by simp) ?_
          refine AllReadyH.cons (o := _) rfl (fun K hK => ?_) (AllReadyH.cons (o := _) rfl (fun K hK => ?_) AllReadyH.nil)
          · have hBk := hHeld3.2.2.2.2.2.2.2.2
            go_simp
            go_at_call 10
            with_reducible refine (HIm.out A5 c5 B6 D6 b6 d6 _ HMo.out HRp.out HRi.out).mono ?_
            rintro en v4 ⟨⟨A7, c7, g7, G7, rfl, hc7, ho7⟩, hb'⟩
            replace HMo := vl (HMo.out.below hb')
            replace HRp := vl (HRp.out.below hb')
            replace HRi := vl (HRi.out.below hb')
            have HRs := vl ho7
            have hB4 := hBk.trans (hb'.mono hBk.size)
            have z4 := hb'.size
            clear hBk hb'
            refine hK.out _ _ (HK.out _ hB4) (fun hHeld4 => ?_)
            clear hK K
            try dsimp only at hHeld4
            try simp only [Act.put, List.getElem_toArray, List.getElem_cons_succ, List.getElem_cons_zero, List.setIfInBounds_toArray, List.set_cons_zero, List.set_cons_succ]
            refine wpAnyH_ready (rs := [7]) (by kernel_rfl) (by simp) ?_
            refine AllReadyH.cons (o := _) rfl (fun K hK => ?_) AllReadyH.nil
            have hBk := hHeld4.2.2.2.2.2.2.2.2
            go_simp
            have HN := vl (Box.new v4 (.bool false) (.slice none 0 0) (.int .i64 0) 39)
            have hb' := (Below.refl v4.heap.size v4).alloc (Nat.le_refl _) (.cells #[.bool false, .slice none 0 0, .int .i64 0] 39)
            have hsN : v4.heap.size < (v4.alloc (.cells #[.bool false, .slice none 0 0, .int .i64 0] 39)).heap.size := by simp
            obtain ⟨bn, hbn⟩ : ∃ x, x = v4.heap.size := ⟨_, rfl⟩
            generalize hu : v4.alloc (.cells #[.bool false, .slice none 0 0, .int .i64 0] 39) = v5 at *
            clear hu
            replace HMo := vl (HMo.out.below hb')
            replace HRp := vl (HRp.out.below hb')
            replace HRi := vl (HRi.out.below hb')
            replace HRs := vl (HRs.out.below hb')
            have hB5 := hBk.trans (hb'.mono hBk.size)
            have z5 := hb'.size
            clear hBk hb'
            refine hK.out _ _ (HK.out _ hB5) (fun hHeld5 => ?_)
            clear hK K
            try dsimp only at hHeld5
            try simp only [Act.put, List.getElem_toArray, List.getElem_cons_succ, List.getElem_cons_zero, List.setIfInBounds_toArray, List.set_cons_zero, List.set_cons_succ]
            have hBk := hHeld5.2.2.2.2.2.2.2.2
            obtain ⟨p0, p1, p2⟩ := HN.out.at
            obtain ⟨f0, f1, f2⟩ := HN.out.free
            refine wpAnyH_ready (rs := [8]) (by kernel_rfl) (by simp) ?_
            refine AllReadyH.cons (o := _) rfl (fun K hK => ?_) AllReadyH.nil
            go_simp
            clear p0 p1 p2 f0 f1 f2
            have hbj : ∀ j : Nat, u16.heap.size ≤ (⟨v4.heap.size, j, none⟩ : Addr).block := fun j => by dsimp only; omega
            have hB6 := (((hBk.setCell (hbj 0) (.bool N.up)).setCell (hbj 1) (.slice A7 N.T.length c7)).setCell (hbj 2) (.int .i64 N.p))
            have ht' := touch3 (w := v5) (g := v4.heap.size) (.bool N.up) (.slice A7 N.T.length c7) (.int .i64 N.p)
            replace HN := vl (((HN.out.set0 (.bool N.up)).set1 (.slice A7 N.T.length c7)).set2 (.int .i64 N.p))
            replace HRs := vl (HRs.out.touch ht' (by omega))
            have hsz : (((v5.setCell ⟨v4.heap.size, 0, none⟩ (.bool N.up)).setCell ⟨v4.heap.size, 1, none⟩ (.slice A7 N.T.length c7)).setCell ⟨v4.heap.size, 2, none⟩ (.int .i64 N.p)).heap.size = v5.heap.size := by simp
            generalize hu : (((v5.setCell ⟨v4.heap.size, 0, none⟩ (.bool N.up)).setCell ⟨v4.heap.size, 1, none⟩ (.slice A7 N.T.length c7)).setCell ⟨v4.heap.size, 2, none⟩ (.int .i64 N.p)) = v6 at *
            clear hu hbj hBk ht'
            refine hK.out _ _ (HK.out _ hB6) (fun hHeld6 => ?_)
            clear hK K
            try dsimp only at hHeld6
            try simp only [Act.put, List.getElem_toArray, List.getElem_cons_succ, List.getElem_cons_zero, List.setIfInBounds_toArray, List.set_cons_zero, List.set_cons_succ]
            refine wpAnyH_done (by kernel_rfl) ?_ _
            go_simp
            go_wp2_with fail
            go_meet
            exact ⟨_, _, _, _, _, _, _, rfl, vl ⟨HN.out, HRs.out⟩, vl hHeld6.2.2.2.2.2.2.2.2, vl (by omega)⟩
          · have hBk := hHeld3.2.2.2.2.2.2.2.2
            go_simp
            have HN := vl (Box.new v3 (.bool false) (.slice none 0 0) (.int .i64 0) 39)
            have hb' := (Below.refl v3.heap.size v3).alloc (Nat.le_refl _) (.cells #[.bool false, .slice none 0 0, .int .i64 0] 39)
            have hsN : v3.heap.size < (v3.alloc (.cells #[.bool false, .slice none 0 0, .int .i64 0] 39)).heap.size := by simp
            obtain ⟨bn, hbn⟩ : ∃ x, x = v3.heap.size := ⟨_, rfl⟩
            generalize hu : v3.alloc (.cells #[.bool false, .slice none 0 0, .int .i64 0] 39) = v4 at *
            clear hu
            replace HMo := vl (HMo.out.below hb')
            replace HRp := vl (HRp.out.below hb')
            replace HRi := vl (HRi.out.below hb')
            have hB4 := hBk.trans (hb'.mono hBk.size)
            have z4 := hb'.size
            clear hBk hb'
            refine hK.out _ _ (HK.out _ hB4) (fun hHeld4 => ?_)
            clear hK K
            try dsimp only at hHeld4
            try simp only [Act.put, List.getElem_toArray, List.getElem_cons_succ, List.getElem_cons_zero, List.setIfInBounds_toArray, List.set_cons_zero, List.set_cons_succ]
            refine wpAnyH_ready (rs := [6]) (by kernel_rfl) (by simp) ?_
            refine AllReadyH.cons (o := _) rfl (fun K hK => ?_) AllReadyH.nil
            have hBk := hHeld4.2.2.2.2.2.2.2.2
            go_simp
            go_at_call 10
            with_reducible refine (HIm.out A5 c5 B6 D6 b6 d6 _ HMo.out HRp.out HRi.out).mono ?_
            rintro en v5 ⟨⟨A7, c7, g7, G7, rfl, hc7, ho7⟩, hb'⟩
            replace HMo := vl (HMo.out.below hb')
            replace HRp := vl (HRp.out.below hb')
            replace HRi := vl (HRi.out.below hb')
            replace HN := vl (HN.out.below hb')
            have HRs := vl ho7
            have hB5 := hBk.trans (hb'.mono hBk.size)
            have z5 := hb'.size
            clear hBk hb'
            refine hK.out _ _ (HK.out _ hB5) (fun hHeld5 => ?_)
            clear hK K
            try dsimp only at hHeld5
            try simp only [Act.put, List.getElem_toArray, List.getElem_cons_succ, List.getElem_cons_zero, List.setIfInBounds_toArray, List.set_cons_zero, List.set_cons_succ]
            have hBk := hHeld5.2.2.2.2.2.2.2.2
            obtain ⟨p0, p1, p2⟩ := HN.out.at
            obtain ⟨f0, f1, f2⟩ := HN.out.free
            refine wpAnyH_ready (rs := [8]) (by kernel_rfl) (by simp) ?_
            refine AllReadyH.cons (o := _) rfl (fun K hK => ?_) AllReadyH.nil
            go_simp
            clear p0 p1 p2 f0 f1 f2
            have hbj : ∀ j : Nat, u16.heap.size ≤ (⟨v3.heap.size, j, none⟩ : Addr).block := fun j => by dsimp only; omega
            have hB6 := (((hBk.setCell (hbj 0) (.bool N.up)).setCell (hbj 1) (.slice A7 N.T.length c7)).setCell (hbj 2) (.int .i64 N.p))
            have ht' := touch3 (w := v5) (g := v3.heap.size) (.bool N.up) (.slice A7 N.T.length c7) (.int .i64 N.p)
            replace HN := vl (((HN.out.set0 (.bool N.up)).set1 (.slice A7 N.T.length c7)).set2 (.int .i64 N.p))
            replace HRs := vl (HRs.out.touch ht' (by omega))
            have hsz : (((v5.setCell ⟨v3.heap.size, 0, none⟩ (.bool N.up)).setCell ⟨v3.heap.size, 1, none⟩ (.slice A7 N.T.length c7)).setCell ⟨v3.heap.size, 2, none⟩ (.int .i64 N.p)).heap.size = v5.heap.size := by simp
            generalize hu : (((v5.setCell ⟨v3.heap.size, 0, none⟩ (.bool N.up)).setCell ⟨v3.heap.size, 1, none⟩ (.slice A7 N.T.length c7)).setCell ⟨v3.heap.size, 2, none⟩ (.int .i64 N.p)) = v6 at *
            clear hu hbj hBk ht'
            refine hK.out _ _ (HK.out _ hB6) (fun hHeld6 => ?_)
            clear hK K
            try dsimp only at hHeld6
            try simp only [Act.put, List.getElem_toArray, List.getElem_cons_succ, List.getElem_cons_zero, List.setIfInBounds_toArray, List.set_cons_zero, List.set_cons_succ]
            refine wpAnyH_done (by kernel_rfl) ?_ _
            go_simp
            go_wp2_with fail
            go_meet
            exact ⟨_, _, _, _, _, _, _, rfl, vl ⟨HN.out, HRs.out⟩, vl hHeld6.2.2.2.2.2.2.2.2, vl (by omega)⟩
        · have hBk := hHeld2.2.2.2.2.2.2.2.2
          go_simp
          have HN := vl (Box.new v2 (.bool false) (.slice none 0 0) (.int .i64 0) 39)
          have hb' := (Below.refl v2.heap.size v2).alloc (Nat.le_refl _) (.cells #[.bool false, .slice none 0 0, .int .i64 0] 39)
          have hsN : v2.heap.size < (v2.alloc (.cells #[.bool false, .slice none 0 0, .int .i64 0] 39)).heap.size := by simp
          obtain ⟨bn, hbn⟩ : ∃ x, x = v2.heap.size := ⟨_, rfl⟩
          generalize hu : v2.alloc (.cells #[.bool false, .slice none 0 0, .int .i64 0] 39) = v3 at *
          clear hu
          replace HMo := vl (HMo.out.below hb')
          have hB3 := hBk.trans (hb'.mono hBk.size)
          have z3 := hb'.size
          clear hBk hb'
          refine hK.out _ _ (HK.out _ hB3) (fun hHeld3 => ?_)
          clear hK K
          try dsimp only at hHeld3
          try simp only [Act.put, List.getElem_toArray, List.getElem_cons_succ, List.getElem_cons_zero, List.setIfInBounds_toArray, List.set_cons_zero, List.set_cons_succ]
          refine wpAnyH_ready (rs := [5]) (by kernel_rfl) (by simp) ?_
          refine AllReadyH.cons (o := _) rfl (fun K hK => ?_) AllReadyH.nil
          have hBk := hHeld3.2.2.2.2.2.2.2.2
          go_simp
          go_at_call 9
          with_reducible refine (toReach r2 B2 D2 b2 d2 _ hn2 hm2 (HSP2.out.below (HB16.out.trans (hBk.mono HB16.out.size))) (HSI2.out.below (HB16.out.trans (hBk.mono HB16.out.size)))).mono ?_
          rintro en v4 ⟨⟨B6, b6, D6, d6, g6, h6, rfl, hc6, ho6⟩, hb'⟩
          replace HMo := vl (HMo.out.below hb')
          replace HN := vl (HN.out.below hb')
          have HRp := vl ho6.pts
          have HRi := vl ho6.ints
          have hB4 := hBk.trans (hb'.mono hBk.size)
          have z4 := hb'.size
          clear hBk hb'
          refine hK.out _ _ (HK.out _ hB4) (fun hHeld4 => ?_)
          clear hK K
          try dsimp only at hHeld4
          try simp only [Act.put, List.getElem_toArray, List.getElem_cons_succ, List.getElem_cons_zero, List.setIfInBounds_toArray, List.set_cons_zero, List.set_cons_succ]
          refine wpAnyH_ready (rs := [6]) (by kernel_rfl) (by simp) ?_
          refine AllReadyH.cons (o := _) rfl (fun K hK => ?_) AllReadyH.nil
          have hBk := hHeld4.2.2.2.2.2.2.2.2
          go_simp
          go_at_call 10
          with_reducible refine (HIm.out A5 c5 B6 D6 b6 d6 _ HMo.out HRp.out HRi.out).mono ?_
          rintro en v5 ⟨⟨A7, c7, g7, G7, rfl, hc7, ho7⟩, hb'⟩
          replace HMo := vl (HMo.out.below hb')
          replace HN := vl (HN.out.below hb')
          replace HRp := vl (HRp.out.below hb')
          replace HRi := vl (HRi.out.below hb')
          have HRs := vl ho7
          have hB5 := hBk.trans (hb'.mono hBk.size)
          have z5 := hb'.size
          clear hBk hb'
          refine hK.out _ _ (HK.out _ hB5) (fun hHeld5 => ?_)
          clear hK K
          try dsimp only at hHeld5
          try simp only [Act.put, List.getElem_toArray, List.getElem_cons_succ, List.getElem_cons_zero, List.setIfInBounds_toArray, List.set_cons_zero, List.set_cons_succ]
          have hBk := hHeld5.2.2.2.2.2.2.2.2
          obtain ⟨p0, p1, p2⟩ := HN.out.at
          obtain ⟨f0, f1, f2⟩ := HN.out.free
          refine wpAnyH_ready (rs := [8]) (by kernel_rfl) (by simp) ?_
          refine AllReadyH.cons (o := _) rfl (fun K hK => ?_) AllReadyH.nil
          go_simp
          clear p0 p1 p2 f0 f1 f2
          have hbj : ∀ j : Nat, u16.heap.size ≤ (⟨v2.heap.size, j, none⟩ : Addr).block := fun j => by dsimp only; omega
          have hB6 := (((hBk.setCell (hbj 0) (.bool N.up)).setCell (hbj 1) (.slice A7 N.T.length c7)).setCell (hbj 2) (.int .i64 N.p))
          have ht' := touch3 (w := v5) (g := v2.heap.size) (.bool N.up) (.slice A7 N.T.length c7) (.int .i64 N.p)
          replace HN := vl (((HN.out.set0 (.bool N.up)).set1 (.slice A7 N.T.length c7)).set2 (.int .i64 N.p))
          replace HRs := vl (HRs.out.touch ht' (by omega))
          have hsz : (((v5.setCell ⟨v2.heap.size, 0, none⟩ (.bool N.up)).setCell ⟨v2.heap.size, 1, none⟩ (.slice A7 N.T.length c7)).setCell ⟨v2.heap.size, 2, none⟩ (.int .i64 N.p)).heap.size = v5.heap.size := by simp
          generalize hu : (((v5.setCell ⟨v2.heap.size, 0, none⟩ (.bool N.up)).setCell ⟨v2.heap.size, 1, none⟩ (.slice A7 N.T.length c7)).setCell ⟨v2.heap.size, 2, none⟩ (.int .i64 N.p)) = v6 at *
          clear hu hbj hBk ht'
          refine hK.out _ _ (HK.out _ hB6) (fun hHeld6 => ?_)
          clear hK K
          try dsimp only at hHeld6
          try simp only [Act.put, List.getElem_toArray, List.getElem_cons_succ, List.getElem_cons_zero, List.setIfInBounds_toArray, List.set_cons_zero, List.set_cons_succ]
          refine wpAnyH_done (by kernel_rfl) ?_ _
          go_simp
          go_wp2_with fail
          go_meet
          exact ⟨_, _, _, _, _, _, _, rfl, vl ⟨HN.out, HRs.out⟩, vl hHeld6.2.2.2.2.2.2.2.2, vl (by omega)⟩
      · have hBk := hHeld1.2.2.2.2.2.2.2.2
        go_simp
        have HN := vl (Box.new v1 (.bool false) (.slice none 0 0) (.int .i64 0) 39)
        have hb' := (Below.refl v1.heap.size v1).alloc (Nat.le_refl _) (.cells #[.bool false, .slice none 0 0, .int .i64 0] 39)
        have hsN : v1.heap.size < (v1.alloc (.cells #[.bool false, .slice none 0 0, .int .i64 0] 39)).heap.size := by simp
        obtain ⟨bn, hbn⟩ : ∃ x, x = v1.heap.size := ⟨_, rfl⟩
        generalize hu : v1.alloc (.cells #[.bool false, .slice none 0 0, .int .i64 0] 39) = v2 at *
        clear hu
        replace HMo := vl (HMo.out.below hb')
        have hB2 := hBk.trans (hb'.mono hBk.size)
        have z2 := hb'.size
        clear hBk hb'
        refine hK.out _ _ (HK.out _ hB2) (fun hHeld2 => ?_)
        clear hK K
        try dsimp only at hHeld2
        try simp only [Act.put, List.getElem_toArray, List.getElem_cons_succ, List.getElem_cons_zero, List.setIfInBounds_toArray, List.set_cons_zero, List.set_cons_succ]
        refine wpAnyH_ready (rs := [3]) (by kernel_rfl) (by simp) ?_
        refine AllReadyH.cons (o := _) rfl (fun K hK => ?_) AllReadyH.nil
        have hBk := hHeld2.2.2.2.2.2.2.2.2
        go_simp
        go_at_call 8
        with_reducible refine (toWay Y1 _).mono ?_
        rintro en v3 ⟨rfl, hb'⟩
        replace HMo := vl (HMo.out.below hb')
        replace HN := vl (HN.out.below hb')
        have hB3 := hBk.trans (hb'.mono hBk.size)
        have z3 := hb'.size
        clear hBk hb'
        refine hK.out _ _ (HK.out _ hB3) (fun hHeld3 => ?_)
        clear hK K
        try dsimp only at hHeld3
        try simp only [Act.put, List.getElem_toArray, List.getElem_cons_succ, List.getElem_cons_zero, List.setIfInBounds_toArray, List.set_cons_zero, List.set_cons_succ]
        refine wpAnyH_ready (rs := [5]) (by kernel_rfl) (by simp) ?_
        refine AllReadyH.cons (o := _) rfl (fun K hK => ?_) AllReadyH.nil
        have hBk := hHeld3.2.2.2.2.2.2.2.2
        go_simp
        go_at_call 9
        with_reducible refine (toReach r2 B2 D2 b2 d2 _ hn2 hm2 (HSP2.out.below (HB16.out.trans (hBk.mono HB16.out.size))) (HSI2.out.below (HB16.out.trans (hBk.mono HB16.out.size)))).mono ?_
        rintro en v4 ⟨⟨B6, b6, D6, d6, g6, h6, rfl, hc6, ho6⟩, hb'⟩
        replace HMo := vl (HMo.out.below hb')
        replace HN := vl (HN.out.below hb')
        have HRp := vl ho6.pts
        have HRi := vl ho6.ints
        have hB4 := hBk.trans (hb'.mono hBk.size)
        have z4 := hb'.size
        clear hBk hb'
        refine hK.out _ _ (HK.out _ hB4) (fun hHeld4 => ?_)
        clear hK K
        try dsimp only at hHeld4
        try simp only [Act.put, List.getElem_toArray, List.getElem_cons_succ, List.getElem_cons_zero, List.setIfInBounds_toArray, List.set_cons_zero, List.set_cons_succ]
        refine wpAnyH_ready (rs := [6]) (by kernel_rfl) (by simp) ?_
        refine AllReadyH.cons (o := _) rfl (fun K hK => ?_) AllReadyH.nil
        have hBk := hHeld4.2.2.2.2.2.2.2.2
        go_simp
        go_at_call 10
        with_reducible refine (HIm.out A5 c5 B6 D6 b6 d6 _ HMo.out HRp.out HRi.out).mono ?_
        rintro en v5 ⟨⟨A7, c7, g7, G7, rfl, hc7, ho7⟩, hb'⟩
        replace HMo := vl (HMo.out.below hb')
        replace HN := vl (HN.out.below hb')
        replace HRp := vl (HRp.out.below hb')
        replace HRi := vl (HRi.out.below hb')
        have HRs := vl ho7
        have hB5 := hBk.trans (hb'.mono hBk.size)
        have z5 := hb'.size
        clear hBk hb'
        refine hK.out _ _ (HK.out _ hB5) (fun hHeld5 => ?_)
        clear hK K
        try dsimp only at hHeld5
        try simp only [Act.put, List.getElem_toArray, List.getElem_cons_succ, List.getElem_cons_zero, List.setIfInBounds_toArray, List.set_cons_zero, List.set_cons_succ]
        have hBk := hHeld5.2.2.2.2.2.2.2.2
        obtain ⟨p0, p1, p2⟩ := HN.out.at
        obtain ⟨f0, f1, f2⟩ := HN.out.free
        refine wpAnyH_ready (rs := [8]) (by kernel_rfl) (by simp) ?_
        refine AllReadyH.cons (o := _) rfl (fun K hK => ?_) AllReadyH.nil
        go_simp
        clear p0 p1 p2 f0 f1 f2
        have hbj : ∀ j : Nat, u16.heap.size ≤ (⟨v1.heap.size, j, none⟩ : Addr).block := fun j => by dsimp only; omega
        have hB6 := (((hBk.setCell (hbj 0) (.bool N.up)).setCell (hbj 1) (.slice A7 N.T.length c7)).setCell (hbj 2) (.int .i64 N.p))
        have ht' := touch3 (w := v5) (g := v1.heap.size) (.bool N.up) (.slice A7 N.T.length c7) (.int .i64 N.p)
        replace HN := vl (((HN.out.set0 (.bool N.up)).set1 (.slice A7 N.T.length c7)).set2 (.int .i64 N.p))
        replace HRs := vl (HRs.out.touch ht' (by omega))
        have hsz : (((v5.setCell ⟨v1.heap.size, 0, none⟩ (.bool N.up)).setCell ⟨v1.heap.size, 1, none⟩ (.slice A7 N.T.length c7)).setCell ⟨v1.heap.size, 2, none⟩ (.int .i64 N.p)).heap.size = v5.heap.size := by simp
        generalize hu : (((v5.setCell ⟨v1.heap.size, 0, none⟩ (.bool N.up)).setCell ⟨v1.heap.size, 1, none⟩ (.slice A7 N.T.length c7)).setCell ⟨v1.heap.size, 2, none⟩ (.int .i64 N.p)) = v6 at *
        clear hu hbj hBk ht'
        refine hK.out _ _ (HK.out _ hB6) (fun hHeld6 => ?_)
        clear hK K
        try dsimp only at hHeld6
        try simp only [Act.put, List.getElem_toArray, List.getElem_cons_succ, List.getElem_cons_zero, List.setIfInBounds_toArray, List.set_cons_zero, List.set_cons_succ]
        refine wpAnyH_done (by kernel_rfl) ?_ _
        go_simp
        go_wp2_with fail
        go_meet
        exact ⟨_, _, _, _, _, _, _, rfl, vl ⟨HN.out, HRs.out⟩, vl hHeld6.2.2.2.2.2.2.2.2, vl (by omega)⟩
    · have hBk := hHeld0.2.2.2.2.2.2.2.2
      go_simp
      have HN := vl (Box.new v0 (.bool false) (.slice none 0 0) (.int .i64 0) 39)
      have hb' := (Below.refl v0.heap.size v0).alloc (Nat.le_refl _) (.cells #[.bool false, .slice none 0 0, .int .i64 0] 39)
      have hsN : v0.heap.size < (v0.alloc (.cells #[.bool false, .slice none 0 0, .int .i64 0] 39)).heap.size := by simp
      obtain ⟨bn, hbn⟩ : ∃ x, x = v0.heap.size := ⟨_, rfl⟩
      generalize hu : v0.alloc (.cells #[.bool false, .slice none 0 0, .int .i64 0] 39) = v1 at *
      clear hu
      have hB1 := hBk.trans (hb'.mono hBk.size)
      have z1 := hb'.size
      clear hBk hb'
      refine hK.out _ _ (HK.out _ hB1) (fun hHeld1 => ?_)
      clear hK K
      try dsimp only at hHeld1
      try simp only [Act.put, List.getElem_toArray, List.getElem_cons_succ, List.getElem_cons_zero, List.setIfInBounds_toArray, List.set_cons_zero, List.set_cons_succ]
      refine wpAnyH_ready (rs := [1]) (by kernel_rfl) (by simp) ?_
      refine AllReadyH.cons (o := _) rfl (fun K hK => ?_) AllReadyH.nil
      have hBk := hHeld1.2.2.2.2.2.2.2.2
      go_simp
      go_at_call 7
      with_reducible refine (toMover C0 A0 c0 _ hn0 HR0.out (HU0.out.src.below (HB16.out.trans (hBk.mono HB16.out.size)))).mono ?_
      rintro en v2 ⟨⟨A5, c5, g5, G5, rfl, hc5, ho5⟩, hb'⟩
      replace HN := vl (HN.out.below hb')
      have HMo := vl ho5.trn
      have hB2 := hBk.trans (hb'.mono hBk.size)
      have z2 := hb'.size
      clear hBk hb'
      refine hK.out _ _ (HK.out _ hB2) (fun hHeld2 => ?_)
      clear hK K
      try dsimp only at hHeld2
      try simp only [Act.put, List.getElem_toArray, List.getElem_cons_succ, List.getElem_cons_zero, List.setIfInBounds_toArray, List.set_cons_zero, List.set_cons_succ]
      refine wpAnyH_ready (rs := [3]) (by kernel_rfl) (by simp) ?_
      refine AllReadyH.cons (o := _) rfl (fun K hK => ?_) AllReadyH.nil
      have hBk := hHeld2.2.2.2.2.2.2.2.2
      go_simp
      go_at_call 8
      with_reducible refine (toWay Y1 _).mono ?_
      rintro en v3 ⟨rfl, hb'⟩
      replace HN := vl (HN.out.below hb')
      replace HMo := vl (HMo.out.below hb')
      have hB3 := hBk.trans (hb'.mono hBk.size)
      have z3 := hb'.size
      clear hBk hb'
      refine hK.out _ _ (HK.out _ hB3) (fun hHeld3 => ?_)
      clear hK K
      try dsimp only at hHeld3
      try simp only [Act.put, List.getElem_toArray, List.getElem_cons_succ, List.getElem_cons_zero, List.setIfInBounds_toArray, List.set_cons_zero, List.set_cons_succ]
      refine wpAnyH_ready (rs := [5]) (by kernel_rfl) (by simp) ?_
      refine AllReadyH.cons (o := _) rfl (fun K hK => ?_) AllReadyH.nil
      have hBk := hHeld3.2.2.2.2.2.2.2.2
      go_simp
      go_at_call 9
      with_reducible refine (toReach r2 B2 D2 b2 d2 _ hn2 hm2 (HSP2.out.below (HB16.out.trans (hBk.mono HB16.out.size))) (HSI2.out.below (HB16.out.trans (hBk.mono HB16.out.size)))).mono ?_
      rintro en v4 ⟨⟨B6, b6, D6, d6, g6, h6, rfl, hc6, ho6⟩, hb'⟩
      replace HN := vl (HN.out.below hb')
      replace HMo := vl (HMo.out.below hb')
      have HRp := vl ho6.pts
      have HRi := vl ho6.ints
      have hB4 := hBk.trans (hb'.mono hBk.size)
      have z4 := hb'.size
      clear hBk hb'
      refine hK.out _ _ (HK.out _ hB4) (fun hHeld4 => ?_)
      clear hK K
      try dsimp only at hHeld4
      try simp only [Act.put, List.getElem_toArray, List.getElem_cons_succ, List.getElem_cons_zero, List.setIfInBounds_toArray, List.set_cons_zero, List.set_cons_succ]
      refine wpAnyH_ready (rs := [6]) (by kernel_rfl) (by simp) ?_
      refine AllReadyH.cons (o := _) rfl (fun K hK => ?_) AllReadyH.nil
      have hBk := hHeld4.2.2.2.2.2.2.2.2
      go_simp
      go_at_call 10
      with_reducible refine (HIm.out A5 c5 B6 D6 b6 d6 _ HMo.out HRp.out HRi.out).mono ?_
      rintro en v5 ⟨⟨A7, c7, g7, G7, rfl, hc7, ho7⟩, hb'⟩
      replace HN := vl (HN.out.below hb')
      replace HMo := vl (HMo.out.below hb')
      replace HRp := vl (HRp.out.below hb')
      replace HRi := vl (HRi.out.below hb')
      have HRs := vl ho7
      have hB5 := hBk.trans (hb'.mono hBk.size)
      have z5 := hb'.size
      clear hBk hb'
      refine hK.out _ _ (HK.out _ hB5) (fun hHeld5 => ?_)
      clear hK K
      try dsimp only at hHeld5
      try simp only [Act.put, List.getElem_toArray, List.getElem_cons_succ, List.getElem_cons_zero, List.setIfInBounds_toArray, List.set_cons_zero, List.set_cons_succ]
      have hBk := hHeld5.2.2.2.2.2.2.2.2
      obtain ⟨p0, p1, p2⟩ := HN.out.at
      obtain ⟨f0, f1, f2⟩ := HN.out.free
      refine wpAnyH_ready (rs := [8]) (by kernel_rfl) (by simp) ?_
      refine AllReadyH.cons (o := _) rfl (fun K hK => ?_) AllReadyH.nil
      go_simp
      clear p0 p1 p2 f0 f1 f2
      have hbj : ∀ j : Nat, u16.heap.size ≤ (⟨v0.heap.size, j, none⟩ : Addr).block := fun j => by dsimp only; omega
      have hB6 := (((hBk.setCell (hbj 0) (.bool N.up)).setCell (hbj 1) (.slice A7 N.T.length c7)).setCell (hbj 2) (.int .i64 N.p))
      have ht' := touch3 (w := v5) (g := v0.heap.size) (.bool N.up) (.slice A7 N.T.length c7) (.int .i64 N.p)
      replace HN := vl (((HN.out.set0 (.bool N.up)).set1 (.slice A7 N.T.length c7)).set2 (.int .i64 N.p))
      replace HRs := vl (HRs.out.touch ht' (by omega))
      have hsz : (((v5.setCell ⟨v0.heap.size, 0, none⟩ (.bool N.up)).setCell ⟨v0.heap.size, 1, none⟩ (.slice A7 N.T.length c7)).setCell ⟨v0.heap.size, 2, none⟩ (.int .i64 N.p)).heap.size = v5.heap.size := by simp
      generalize hu : (((v5.setCell ⟨v0.heap.size, 0, none⟩ (.bool N.up)).setCell ⟨v0.heap.size, 1, none⟩ (.slice A7 N.T.length c7)).setCell ⟨v0.heap.size, 2, none⟩ (.int .i64 N.p)) = v6 at *
      clear hu hbj hBk ht'
      refine hK.out _ _ (HK.out _ hB6) (fun hHeld6 => ?_)
      clear hK K
      try dsimp only at hHeld6
      try simp only [Act.put, List.getElem_toArray, List.getElem_cons_succ, List.getElem_cons_zero, List.setIfInBounds_toArray, List.set_cons_zero, List.set_cons_succ]
      refine wpAnyH_done (by kernel_rfl) ?_ _
      go_simp
      go_wp2_with fail
      go_meet
      exact ⟨_, _, _, _, _, _, _, rfl, vl ⟨HN.out, HRs.out⟩, vl hHeld6.2.2.2.2.2.2.2.2, vl (by omega)⟩
  case rest =>
  obtain ⟨b17, A17, c17, g17, G17, lo17, hi17, rfl, HI_x, hbc, hx⟩ := hcut
  obtain ⟨i170, i171, i172, i173, i174, i175⟩ := hx.out
  generalize wc = u17 at *
  have hb := hbc.out
  have HL0_17 := vl (HL0_16.out.below hb)
  have HL1_17 := vl (HL1_16.out.below hb)
  have HL2_17 := vl (HL2_16.out.below hb)
  have HW_17 := vl (HW_16.out.below hb)
  have HG_17 := vl (HG_16.out.below hb)
  have HB17 := vl (HB16.out.trans (hb.mono HB16.out.size))
  have z17 := hb.size
  clear HL0_16 HL1_16 HL2_16 HW_16 HG_16
  have HI_17 := HI_x
  clear hb hbc hx HI_x
  obtain ⟨a0, a1, a2⟩ := HI_17.out.x.at
  obtain ⟨e0, e1, e2⟩ := HW_17.out.x.at
  go_wp2_with fail
  refine (eqMover N _ _ _ _ _ hnN HRN.out HI_17.out.o.trn HW_17.out.o.trn).mono ?_
  rintro en u18 ⟨rfl, hb⟩
  clear a0 a1 a2 e0 e1 e2
  have HL0_18 := vl (HL0_17.out.below hb)
  have HL1_18 := vl (HL1_17.out.below hb)
  have HL2_18 := vl (HL2_17.out.below hb)
  have HW_18 := vl (HW_17.out.below hb)
  have HG_18 := vl (HG_17.out.below hb)
  have HI_18 := vl (HI_17.out.below hb)
  have HB18 := vl (HB17.out.trans (hb.mono HB17.out.size))
  have z18 := hb.size
  clear HL0_17 HL1_17 HL2_17 HW_17 HG_17 HI_17
  clear hb
  obtain ⟨a0, a1, a2⟩ := HG_18.out.x.at
  go_wp2_with fail
  refine (heldMover N A8 c8 1 _ HMN.out (by omega) HG_18.out.o).mono ?_
  rintro en u19 ⟨he, hb⟩
  rw [← HK3.out] at he
  subst he
  clear a0 a1 a2
  have HL0_19 := vl (HL0_18.out.below hb)
  have HL1_19 := vl (HL1_18.out.below hb)
  have HL2_19 := vl (HL2_18.out.below hb)
  have HW_19 := vl (HW_18.out.below hb)
  have HG_19 := vl (HG_18.out.below hb)
  have HI_19 := vl (HI_18.out.below hb)
  have HB19 := vl (HB18.out.trans (hb.mono HB18.out.size))
  have z19 := hb.size
  clear HL0_18 HL1_18 HL2_18 HW_18 HG_18 HI_18
  clear hb
  go_wp2
  go_ret
  exact ⟨rfl, HB19.out⟩

theorem parOk : Tryz.f3.params.toList.all (fun t => Tryz.prog.readableRec t && decide (t < Tryz.prog.types.size)) = true := by kernel_rfl
set_option maxRecDepth 100000 in
theorem lifted (os : Os) (started : os.Started) (H : Type) (enc : TypeId × Value → H) :
    ReturnsInHanded {} Tryz.checked os 3 .any (Rows.fnExactMoveOneSpec.pre6 enc Tryz.prog Tryz.f3 Rows.fnExactMoveOneRow.domain false) (Rows.fnExactMoveOneSpec.post enc Tryz.prog Tryz.f3 false true false false) := by
  refine law_lifted (C := Tryz.checked) own started (by kernel_rfl) Tryz.func3 laid (fun t ht => by
      have h := List.all_eq_true.1 parOk t ht
      rw [Bool.and_eq_true] at h
      exact ⟨h.1, of_decide_eq_true h.2⟩) rfl Tryz.underlying4 rfl
    (fun xs hx => by
      rw [show Tryz.f3.params.toList.length = 3 from by rw [Tryz.params3]; rfl] at hx
      match xs, hx with
      | [d0, d1, d2], _ => rfl)
    (ChangeSpec.witness6 (enc := enc) (C := Tryz.checked) false ⟨#[], #[.agg #[.bool false, .slice none 0 0, .int .i64 0], .agg #[.int .i64 0, .int .i64 0], .agg #[.slice none 0 0, .int .i64 0, .slice none 0 0]], []⟩ 8 (by kernel_rfl) (by kernel_rfl) (by kernel_rfl) (by kernel_rfl)) ?_
  intro W base args ds p hval0 hA0 _
  have hval : ∀ (j : Nat) t v, Tryz.f3.params[j]? = some t → args[j]? = some v → Value.okWide Tryz.prog W .any base t v := hval0
  have hA : DataW.TrodAll enc Tryz.prog W 0 (fun _ => true) true Tryz.f3.params.toList args.toList ds p := hA0
  clear hA0 hval0
  rw [Tryz.params3] at hA hval
  obtain ⟨v0, vs0, d0, ds0, p0, q0, hargs, rfl, rfl, h0, r0⟩ := trodAll_cons hA
  obtain ⟨v1, vs1, d1, ds1, p1, q1, rfl, rfl, rfl, h1, r1⟩ := trodAll_cons r0
  obtain ⟨v2, vs2, d2, ds2, p2, q2, rfl, rfl, rfl, h2, r2⟩ := trodAll_cons r1
  obtain ⟨rfl, rfl, rfl⟩ := trodAll_nil r2
  obtain rfl : args = #[v0, v1, v2] := by cases args; simp_all
  obtain ⟨C0, A0, c0, rfl, x0⟩ := open_mover (hval 0 26 _ rfl rfl) h0
  obtain ⟨Y1, rfl⟩ := open_way (hval 1 28 _ rfl rfl) h1
  obtain ⟨rc2, A2, D2, c2, e2, rfl, x2⟩ := open_reach (hval 2 32 _ rfl rfl) h2
  exact walk C0 A0 c0 Y1 rc2 A2 D2 c2 e2 W x0 x2

/-- The statement. -/
theorem proved : Rows.FnExactMoveOneSaid :=
  OpenClaim.holds_of_wide 3 Tryz.f3 rfl rfl rfl rfl rfl rfl rfl ⟨rfl, rfl, rfl, rfl, rfl⟩ rfl rfl rfl rfl rfl (by kernel_rfl) Tryz.func3 (by kernel_rfl)
    (of_decide_eq_true (by kernel_rfl)) (by unfold Func.isWrapper; first | (rw [if_pos (by decide +kernel)]; kernel_rfl) | (rw [if_neg (by decide +kernel)]; exact ⟨rfl, rfl⟩))
    (fun os started H enc _ => lifted os started H enc)
#print axioms proved
end Go.Proofs.YtmabaibpdjmckaaGreat.fnExactMoveOne
