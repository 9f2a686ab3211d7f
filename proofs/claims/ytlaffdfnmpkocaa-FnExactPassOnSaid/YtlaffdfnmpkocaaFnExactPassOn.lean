/-
  For every input the Go function 'laws.FnExactPassOn' returns true, and each argument reads afterwards as it read before. No further condition.
-/
import Derived.Test.YtlaffdfnmpkocaaLaw2
import Derived.Test.YtlaffdfnmpkocaaOpenR
import Derived.Test.YtlaffdfnmpkocaaHeld
import Derived.Test.YtlaffdfnmpkocaaOneR
import Derived.Test.YtlaffdfnmpkocaaLift
import Derived.Test.YtlaffdfnmpkocaaOpen
import Derived.ChangeMaps5
namespace Go.Proofs.Ytlaffdfnmpkocaa.fnExactPassOn
open Go.Proofs.Ytlaffdfnmpkocaa.C1 Go.Proofs.Ytlaffdfnmpkocaa.Lift Go.Proofs.Ytlaffdfnmpkocaa.Opened
open Go.ChangeShapes Go.WideShapes Go.ChangeAt Go.RowKit Go.ChangeMaps
set_option linter.unusedVariables false

set_option linter.unusedSimpArgs false
set_option maxRecDepth 100000 in
set_option maxHeartbeats 100000000 in
theorem walk (r : Rc) (B0 D0 : Option Addr) (b0 d0 : Nat) (t : Rc) (B1 D1 : Option Addr) (b1 d1 : Nat) (a k : Int) (w : World) (hu0 : ArgR w r B0 D0) (hu1 : ArgR w t B1 D1) (ha : (Lit.int .i64 a).wf = true) (hk : (Lit.int .i64 k).wf = true) :
    Calls Try.prog 3 #[.agg #[.slice B0 r.n b0, .int .i64 r.v, .slice D0 r.m d0], .agg #[.slice B1 t.n b1, .int .i64 t.v, .slice D1 t.m d1], .int .i64 a, .int .i64 k] w fun e w' => e = .returned (.bool true) ∧ Below w.heap.size w w' := by
  have hB := (((Below.refl w.heap.size w).alloc (Nat.le_refl _) (.cells #[.slice B0 r.n b0, .int .i64 r.v, .slice D0 r.m d0] 25)).alloc (by simp) (.cells #[.slice B1 t.n b1, .int .i64 t.v, .slice D1 t.m d1] 25))
  have hl0 := (Box.new w (.slice B0 r.n b0) (.int .i64 r.v) (.slice D0 r.m d0) 25).alloc (.cells #[.slice B1 t.n b1, .int .i64 t.v, .slice D1 t.m d1] 25)
  have hl1 : Box ((w.alloc (.cells #[.slice B0 r.n b0, .int .i64 r.v, .slice D0 r.m d0] 25)).alloc (.cells #[.slice B1 t.n b1, .int .i64 t.v, .slice D1 t.m d1] 25)) (w.heap.size + 1) (.slice B1 t.n b1) (.int .i64 t.v) (.slice D1 t.m d1) 25 := by have h := Box.new (w.alloc (.cells #[.slice B0 r.n b0, .int .i64 r.v, .slice D0 r.m d0] 25)) (.slice B1 t.n b1) (.int .i64 t.v) (.slice D1 t.m d1) 25; simpa using h
  have hki := (bounds_i64 hk).2
  have HB0 := vl hB
  have HL0_0 := vl hl0
  have HL1_0 := vl hl1
  obtain ⟨n1_0, n2_0, _, _, hsp0, hsi0⟩ := hu0
  obtain ⟨n1_1, n2_1, _, _, hsp1, hsi1⟩ := hu1
  have HSP0 := vl hsp0
  have HSI0 := vl hsi0
  have HSP1 := vl hsp1
  have HSI1 := vl hsi1
  clear hsp0 hsi0 hsp1 hsi1 ha hk
  generalize hW : ((w.alloc (.cells #[.slice B0 r.n b0, .int .i64 r.v, .slice D0 r.m d0] 25)).alloc (.cells #[.slice B1 t.n b1, .int .i64 t.v, .slice D1 t.m d1] 25)) = W at HB0 HL0_0 HL1_0
  clear hB hl0 hl1
  obtain ⟨l0_0, l0_1, l0_2⟩ := HL0_0.out.at
  obtain ⟨l1_0, l1_1, l1_2⟩ := HL1_0.out.at
  by_cases hbig0 : (1048576 : Int) < (r.n : Int) + r.m
  · go_enter Try.func3, Try.ntmps3
    go_wp2_with fail
    clear hW
    refine (szReach_no _ _ _ _ _ _ _ _ _ (by omega) (by omega) n1_0 n2_0 hbig0).mono ?_
    rintro en w1 ⟨rfl, hb⟩
    have HBe := vl (HB0.out.trans (hb.mono HB0.out.size))
    clear hb
    go_wp2
    go_ret
    exact ⟨rfl, HBe.out⟩
  have hn0 : r.n ≤ 1048576 := by omega
  have hm0 : r.m ≤ 1048576 := by omega
  have hsz0 : (r.n : Int) + r.m ≤ 1048576 := by omega
  have hnn0 : (0 : Int) ≤ 1048576 - (r.n : Int) - (r.m : Int) := by omega
  clear hbig0
  go_enter Try.func3, Try.ntmps3
  go_wp2_with fail
  clear hW
  refine (szReach_yes _ _ _ _ _ _ _ _ _ (by omega) (by omega) hsz0).mono ?_
  rintro en w1 ⟨rfl, hb⟩
  clear l0_0 l0_1 l0_2 l1_0 l1_1 l1_2
  have HL0_1 := vl (HL0_0.out.below hb)
  have HL1_1 := vl (HL1_0.out.below hb)
  have HB1 := vl (HB0.out.trans (hb.mono HB0.out.size))
  clear hb HL0_0 HL1_0
  obtain ⟨l1_0, l1_1, l1_2⟩ := HL1_1.out.at
  by_cases hbig1 : 1048576 - (r.n : Int) - (r.m : Int) < (t.n : Int) + t.m
  · go_wp2_with fail
    refine (szReach_no _ _ _ _ _ _ _ _ _ (by omega) (by omega) n1_1 n2_1 hbig1).mono ?_
    rintro en w2 ⟨rfl, hb⟩
    have HBe := vl (HB1.out.trans (hb.mono HB1.out.size))
    clear hb
    go_wp2
    go_ret
    exact ⟨rfl, HBe.out⟩
  have hn1 : t.n ≤ 1048576 := by omega
  have hm1 : t.m ≤ 1048576 := by omega
  have hsz1 : (t.n : Int) + t.m ≤ 1048576 - (r.n : Int) - (r.m : Int) := by omega
  have hnn1 : (0 : Int) ≤ 1048576 - (r.n : Int) - (r.m : Int) - (t.n : Int) - (t.m : Int) := by omega
  clear hbig1
  go_wp2_with fail
  refine (szReach_yes _ _ _ _ _ _ _ _ _ (by omega) (by omega) hsz1).mono ?_
  rintro en w2 ⟨rfl, hb⟩
  clear l1_0 l1_1 l1_2
  have HL0_2 := vl (HL0_1.out.below hb)
  have HL1_2 := vl (HL1_1.out.below hb)
  have HB2 := vl (HB1.out.trans (hb.mono HB1.out.size))
  clear hb HL0_1 HL1_1 hnn0 hnn1 n1_0 n2_0 n1_1 n2_1
  generalize hg1 : w.heap.size + 1 = g1 at *
  obtain ⟨Ra, hRa⟩ : ∃ Ra, pass1 r t a k = Ra := ⟨_, rfl⟩
  obtain ⟨Rb, hRb⟩ : ∃ Rb, pass2 r t a k = Rb := ⟨_, rfl⟩
  obtain ⟨nn, hnn⟩ : ∃ nn, passN r t a k = nn := ⟨_, rfl⟩
  have na : Ra.n = r.n ∧ Ra.m = r.m := by rw [← hRa]; exact pass1_n r t a k
  have nb : Rb.n = t.n ∧ Rb.m = t.m := by rw [← hRb]; exact pass2_n r t a k
  have HSp := vl (fun (A c D d A' c' D' d') (w : World) (hp : Pts w A r.n r.X r.Y) (hd : Ints w D r.m r.Z) (hp' : Pts w A' t.n t.X t.Y) (hd' : Ints w D' t.m t.Z) => by have h := pass_spec r t A D A' D' c d c' d' a k w hn0 hm0 hn1 hm1 hki hp hd hp' hd'; rw [hRa, hRb, hnn] at h; exact h)
  have HIm := vl (fun (A c D d A' c' D' d') (w : World) (hp : Pts w A r.n r.X r.Y) (hd : Ints w D r.m r.Z) (hp' : Pts w A' t.n t.X t.Y) (hd' : Ints w D' t.m t.Z) => by have h := pass_impl r t A D A' D' c d c' d' a k w hn0 hm0 hn1 hm1 hki hp hd hp' hd'; rw [hRa, hRb, hnn] at h; exact h)
  clear hRa hRb hnn hki
  have an0 : Ra.n ≤ 1048576 := by omega
  have am0 : Ra.m ≤ 1048576 := by omega
  have bn0 : Rb.n ≤ 1048576 := by omega
  have bm0 : Rb.m ≤ 1048576 := by omega
  have HNA := vl na
  have HNB := vl nb
  clear na nb
  have k0 := HL0_2.out.lt
  have k1 := HL1_2.out.lt
  go_upto_region 8 with fail
  obtain ⟨l0_0, l0_1, l0_2⟩ := HL0_2.out.at
  obtain ⟨l1_0, l1_1, l1_2⟩ := HL1_2.out.at
  go_cut [10, 11, 12] (fun s1 s2 s3 wx => ∃ bx by_ A5 c5 D5 d5 g5 h5 A6 c6 D6 d6 g6 h6 lo mi hi, s1 = .pointer (some ⟨bx, 0, none⟩) ∧ s2 = .pointer (some ⟨by_, 0, none⟩) ∧ s3 = .int .i64 nn ∧ Veil (OneR wx bx Ra A5 D5 c5 d5 lo mi g5 h5) ∧ Veil (OneR wx by_ Rb A6 D6 c6 d6 mi hi g6 h6) ∧ Veil (Below w2.heap.size w2 wx) ∧ Veil (w2.heap.size ≤ bx ∧ bx < wx.heap.size ∧ w2.heap.size ≤ by_ ∧ by_ < wx.heap.size ∧ w2.heap.size ≤ lo ∧ lo ≤ mi ∧ mi ≤ hi ∧ hi ≤ wx.heap.size ∧ (bx < lo ∨ hi ≤ bx) ∧ (by_ < lo ∨ hi ≤ by_)))
  case first => as_aux_lemma =>
    have HK := vl (fun (w' : World) (hb' : Below w2.heap.size w2 w') => (show w'.cell? ⟨w.heap.size, 0, none⟩ = some (.slice B0 r.n b0) ∧ w'.cell? ⟨w.heap.size, 1, none⟩ = some (.int .i64 r.v) ∧ w'.cell? ⟨w.heap.size, 2, none⟩ = some (.slice D0 r.m d0) ∧ w'.cell? ⟨g1, 0, none⟩ = some (.slice B1 t.n b1) ∧ w'.cell? ⟨g1, 1, none⟩ = some (.int .i64 t.v) ∧ w'.cell? ⟨g1, 2, none⟩ = some (.slice D1 t.m d1) ∧ Below w2.heap.size w2 w' from ⟨(hb'.cell (cell_lt' l0_0)).trans l0_0, (hb'.cell (cell_lt' l0_1)).trans l0_1, (hb'.cell (cell_lt' l0_2)).trans l0_2, (hb'.cell (cell_lt' l1_0)).trans l1_0, (hb'.cell (cell_lt' l1_1)).trans l1_1, (hb'.cell (cell_lt' l1_2)).trans l1_2, hb'⟩))
    refine wp_region_held_drew (S := fun w' => w'.cell? ⟨w.heap.size, 0, none⟩ = some (.slice B0 r.n b0) ∧ w'.cell? ⟨w.heap.size, 1, none⟩ = some (.int .i64 r.v) ∧ w'.cell? ⟨w.heap.size, 2, none⟩ = some (.slice D0 r.m d0) ∧ w'.cell? ⟨g1, 0, none⟩ = some (.slice B1 t.n b1) ∧ w'.cell? ⟨g1, 1, none⟩ = some (.int .i64 t.v) ∧ w'.cell? ⟨g1, 2, none⟩ = some (.slice D1 t.m d1) ∧ Below w2.heap.size w2 w') (by kernel_rfl) (HK.out _ (Below.refl _ _).drew) (fun hHeld0 => ?_)
    clear l0_0 l0_1 l0_2 l1_0 l1_1 l1_2
    try dsimp only at hHeld0
    have s0 := vl (show w2.heap.size ≤ w2.drew.heap.size from hHeld0.2.2.2.2.2.2.size)
    generalize w2.drew = v0 at *
    refine wpAnyH_take (i := 0) (oi := _) (v := ?_) rfl (by kernel_rfl) (by kernel_rfl) (by kernel_rfl) (fun _ _ _ h => h) (Or.inl ⟨by rfl, ?_⟩) (by assumption) ?_
    rotate_left 1
    · intro w hSw
      try dsimp only at hSw
      go_simp
      try with_reducible rfl
    try simp only [Act.put, List.getElem_toArray, List.getElem_cons_succ, List.getElem_cons_zero, List.setIfInBounds_toArray, List.set_cons_zero, List.set_cons_succ]
    refine wpAnyH_take (i := 2) (oi := _) (v := ?_) rfl (by kernel_rfl) (by kernel_rfl) (by kernel_rfl) (fun _ _ _ h => h) (Or.inl ⟨by rfl, ?_⟩) (by assumption) ?_
    rotate_left 1
    · intro w hSw
      try dsimp only at hSw
      go_simp
      try with_reducible rfl
    try simp only [Act.put, List.getElem_toArray, List.getElem_cons_succ, List.getElem_cons_zero, List.setIfInBounds_toArray, List.set_cons_zero, List.set_cons_succ]
    refine wpAnyH_take (i := 4) (oi := _) (v := ?_) rfl (by kernel_rfl) (by kernel_rfl) (by kernel_rfl) (fun _ _ _ h => h) (Or.inl ⟨by rfl, ?_⟩) (by assumption) ?_
    rotate_left 1
    · intro w hSw
      try dsimp only at hSw
      go_simp
      try with_reducible rfl
    try simp only [Act.put, List.getElem_toArray, List.getElem_cons_succ, List.getElem_cons_zero, List.setIfInBounds_toArray, List.set_cons_zero, List.set_cons_succ]
    refine wpAnyH_take (i := 5) (oi := _) (v := ?_) rfl (by kernel_rfl) (by kernel_rfl) (by kernel_rfl) (fun _ _ _ h => h) (Or.inl ⟨by rfl, ?_⟩) (by assumption) ?_
    rotate_left 1
    · intro w hSw
      try dsimp only at hSw
      go_simp
      try with_reducible rfl
    try simp only [Act.put, List.getElem_toArray, List.getElem_cons_succ, List.getElem_cons_zero, List.setIfInBounds_toArray, List.set_cons_zero, List.set_cons_succ]
    refine wpAnyH_ready (rs := [1, 11, 12]) (by kernel_rfl) (by simp) ?_
    refine AllReadyH.cons (o := _) rfl (fun K hK => ?_) (AllReadyH.cons (o := _) rfl (fun K hK => ?_) (AllReadyH.cons (o := _) rfl (fun K hK => ?_) AllReadyH.nil))
    have hBk := hHeld0.2.2.2.2.2.2
    go_simp
    go_at_call 6
    with_reducible refine (toReach r B0 D0 b0 d0 _ hn0 hm0 (HSP0.out.below (HB2.out.trans (hBk.mono HB2.out.size))) (HSI0.out.below (HB2.out.trans (hBk.mono HB2.out.size)))).mono ?_
    rintro en v1 ⟨⟨A5, c5, D5, d5, g5, h5, rfl, _, ho5⟩, hb'⟩
    have Hp := vl ho5.pts
    have Hd := vl ho5.ints
    have hB1 := hBk.trans (hb'.mono hBk.size)
    have z1 := vl hb'.size
    clear hBk hb' ho5
    refine hK.out _ _ (HK.out _ hB1) (fun hHeld1 => ?_)
    clear hK K
    try dsimp only at hHeld1
    clear hHeld0 hB1
    try simp only [Act.put, List.getElem_toArray, List.getElem_cons_succ, List.getElem_cons_zero, List.setIfInBounds_toArray, List.set_cons_zero, List.set_cons_succ]
    have mkc0 := trivial
    rotate_left 1
    have hBk := hHeld0.2.2.2.2.2.2
    go_simp
    have HN0 := vl (Box.new v0 (.slice none 0 0) (.int .i64 0) (.slice none 0 0) 29)
    have hb' := (Below.refl v0.heap.size v0).alloc (Nat.le_refl _) (.cells #[.slice none 0 0, .int .i64 0, .slice none 0 0] 29)
    have hsN0 := vl (show v0.heap.size < (v0.alloc (.cells #[.slice none 0 0, .int .i64 0, .slice none 0 0] 29)).heap.size by simp)
    generalize hu : v0.alloc (.cells #[.slice none 0 0, .int .i64 0, .slice none 0 0] 29) = v1 at *
    clear hu
    have hB1 := hBk.trans (hb'.mono hBk.size)
    have z1 := vl hb'.size
    have y0 := vl hBk.size
    clear hBk hb'
    refine hK.out _ _ (HK.out _ hB1) (fun hHeld1 => ?_)
    clear hK K
    try dsimp only at hHeld1
    clear hHeld0 hB1
    try simp only [Act.put, List.getElem_toArray, List.getElem_cons_succ, List.getElem_cons_zero, List.setIfInBounds_toArray, List.set_cons_zero, List.set_cons_succ]
    generalize v0.heap.size = q0 at *
    have mka0 := trivial
    rotate_left 1
    have hBk := hHeld0.2.2.2.2.2.2
    go_simp
    have HN1 := vl (Box.new v0 (.slice none 0 0) (.int .i64 0) (.slice none 0 0) 29)
    have hb' := (Below.refl v0.heap.size v0).alloc (Nat.le_refl _) (.cells #[.slice none 0 0, .int .i64 0, .slice none 0 0] 29)
    have hsN1 := vl (show v0.heap.size < (v0.alloc (.cells #[.slice none 0 0, .int .i64 0, .slice none 0 0] 29)).heap.size by simp)
    generalize hu : v0.alloc (.cells #[.slice none 0 0, .int .i64 0, .slice none 0 0] 29) = v1 at *
    clear hu
    have hB1 := hBk.trans (hb'.mono hBk.size)
    have z1 := vl hb'.size
    have y1 := vl hBk.size
    clear hBk hb'
    refine hK.out _ _ (HK.out _ hB1) (fun hHeld1 => ?_)
    clear hK K
    try dsimp only at hHeld1
    clear hHeld0 hB1
    try simp only [Act.put, List.getElem_toArray, List.getElem_cons_succ, List.getElem_cons_zero, List.setIfInBounds_toArray, List.set_cons_zero, List.set_cons_succ]
    generalize v0.heap.size = q1 at *
    have mka1 := trivial
    rotate_left 1
    all_goals
      first
      | (have ck := (show True ∧ True from ⟨mka0, trivial⟩)
         clear ck
         refine wpAnyH_ready (rs := [1, 12]) (by kernel_rfl) (by simp) ?_
         refine AllReadyH.cons (o := _) rfl (fun K hK => ?_) (AllReadyH.cons (o := _) rfl (fun K hK => ?_) AllReadyH.nil)
         have hBk := hHeld1.2.2.2.2.2.2
         go_simp
         go_at_call 6
         with_reducible refine (toReach r B0 D0 b0 d0 _ hn0 hm0 (HSP0.out.below (HB2.out.trans (hBk.mono HB2.out.size))) (HSI0.out.below (HB2.out.trans (hBk.mono HB2.out.size)))).mono ?_
         rintro en v2 ⟨⟨A5, c5, D5, d5, g5, h5, rfl, _, ho5⟩, hb'⟩
         replace HN0 := vl (HN0.out.below hb')
         have Hp := vl ho5.pts
         have Hd := vl ho5.ints
         have hB2 := hBk.trans (hb'.mono hBk.size)
         have z2 := vl hb'.size
         clear hBk hb' ho5
         refine hK.out _ _ (HK.out _ hB2) (fun hHeld2 => ?_)
         clear hK K
         try dsimp only at hHeld2
         clear hHeld1 hB2
         try simp only [Act.put, List.getElem_toArray, List.getElem_cons_succ, List.getElem_cons_zero, List.setIfInBounds_toArray, List.set_cons_zero, List.set_cons_succ]
         have mkc0 := trivial
         rotate_left 1
         have hBk := hHeld1.2.2.2.2.2.2
         go_simp
         have HN1 := vl (Box.new v1 (.slice none 0 0) (.int .i64 0) (.slice none 0 0) 29)
         have hb' := (Below.refl v1.heap.size v1).alloc (Nat.le_refl _) (.cells #[.slice none 0 0, .int .i64 0, .slice none 0 0] 29)
         have hsN1 := vl (show v1.heap.size < (v1.alloc (.cells #[.slice none 0 0, .int .i64 0, .slice none 0 0] 29)).heap.size by simp)
         generalize hu : v1.alloc (.cells #[.slice none 0 0, .int .i64 0, .slice none 0 0] 29) = v2 at *
         clear hu
         replace HN0 := vl (HN0.out.below hb')
         have hB2 := hBk.trans (hb'.mono hBk.size)
         have z2 := vl hb'.size
         have y1 := vl hBk.size
         clear hBk hb'
         refine hK.out _ _ (HK.out _ hB2) (fun hHeld2 => ?_)
         clear hK K
         try dsimp only at hHeld2
         clear hHeld1 hB2
         try simp only [Act.put, List.getElem_toArray, List.getElem_cons_succ, List.getElem_cons_zero, List.setIfInBounds_toArray, List.set_cons_zero, List.set_cons_succ]
         generalize v1.heap.size = q1 at *
         have mka1 := trivial
         rotate_left 1)
      | (have ck := (show True ∧ True from ⟨mka1, trivial⟩)
         clear ck
         refine wpAnyH_ready (rs := [1, 11]) (by kernel_rfl) (by simp) ?_
         refine AllReadyH.cons (o := _) rfl (fun K hK => ?_) (AllReadyH.cons (o := _) rfl (fun K hK => ?_) AllReadyH.nil)
         have hBk := hHeld1.2.2.2.2.2.2
         go_simp
         go_at_call 6
         with_reducible refine (toReach r B0 D0 b0 d0 _ hn0 hm0 (HSP0.out.below (HB2.out.trans (hBk.mono HB2.out.size))) (HSI0.out.below (HB2.out.trans (hBk.mono HB2.out.size)))).mono ?_
         rintro en v2 ⟨⟨A5, c5, D5, d5, g5, h5, rfl, _, ho5⟩, hb'⟩
         replace HN1 := vl (HN1.out.below hb')
         have Hp := vl ho5.pts
         have Hd := vl ho5.ints
         have hB2 := hBk.trans (hb'.mono hBk.size)
         have z2 := vl hb'.size
         clear hBk hb' ho5
         refine hK.out _ _ (HK.out _ hB2) (fun hHeld2 => ?_)
         clear hK K
         try dsimp only at hHeld2
         clear hHeld1 hB2
         try simp only [Act.put, List.getElem_toArray, List.getElem_cons_succ, List.getElem_cons_zero, List.setIfInBounds_toArray, List.set_cons_zero, List.set_cons_succ]
         have mkc0 := trivial
         rotate_left 1
         have hBk := hHeld1.2.2.2.2.2.2
         go_simp
         have HN0 := vl (Box.new v1 (.slice none 0 0) (.int .i64 0) (.slice none 0 0) 29)
         have hb' := (Below.refl v1.heap.size v1).alloc (Nat.le_refl _) (.cells #[.slice none 0 0, .int .i64 0, .slice none 0 0] 29)
         have hsN0 := vl (show v1.heap.size < (v1.alloc (.cells #[.slice none 0 0, .int .i64 0, .slice none 0 0] 29)).heap.size by simp)
         generalize hu : v1.alloc (.cells #[.slice none 0 0, .int .i64 0, .slice none 0 0] 29) = v2 at *
         clear hu
         replace HN1 := vl (HN1.out.below hb')
         have hB2 := hBk.trans (hb'.mono hBk.size)
         have z2 := vl hb'.size
         have y0 := vl hBk.size
         clear hBk hb'
         refine hK.out _ _ (HK.out _ hB2) (fun hHeld2 => ?_)
         clear hK K
         try dsimp only at hHeld2
         clear hHeld1 hB2
         try simp only [Act.put, List.getElem_toArray, List.getElem_cons_succ, List.getElem_cons_zero, List.setIfInBounds_toArray, List.set_cons_zero, List.set_cons_succ]
         generalize v1.heap.size = q0 at *
         have mka0 := trivial
         rotate_left 1)
      | (have ck := (show True ∧ True from ⟨mkc0, trivial⟩)
         clear ck
         refine wpAnyH_ready (rs := [3, 11, 12]) (by kernel_rfl) (by simp) ?_
         refine AllReadyH.cons (o := _) rfl (fun K hK => ?_) (AllReadyH.cons (o := _) rfl (fun K hK => ?_) (AllReadyH.cons (o := _) rfl (fun K hK => ?_) AllReadyH.nil))
         have hBk := hHeld1.2.2.2.2.2.2
         go_simp
         go_at_call 6
         with_reducible refine (toReach t B1 D1 b1 d1 _ hn1 hm1 (HSP1.out.below (HB2.out.trans (hBk.mono HB2.out.size))) (HSI1.out.below (HB2.out.trans (hBk.mono HB2.out.size)))).mono ?_
         rintro en v2 ⟨⟨A6, c6, D6, d6, g6, h6, rfl, _, ho6⟩, hb'⟩
         replace Hp := vl (Hp.out.below hb')
         replace Hd := vl (Hd.out.below hb')
         have Hp' := vl ho6.pts
         have Hd' := vl ho6.ints
         have hB2 := hBk.trans (hb'.mono hBk.size)
         have z2 := vl hb'.size
         clear hBk hb' ho6
         refine hK.out _ _ (HK.out _ hB2) (fun hHeld2 => ?_)
         clear hK K
         try dsimp only at hHeld2
         clear hHeld1 hB2
         try simp only [Act.put, List.getElem_toArray, List.getElem_cons_succ, List.getElem_cons_zero, List.setIfInBounds_toArray, List.set_cons_zero, List.set_cons_succ]
         have mkc1 := trivial
         rotate_left 1
         have hBk := hHeld1.2.2.2.2.2.2
         go_simp
         have HN0 := vl (Box.new v1 (.slice none 0 0) (.int .i64 0) (.slice none 0 0) 29)
         have hb' := (Below.refl v1.heap.size v1).alloc (Nat.le_refl _) (.cells #[.slice none 0 0, .int .i64 0, .slice none 0 0] 29)
         have hsN0 := vl (show v1.heap.size < (v1.alloc (.cells #[.slice none 0 0, .int .i64 0, .slice none 0 0] 29)).heap.size by simp)
         generalize hu : v1.alloc (.cells #[.slice none 0 0, .int .i64 0, .slice none 0 0] 29) = v2 at *
         clear hu
         replace Hp := vl (Hp.out.below hb')
         replace Hd := vl (Hd.out.below hb')
         have hB2 := hBk.trans (hb'.mono hBk.size)
         have z2 := vl hb'.size
         have y0 := vl hBk.size
         clear hBk hb'
         refine hK.out _ _ (HK.out _ hB2) (fun hHeld2 => ?_)
         clear hK K
         try dsimp only at hHeld2
         clear hHeld1 hB2
         try simp only [Act.put, List.getElem_toArray, List.getElem_cons_succ, List.getElem_cons_zero, List.setIfInBounds_toArray, List.set_cons_zero, List.set_cons_succ]
         generalize v1.heap.size = q0 at *
         have mka0 := trivial
         rotate_left 1
         have hBk := hHeld1.2.2.2.2.2.2
         go_simp
         have HN1 := vl (Box.new v1 (.slice none 0 0) (.int .i64 0) (.slice none 0 0) 29)
         have hb' := (Below.refl v1.heap.size v1).alloc (Nat.le_refl _) (.cells #[.slice none 0 0, .int .i64 0, .slice none 0 0] 29)
         have hsN1 := vl (show v1.heap.size < (v1.alloc (.cells #[.slice none 0 0, .int .i64 0, .slice none 0 0] 29)).heap.size by simp)
         generalize hu : v1.alloc (.cells #[.slice none 0 0, .int .i64 0, .slice none 0 0] 29) = v2 at *
         clear hu
         replace Hp := vl (Hp.out.below hb')
         replace Hd := vl (Hd.out.below hb')
         have hB2 := hBk.trans (hb'.mono hBk.size)
         have z2 := vl hb'.size
         have y1 := vl hBk.size
         clear hBk hb'
         refine hK.out _ _ (HK.out _ hB2) (fun hHeld2 => ?_)
         clear hK K
         try dsimp only at hHeld2
         clear hHeld1 hB2
         try simp only [Act.put, List.getElem_toArray, List.getElem_cons_succ, List.getElem_cons_zero, List.setIfInBounds_toArray, List.set_cons_zero, List.set_cons_succ]
         generalize v1.heap.size = q1 at *
         have mka1 := trivial
         rotate_left 1)
    all_goals
      first
      | (have ck := (show True ∧ True ∧ True from ⟨mka0, mka1, trivial⟩)
         clear ck
         refine wpAnyH_ready (rs := [1]) (by kernel_rfl) (by simp) ?_
         refine AllReadyH.cons (o := _) rfl (fun K hK => ?_) AllReadyH.nil
         have hBk := hHeld2.2.2.2.2.2.2
         go_simp
         go_at_call 6
         with_reducible refine (toReach r B0 D0 b0 d0 _ hn0 hm0 (HSP0.out.below (HB2.out.trans (hBk.mono HB2.out.size))) (HSI0.out.below (HB2.out.trans (hBk.mono HB2.out.size)))).mono ?_
         rintro en v3 ⟨⟨A5, c5, D5, d5, g5, h5, rfl, _, ho5⟩, hb'⟩
         replace HN0 := vl (HN0.out.below hb')
         replace HN1 := vl (HN1.out.below hb')
         have Hp := vl ho5.pts
         have Hd := vl ho5.ints
         have hB3 := hBk.trans (hb'.mono hBk.size)
         have z3 := vl hb'.size
         clear hBk hb' ho5
         refine hK.out _ _ (HK.out _ hB3) (fun hHeld3 => ?_)
         clear hK K
         try dsimp only at hHeld3
         clear hHeld2 hB3
         try simp only [Act.put, List.getElem_toArray, List.getElem_cons_succ, List.getElem_cons_zero, List.setIfInBounds_toArray, List.set_cons_zero, List.set_cons_succ]
         have mkc0 := trivial)
      | (have ck := (show True ∧ True ∧ True from ⟨mkc0, mka0, trivial⟩)
         clear ck
         refine wpAnyH_ready (rs := [3, 12]) (by kernel_rfl) (by simp) ?_
         refine AllReadyH.cons (o := _) rfl (fun K hK => ?_) (AllReadyH.cons (o := _) rfl (fun K hK => ?_) AllReadyH.nil)
         have hBk := hHeld2.2.2.2.2.2.2
         go_simp
         go_at_call 6
         with_reducible refine (toReach t B1 D1 b1 d1 _ hn1 hm1 (HSP1.out.below (HB2.out.trans (hBk.mono HB2.out.size))) (HSI1.out.below (HB2.out.trans (hBk.mono HB2.out.size)))).mono ?_
         rintro en v3 ⟨⟨A6, c6, D6, d6, g6, h6, rfl, _, ho6⟩, hb'⟩
         replace Hp := vl (Hp.out.below hb')
         replace Hd := vl (Hd.out.below hb')
         replace HN0 := vl (HN0.out.below hb')
         have Hp' := vl ho6.pts
         have Hd' := vl ho6.ints
         have hB3 := hBk.trans (hb'.mono hBk.size)
         have z3 := vl hb'.size
         clear hBk hb' ho6
         refine hK.out _ _ (HK.out _ hB3) (fun hHeld3 => ?_)
         clear hK K
         try dsimp only at hHeld3
         clear hHeld2 hB3
         try simp only [Act.put, List.getElem_toArray, List.getElem_cons_succ, List.getElem_cons_zero, List.setIfInBounds_toArray, List.set_cons_zero, List.set_cons_succ]
         have mkc1 := trivial
         rotate_left 1
         have hBk := hHeld2.2.2.2.2.2.2
         go_simp
         have HN1 := vl (Box.new v2 (.slice none 0 0) (.int .i64 0) (.slice none 0 0) 29)
         have hb' := (Below.refl v2.heap.size v2).alloc (Nat.le_refl _) (.cells #[.slice none 0 0, .int .i64 0, .slice none 0 0] 29)
         have hsN1 := vl (show v2.heap.size < (v2.alloc (.cells #[.slice none 0 0, .int .i64 0, .slice none 0 0] 29)).heap.size by simp)
         generalize hu : v2.alloc (.cells #[.slice none 0 0, .int .i64 0, .slice none 0 0] 29) = v3 at *
         clear hu
         replace Hp := vl (Hp.out.below hb')
         replace Hd := vl (Hd.out.below hb')
         replace HN0 := vl (HN0.out.below hb')
         have hB3 := hBk.trans (hb'.mono hBk.size)
         have z3 := vl hb'.size
         have y1 := vl hBk.size
         clear hBk hb'
         refine hK.out _ _ (HK.out _ hB3) (fun hHeld3 => ?_)
         clear hK K
         try dsimp only at hHeld3
         clear hHeld2 hB3
         try simp only [Act.put, List.getElem_toArray, List.getElem_cons_succ, List.getElem_cons_zero, List.setIfInBounds_toArray, List.set_cons_zero, List.set_cons_succ]
         generalize v2.heap.size = q1 at *
         have mka1 := trivial
         rotate_left 1)
      | (have ck := (show True ∧ True ∧ True from ⟨mkc0, mka1, trivial⟩)
         clear ck
         refine wpAnyH_ready (rs := [3, 11]) (by kernel_rfl) (by simp) ?_
         refine AllReadyH.cons (o := _) rfl (fun K hK => ?_) (AllReadyH.cons (o := _) rfl (fun K hK => ?_) AllReadyH.nil)
         have hBk := hHeld2.2.2.2.2.2.2
         go_simp
         go_at_call 6
         with_reducible refine (toReach t B1 D1 b1 d1 _ hn1 hm1 (HSP1.out.below (HB2.out.trans (hBk.mono HB2.out.size))) (HSI1.out.below (HB2.out.trans (hBk.mono HB2.out.size)))).mono ?_
         rintro en v3 ⟨⟨A6, c6, D6, d6, g6, h6, rfl, _, ho6⟩, hb'⟩
         replace Hp := vl (Hp.out.below hb')
         replace Hd := vl (Hd.out.below hb')
         replace HN1 := vl (HN1.out.below hb')
         have Hp' := vl ho6.pts
         have Hd' := vl ho6.ints
         have hB3 := hBk.trans (hb'.mono hBk.size)
         have z3 := vl hb'.size
         clear hBk hb' ho6
         refine hK.out _ _ (HK.out _ hB3) (fun hHeld3 => ?_)
         clear hK K
         try dsimp only at hHeld3
         clear hHeld2 hB3
         try simp only [Act.put, List.getElem_toArray, List.getElem_cons_succ, List.getElem_cons_zero, List.setIfInBounds_toArray, List.set_cons_zero, List.set_cons_succ]
         have mkc1 := trivial
         rotate_left 1
         have hBk := hHeld2.2.2.2.2.2.2
         go_simp
         have HN0 := vl (Box.new v2 (.slice none 0 0) (.int .i64 0) (.slice none 0 0) 29)
         have hb' := (Below.refl v2.heap.size v2).alloc (Nat.le_refl _) (.cells #[.slice none 0 0, .int .i64 0, .slice none 0 0] 29)
         have hsN0 := vl (show v2.heap.size < (v2.alloc (.cells #[.slice none 0 0, .int .i64 0, .slice none 0 0] 29)).heap.size by simp)
         generalize hu : v2.alloc (.cells #[.slice none 0 0, .int .i64 0, .slice none 0 0] 29) = v3 at *
         clear hu
         replace Hp := vl (Hp.out.below hb')
         replace Hd := vl (Hd.out.below hb')
         replace HN1 := vl (HN1.out.below hb')
         have hB3 := hBk.trans (hb'.mono hBk.size)
         have z3 := vl hb'.size
         have y0 := vl hBk.size
         clear hBk hb'
         refine hK.out _ _ (HK.out _ hB3) (fun hHeld3 => ?_)
         clear hK K
         try dsimp only at hHeld3
         clear hHeld2 hB3
         try simp only [Act.put, List.getElem_toArray, List.getElem_cons_succ, List.getElem_cons_zero, List.setIfInBounds_toArray, List.set_cons_zero, List.set_cons_succ]
         generalize v2.heap.size = q0 at *
         have mka0 := trivial
         rotate_left 1)
      | (have ck := (show True ∧ True ∧ True from ⟨mkc0, mkc1, trivial⟩)
         clear ck
         refine wpAnyH_ready (rs := [6, 11, 12]) (by kernel_rfl) (by simp) ?_
         refine AllReadyH.cons (o := _) rfl (fun K hK => ?_) (AllReadyH.cons (o := _) rfl (fun K hK => ?_) (AllReadyH.cons (o := _) rfl (fun K hK => ?_) AllReadyH.nil))
         have hBk := hHeld2.2.2.2.2.2.2
         go_simp
         go_at_call 5
         with_reducible refine (HSp.out A5 c5 D5 d5 A6 c6 D6 d6 _ Hp.out Hd.out Hp'.out Hd'.out).mono ?_
         rintro en v3 ⟨⟨A7, c7, D7, d7, g7, h7, A8, c8, D8, d8, g8, h8, M, rfl, _, _, ho7, ho8, hM1, hM2⟩, hb'⟩
         replace Hp := vl (Hp.out.below hb')
         replace Hd := vl (Hd.out.below hb')
         replace Hp' := vl (Hp'.out.below hb')
         replace Hd' := vl (Hd'.out.below hb')
         have HRa := vl ho7
         have HRb := vl ho8
         have hB3 := hBk.trans (hb'.mono hBk.size)
         have z3 := vl hb'.size
         have hM1' := vl hM1
         have hM2' := vl hM2
         clear hBk hb' ho7 ho8 hM1 hM2
         refine hK.out _ _ (HK.out _ hB3) (fun hHeld3 => ?_)
         clear hK K
         try dsimp only at hHeld3
         clear hHeld2 hB3
         try simp only [Act.put, List.getElem_toArray, List.getElem_cons_succ, List.getElem_cons_zero, List.setIfInBounds_toArray, List.set_cons_zero, List.set_cons_succ]
         refine wpAnyH_take (i := 7) (oi := _) (v := ?_) rfl (by kernel_rfl) (by kernel_rfl) (by kernel_rfl) (fun _ _ _ h => h) (Or.inl ⟨by rfl, ?_⟩) (by assumption) ?_
         rotate_left 1
         · intro w hSw
           try dsimp only at hSw
           go_simp
           try with_reducible rfl
         try simp only [Act.put, List.getElem_toArray, List.getElem_cons_succ, List.getElem_cons_zero, List.setIfInBounds_toArray, List.set_cons_zero, List.set_cons_succ]
         refine wpAnyH_take (i := 8) (oi := _) (v := ?_) rfl (by kernel_rfl) (by kernel_rfl) (by kernel_rfl) (fun _ _ _ h => h) (Or.inl ⟨by rfl, ?_⟩) (by assumption) ?_
         rotate_left 1
         · intro w hSw
           try dsimp only at hSw
           go_simp
           try with_reducible rfl
         try simp only [Act.put, List.getElem_toArray, List.getElem_cons_succ, List.getElem_cons_zero, List.setIfInBounds_toArray, List.set_cons_zero, List.set_cons_succ]
         refine wpAnyH_take (i := 9) (oi := _) (v := ?_) rfl (by kernel_rfl) (by kernel_rfl) (by kernel_rfl) (fun _ _ _ h => h) (Or.inl ⟨by rfl, ?_⟩) (by assumption) ?_
         rotate_left 1
         · intro w hSw
           try dsimp only at hSw
           go_simp
           try with_reducible rfl
         try simp only [Act.put, List.getElem_toArray, List.getElem_cons_succ, List.getElem_cons_zero, List.setIfInBounds_toArray, List.set_cons_zero, List.set_cons_succ]
         refine wpAnyH_take (i := 10) (oi := _) (v := ?_) rfl (by kernel_rfl) (by kernel_rfl) (by kernel_rfl) (fun _ _ _ h => h) (Or.inl ⟨by rfl, ?_⟩) (by assumption) ?_
         rotate_left 1
         · intro w hSw
           try dsimp only at hSw
           go_simp
           try with_reducible rfl
         try simp only [Act.put, List.getElem_toArray, List.getElem_cons_succ, List.getElem_cons_zero, List.setIfInBounds_toArray, List.set_cons_zero, List.set_cons_succ]
         have mkc2 := trivial
         rotate_left 1
         have hBk := hHeld2.2.2.2.2.2.2
         go_simp
         have HN0 := vl (Box.new v2 (.slice none 0 0) (.int .i64 0) (.slice none 0 0) 29)
         have hb' := (Below.refl v2.heap.size v2).alloc (Nat.le_refl _) (.cells #[.slice none 0 0, .int .i64 0, .slice none 0 0] 29)
         have hsN0 := vl (show v2.heap.size < (v2.alloc (.cells #[.slice none 0 0, .int .i64 0, .slice none 0 0] 29)).heap.size by simp)
         generalize hu : v2.alloc (.cells #[.slice none 0 0, .int .i64 0, .slice none 0 0] 29) = v3 at *
         clear hu
         replace Hp := vl (Hp.out.below hb')
         replace Hd := vl (Hd.out.below hb')
         replace Hp' := vl (Hp'.out.below hb')
         replace Hd' := vl (Hd'.out.below hb')
         have hB3 := hBk.trans (hb'.mono hBk.size)
         have z3 := vl hb'.size
         have y0 := vl hBk.size
         clear hBk hb'
         refine hK.out _ _ (HK.out _ hB3) (fun hHeld3 => ?_)
         clear hK K
         try dsimp only at hHeld3
         clear hHeld2 hB3
         try simp only [Act.put, List.getElem_toArray, List.getElem_cons_succ, List.getElem_cons_zero, List.setIfInBounds_toArray, List.set_cons_zero, List.set_cons_succ]
         generalize v2.heap.size = q0 at *
         have mka0 := trivial
         rotate_left 1
         have hBk := hHeld2.2.2.2.2.2.2
         go_simp
         have HN1 := vl (Box.new v2 (.slice none 0 0) (.int .i64 0) (.slice none 0 0) 29)
         have hb' := (Below.refl v2.heap.size v2).alloc (Nat.le_refl _) (.cells #[.slice none 0 0, .int .i64 0, .slice none 0 0] 29)
         have hsN1 := vl (show v2.heap.size < (v2.alloc (.cells #[.slice none 0 0, .int .i64 0, .slice none 0 0] 29)).heap.size by simp)
         generalize hu : v2.alloc (.cells #[.slice none 0 0, .int .i64 0, .slice none 0 0] 29) = v3 at *
         clear hu
         replace Hp := vl (Hp.out.below hb')
         replace Hd := vl (Hd.out.below hb')
         replace Hp' := vl (Hp'.out.below hb')
         replace Hd' := vl (Hd'.out.below hb')
         have hB3 := hBk.trans (hb'.mono hBk.size)
         have z3 := vl hb'.size
         have y1 := vl hBk.size
         clear hBk hb'
         refine hK.out _ _ (HK.out _ hB3) (fun hHeld3 => ?_)
         clear hK K
         try dsimp only at hHeld3
         clear hHeld2 hB3
         try simp only [Act.put, List.getElem_toArray, List.getElem_cons_succ, List.getElem_cons_zero, List.setIfInBounds_toArray, List.set_cons_zero, List.set_cons_succ]
         generalize v2.heap.size = q1 at *
         have mka1 := trivial
         rotate_left 1)
    all_goals
      first
      | (have ck := (show True ∧ True ∧ True ∧ True from ⟨mkc0, mka0, mka1, trivial⟩)
         clear ck
         refine wpAnyH_ready (rs := [3]) (by kernel_rfl) (by simp) ?_
         refine AllReadyH.cons (o := _) rfl (fun K hK => ?_) AllReadyH.nil
         have hBk := hHeld3.2.2.2.2.2.2
         go_simp
         go_at_call 6
         with_reducible refine (toReach t B1 D1 b1 d1 _ hn1 hm1 (HSP1.out.below (HB2.out.trans (hBk.mono HB2.out.size))) (HSI1.out.below (HB2.out.trans (hBk.mono HB2.out.size)))).mono ?_
         rintro en v4 ⟨⟨A6, c6, D6, d6, g6, h6, rfl, _, ho6⟩, hb'⟩
         replace Hp := vl (Hp.out.below hb')
         replace Hd := vl (Hd.out.below hb')
         replace HN0 := vl (HN0.out.below hb')
         replace HN1 := vl (HN1.out.below hb')
         have Hp' := vl ho6.pts
         have Hd' := vl ho6.ints
         have hB4 := hBk.trans (hb'.mono hBk.size)
         have z4 := vl hb'.size
         clear hBk hb' ho6
         refine hK.out _ _ (HK.out _ hB4) (fun hHeld4 => ?_)
         clear hK K
         try dsimp only at hHeld4
         clear hHeld3 hB4
         try simp only [Act.put, List.getElem_toArray, List.getElem_cons_succ, List.getElem_cons_zero, List.setIfInBounds_toArray, List.set_cons_zero, List.set_cons_succ]
         have mkc1 := trivial)
      | (have ck := (show True ∧ True ∧ True ∧ True from ⟨mkc0, mkc1, mka0, trivial⟩)
         clear ck
         refine wpAnyH_ready (rs := [6, 12]) (by kernel_rfl) (by simp) ?_
         refine AllReadyH.cons (o := _) rfl (fun K hK => ?_) (AllReadyH.cons (o := _) rfl (fun K hK => ?_) AllReadyH.nil)
         have hBk := hHeld3.2.2.2.2.2.2
         go_simp
         go_at_call 5
         with_reducible refine (HSp.out A5 c5 D5 d5 A6 c6 D6 d6 _ Hp.out Hd.out Hp'.out Hd'.out).mono ?_
         rintro en v4 ⟨⟨A7, c7, D7, d7, g7, h7, A8, c8, D8, d8, g8, h8, M, rfl, _, _, ho7, ho8, hM1, hM2⟩, hb'⟩
         replace Hp := vl (Hp.out.below hb')
         replace Hd := vl (Hd.out.below hb')
         replace Hp' := vl (Hp'.out.below hb')
         replace Hd' := vl (Hd'.out.below hb')
         replace HN0 := vl (HN0.out.below hb')
         have HRa := vl ho7
         have HRb := vl ho8
         have hB4 := hBk.trans (hb'.mono hBk.size)
         have z4 := vl hb'.size
         have hM1' := vl hM1
         have hM2' := vl hM2
         clear hBk hb' ho7 ho8 hM1 hM2
         refine hK.out _ _ (HK.out _ hB4) (fun hHeld4 => ?_)
         clear hK K
         try dsimp only at hHeld4
         clear hHeld3 hB4
         try simp only [Act.put, List.getElem_toArray, List.getElem_cons_succ, List.getElem_cons_zero, List.setIfInBounds_toArray, List.set_cons_zero, List.set_cons_succ]
         refine wpAnyH_take (i := 7) (oi := _) (v := ?_) rfl (by kernel_rfl) (by kernel_rfl) (by kernel_rfl) (fun _ _ _ h => h) (Or.inl ⟨by rfl, ?_⟩) (by assumption) ?_
         rotate_left 1
         · intro w hSw
           try dsimp only at hSw
           go_simp
           try with_reducible rfl
         try simp only [Act.put, List.getElem_toArray, List.getElem_cons_succ, List.getElem_cons_zero, List.setIfInBounds_toArray, List.set_cons_zero, List.set_cons_succ]
         refine wpAnyH_take (i := 8) (oi := _) (v := ?_) rfl (by kernel_rfl) (by kernel_rfl) (by kernel_rfl) (fun _ _ _ h => h) (Or.inl ⟨by rfl, ?_⟩) (by assumption) ?_
         rotate_left 1
         · intro w hSw
           try dsimp only at hSw
           go_simp
           try with_reducible rfl
         try simp only [Act.put, List.getElem_toArray, List.getElem_cons_succ, List.getElem_cons_zero, List.setIfInBounds_toArray, List.set_cons_zero, List.set_cons_succ]
         refine wpAnyH_take (i := 9) (oi := _) (v := ?_) rfl (by kernel_rfl) (by kernel_rfl) (by kernel_rfl) (fun _ _ _ h => h) (Or.inl ⟨by rfl, ?_⟩) (by assumption) ?_
         rotate_left 1
         · intro w hSw
           try dsimp only at hSw
           go_simp
           try with_reducible rfl
         try simp only [Act.put, List.getElem_toArray, List.getElem_cons_succ, List.getElem_cons_zero, List.setIfInBounds_toArray, List.set_cons_zero, List.set_cons_succ]
         refine wpAnyH_take (i := 10) (oi := _) (v := ?_) rfl (by kernel_rfl) (by kernel_rfl) (by kernel_rfl) (fun _ _ _ h => h) (Or.inl ⟨by rfl, ?_⟩) (by assumption) ?_
         rotate_left 1
         · intro w hSw
           try dsimp only at hSw
           go_simp
           try with_reducible rfl
         try simp only [Act.put, List.getElem_toArray, List.getElem_cons_succ, List.getElem_cons_zero, List.setIfInBounds_toArray, List.set_cons_zero, List.set_cons_succ]
         have mkc2 := trivial
         rotate_left 1
         have hBk := hHeld3.2.2.2.2.2.2
         go_simp
         have HN1 := vl (Box.new v3 (.slice none 0 0) (.int .i64 0) (.slice none 0 0) 29)
         have hb' := (Below.refl v3.heap.size v3).alloc (Nat.le_refl _) (.cells #[.slice none 0 0, .int .i64 0, .slice none 0 0] 29)
         have hsN1 := vl (show v3.heap.size < (v3.alloc (.cells #[.slice none 0 0, .int .i64 0, .slice none 0 0] 29)).heap.size by simp)
         generalize hu : v3.alloc (.cells #[.slice none 0 0, .int .i64 0, .slice none 0 0] 29) = v4 at *
         clear hu
         replace Hp := vl (Hp.out.below hb')
         replace Hd := vl (Hd.out.below hb')
         replace Hp' := vl (Hp'.out.below hb')
         replace Hd' := vl (Hd'.out.below hb')
         replace HN0 := vl (HN0.out.below hb')
         have hB4 := hBk.trans (hb'.mono hBk.size)
         have z4 := vl hb'.size
         have y1 := vl hBk.size
         clear hBk hb'
         refine hK.out _ _ (HK.out _ hB4) (fun hHeld4 => ?_)
         clear hK K
         try dsimp only at hHeld4
         clear hHeld3 hB4
         try simp only [Act.put, List.getElem_toArray, List.getElem_cons_succ, List.getElem_cons_zero, List.setIfInBounds_toArray, List.set_cons_zero, List.set_cons_succ]
         generalize v3.heap.size = q1 at *
         have mka1 := trivial
         rotate_left 1)
      | (have ck := (show True ∧ True ∧ True ∧ True from ⟨mkc0, mkc1, mka1, trivial⟩)
         clear ck
         refine wpAnyH_ready (rs := [6, 11]) (by kernel_rfl) (by simp) ?_
         refine AllReadyH.cons (o := _) rfl (fun K hK => ?_) (AllReadyH.cons (o := _) rfl (fun K hK => ?_) AllReadyH.nil)
         have hBk := hHeld3.2.2.2.2.2.2
         go_simp
         go_at_call 5
         with_reducible refine (HSp.out A5 c5 D5 d5 A6 c6 D6 d6 _ Hp.out Hd.out Hp'.out Hd'.out).mono ?_
         rintro en v4 ⟨⟨A7, c7, D7, d7, g7, h7, A8, c8, D8, d8, g8, h8, M, rfl, _, _, ho7, ho8, hM1, hM2⟩, hb'⟩
         replace Hp := vl (Hp.out.below hb')
         replace Hd := vl (Hd.out.below hb')
         replace Hp' := vl (Hp'.out.below hb')
         replace Hd' := vl (Hd'.out.below hb')
         replace HN1 := vl (HN1.out.below hb')
         have HRa := vl ho7
         have HRb := vl ho8
         have hB4 := hBk.trans (hb'.mono hBk.size)
         have z4 := vl hb'.size
         have hM1' := vl hM1
         have hM2' := vl hM2
         clear hBk hb' ho7 ho8 hM1 hM2
         refine hK.out _ _ (HK.out _ hB4) (fun hHeld4 => ?_)
         clear hK K
         try dsimp only at hHeld4
         clear hHeld3 hB4
         try simp only [Act.put, List.getElem_toArray, List.getElem_cons_succ, List.getElem_cons_zero, List.setIfInBounds_toArray, List.set_cons_zero, List.set_cons_succ]
         refine wpAnyH_take (i := 7) (oi := _) (v := ?_) rfl (by kernel_rfl) (by kernel_rfl) (by kernel_rfl) (fun _ _ _ h => h) (Or.inl ⟨by rfl, ?_⟩) (by assumption) ?_
         rotate_left 1
         · intro w hSw
           try dsimp only at hSw
           go_simp
           try with_reducible rfl
         try simp only [Act.put, List.getElem_toArray, List.getElem_cons_succ, List.getElem_cons_zero, List.setIfInBounds_toArray, List.set_cons_zero, List.set_cons_succ]
         refine wpAnyH_take (i := 8) (oi := _) (v := ?_) rfl (by kernel_rfl) (by kernel_rfl) (by kernel_rfl) (fun _ _ _ h => h) (Or.inl ⟨by rfl, ?_⟩) (by assumption) ?_
         rotate_left 1
         · intro w hSw
           try dsimp only at hSw
           go_simp
           try with_reducible rfl
         try simp only [Act.put, List.getElem_toArray, List.getElem_cons_succ, List.getElem_cons_zero, List.setIfInBounds_toArray, List.set_cons_zero, List.set_cons_succ]
         refine wpAnyH_take (i := 9) (oi := _) (v := ?_) rfl (by kernel_rfl) (by kernel_rfl) (by kernel_rfl) (fun _ _ _ h => h) (Or.inl ⟨by rfl, ?_⟩) (by assumption) ?_
         rotate_left 1
         · intro w hSw
           try dsimp only at hSw
           go_simp
           try with_reducible rfl
         try simp only [Act.put, List.getElem_toArray, List.getElem_cons_succ, List.getElem_cons_zero, List.setIfInBounds_toArray, List.set_cons_zero, List.set_cons_succ]
         refine wpAnyH_take (i := 10) (oi := _) (v := ?_) rfl (by kernel_rfl) (by kernel_rfl) (by kernel_rfl) (fun _ _ _ h => h) (Or.inl ⟨by rfl, ?_⟩) (by assumption) ?_
         rotate_left 1
         · intro w hSw
           try dsimp only at hSw
           go_simp
           try with_reducible rfl
         try simp only [Act.put, List.getElem_toArray, List.getElem_cons_succ, List.getElem_cons_zero, List.setIfInBounds_toArray, List.set_cons_zero, List.set_cons_succ]
         have mkc2 := trivial
         rotate_left 1
         have hBk := hHeld3.2.2.2.2.2.2
         go_simp
         have HN0 := vl (Box.new v3 (.slice none 0 0) (.int .i64 0) (.slice none 0 0) 29)
         have hb' := (Below.refl v3.heap.size v3).alloc (Nat.le_refl _) (.cells #[.slice none 0 0, .int .i64 0, .slice none 0 0] 29)
         have hsN0 := vl (show v3.heap.size < (v3.alloc (.cells #[.slice none 0 0, .int .i64 0, .slice none 0 0] 29)).heap.size by simp)
         generalize hu : v3.alloc (.cells #[.slice none 0 0, .int .i64 0, .slice none 0 0] 29) = v4 at *
         clear hu
         replace Hp := vl (Hp.out.below hb')
         replace Hd := vl (Hd.out.below hb')
         replace Hp' := vl (Hp'.out.below hb')
         replace Hd' := vl (Hd'.out.below hb')
         replace HN1 := vl (HN1.out.below hb')
         have hB4 := hBk.trans (hb'.mono hBk.size)
         have z4 := vl hb'.size
         have y0 := vl hBk.size
         clear hBk hb'
         refine hK.out _ _ (HK.out _ hB4) (fun hHeld4 => ?_)
         clear hK K
         try dsimp only at hHeld4
         clear hHeld3 hB4
         try simp only [Act.put, List.getElem_toArray, List.getElem_cons_succ, List.getElem_cons_zero, List.setIfInBounds_toArray, List.set_cons_zero, List.set_cons_succ]
         generalize v3.heap.size = q0 at *
         have mka0 := trivial
         rotate_left 1)
      | (have ck := (show True ∧ True ∧ True ∧ True from ⟨mkc0, mkc1, mkc2, trivial⟩)
         clear ck
         refine wpAnyH_ready (rs := [11, 12]) (by kernel_rfl) (by simp) ?_
         refine AllReadyH.cons (o := _) rfl (fun K hK => ?_) (AllReadyH.cons (o := _) rfl (fun K hK => ?_) AllReadyH.nil)
         have hBk := hHeld3.2.2.2.2.2.2
         go_simp
         have HN0 := vl (Box.new v3 (.slice none 0 0) (.int .i64 0) (.slice none 0 0) 29)
         have hb' := (Below.refl v3.heap.size v3).alloc (Nat.le_refl _) (.cells #[.slice none 0 0, .int .i64 0, .slice none 0 0] 29)
         have hsN0 := vl (show v3.heap.size < (v3.alloc (.cells #[.slice none 0 0, .int .i64 0, .slice none 0 0] 29)).heap.size by simp)
         generalize hu : v3.alloc (.cells #[.slice none 0 0, .int .i64 0, .slice none 0 0] 29) = v4 at *
         clear hu
         replace Hp := vl (Hp.out.below hb')
         replace Hd := vl (Hd.out.below hb')
         replace Hp' := vl (Hp'.out.below hb')
         replace Hd' := vl (Hd'.out.below hb')
         replace HRa := vl (HRa.out.below hb')
         replace HRb := vl (HRb.out.below hb')
         have hB4 := hBk.trans (hb'.mono hBk.size)
         have z4 := vl hb'.size
         have y0 := vl hBk.size
         clear hBk hb'
         refine hK.out _ _ (HK.out _ hB4) (fun hHeld4 => ?_)
         clear hK K
         try dsimp only at hHeld4
         clear hHeld3 hB4
         try simp only [Act.put, List.getElem_toArray, List.getElem_cons_succ, List.getElem_cons_zero, List.setIfInBounds_toArray, List.set_cons_zero, List.set_cons_succ]
         generalize v3.heap.size = q0 at *
         have mka0 := trivial
         rotate_left 1
         have hBk := hHeld3.2.2.2.2.2.2
         go_simp
         have HN1 := vl (Box.new v3 (.slice none 0 0) (.int .i64 0) (.slice none 0 0) 29)
         have hb' := (Below.refl v3.heap.size v3).alloc (Nat.le_refl _) (.cells #[.slice none 0 0, .int .i64 0, .slice none 0 0] 29)
         have hsN1 := vl (show v3.heap.size < (v3.alloc (.cells #[.slice none 0 0, .int .i64 0, .slice none 0 0] 29)).heap.size by simp)
         generalize hu : v3.alloc (.cells #[.slice none 0 0, .int .i64 0, .slice none 0 0] 29) = v4 at *
         clear hu
         replace Hp := vl (Hp.out.below hb')
         replace Hd := vl (Hd.out.below hb')
         replace Hp' := vl (Hp'.out.below hb')
         replace Hd' := vl (Hd'.out.below hb')
         replace HRa := vl (HRa.out.below hb')
         replace HRb := vl (HRb.out.below hb')
         have hB4 := hBk.trans (hb'.mono hBk.size)
         have z4 := vl hb'.size
         have y1 := vl hBk.size
         clear hBk hb'
         refine hK.out _ _ (HK.out _ hB4) (fun hHeld4 => ?_)
         clear hK K
         try dsimp only at hHeld4
         clear hHeld3 hB4
         try simp only [Act.put, List.getElem_toArray, List.getElem_cons_succ, List.getElem_cons_zero, List.setIfInBounds_toArray, List.set_cons_zero, List.set_cons_succ]
         generalize v3.heap.size = q1 at *
         have mka1 := trivial
         rotate_left 1)
    all_goals
      first
      | (have ck := (show True ∧ True ∧ True ∧ True ∧ True from ⟨mkc0, mkc1, mka0, mka1, trivial⟩)
         clear ck
         refine wpAnyH_ready (rs := [6]) (by kernel_rfl) (by simp) ?_
         refine AllReadyH.cons (o := _) rfl (fun K hK => ?_) AllReadyH.nil
         have hBk := hHeld4.2.2.2.2.2.2
         go_simp
         go_at_call 5
         with_reducible refine (HSp.out A5 c5 D5 d5 A6 c6 D6 d6 _ Hp.out Hd.out Hp'.out Hd'.out).mono ?_
         rintro en v5 ⟨⟨A7, c7, D7, d7, g7, h7, A8, c8, D8, d8, g8, h8, M, rfl, _, _, ho7, ho8, hM1, hM2⟩, hb'⟩
         replace Hp := vl (Hp.out.below hb')
         replace Hd := vl (Hd.out.below hb')
         replace Hp' := vl (Hp'.out.below hb')
         replace Hd' := vl (Hd'.out.below hb')
         replace HN0 := vl (HN0.out.below hb')
         replace HN1 := vl (HN1.out.below hb')
         have HRa := vl ho7
         have HRb := vl ho8
         have hB5 := hBk.trans (hb'.mono hBk.size)
         have z5 := vl hb'.size
         have hM1' := vl hM1
         have hM2' := vl hM2
         clear hBk hb' ho7 ho8 hM1 hM2
         refine hK.out _ _ (HK.out _ hB5) (fun hHeld5 => ?_)
         clear hK K
         try dsimp only at hHeld5
         clear hHeld4 hB5
         try simp only [Act.put, List.getElem_toArray, List.getElem_cons_succ, List.getElem_cons_zero, List.setIfInBounds_toArray, List.set_cons_zero, List.set_cons_succ]
         refine wpAnyH_take (i := 7) (oi := _) (v := ?_) rfl (by kernel_rfl) (by kernel_rfl) (by kernel_rfl) (fun _ _ _ h => h) (Or.inl ⟨by rfl, ?_⟩) (by assumption) ?_
         rotate_left 1
         · intro w hSw
           try dsimp only at hSw
           go_simp
           try with_reducible rfl
         try simp only [Act.put, List.getElem_toArray, List.getElem_cons_succ, List.getElem_cons_zero, List.setIfInBounds_toArray, List.set_cons_zero, List.set_cons_succ]
         refine wpAnyH_take (i := 8) (oi := _) (v := ?_) rfl (by kernel_rfl) (by kernel_rfl) (by kernel_rfl) (fun _ _ _ h => h) (Or.inl ⟨by rfl, ?_⟩) (by assumption) ?_
         rotate_left 1
         · intro w hSw
           try dsimp only at hSw
           go_simp
           try with_reducible rfl
         try simp only [Act.put, List.getElem_toArray, List.getElem_cons_succ, List.getElem_cons_zero, List.setIfInBounds_toArray, List.set_cons_zero, List.set_cons_succ]
         refine wpAnyH_take (i := 9) (oi := _) (v := ?_) rfl (by kernel_rfl) (by kernel_rfl) (by kernel_rfl) (fun _ _ _ h => h) (Or.inl ⟨by rfl, ?_⟩) (by assumption) ?_
         rotate_left 1
         · intro w hSw
           try dsimp only at hSw
           go_simp
           try with_reducible rfl
         try simp only [Act.put, List.getElem_toArray, List.getElem_cons_succ, List.getElem_cons_zero, List.setIfInBounds_toArray, List.set_cons_zero, List.set_cons_succ]
         refine wpAnyH_take (i := 10) (oi := _) (v := ?_) rfl (by kernel_rfl) (by kernel_rfl) (by kernel_rfl) (fun _ _ _ h => h) (Or.inl ⟨by rfl, ?_⟩) (by assumption) ?_
         rotate_left 1
         · intro w hSw
           try dsimp only at hSw
           go_simp
           try with_reducible rfl
         try simp only [Act.put, List.getElem_toArray, List.getElem_cons_succ, List.getElem_cons_zero, List.setIfInBounds_toArray, List.set_cons_zero, List.set_cons_succ]
         have mkc2 := trivial)
      | (have ck := (show True ∧ True ∧ True ∧ True ∧ True from ⟨mkc0, mkc1, mkc2, mka0, trivial⟩)
         clear ck
         refine wpAnyH_ready (rs := [12]) (by kernel_rfl) (by simp) ?_
         refine AllReadyH.cons (o := _) rfl (fun K hK => ?_) AllReadyH.nil
         have hBk := hHeld4.2.2.2.2.2.2
         go_simp
         have HN1 := vl (Box.new v4 (.slice none 0 0) (.int .i64 0) (.slice none 0 0) 29)
         have hb' := (Below.refl v4.heap.size v4).alloc (Nat.le_refl _) (.cells #[.slice none 0 0, .int .i64 0, .slice none 0 0] 29)
         have hsN1 := vl (show v4.heap.size < (v4.alloc (.cells #[.slice none 0 0, .int .i64 0, .slice none 0 0] 29)).heap.size by simp)
         generalize hu : v4.alloc (.cells #[.slice none 0 0, .int .i64 0, .slice none 0 0] 29) = v5 at *
         clear hu
         replace Hp := vl (Hp.out.below hb')
         replace Hd := vl (Hd.out.below hb')
         replace Hp' := vl (Hp'.out.below hb')
         replace Hd' := vl (Hd'.out.below hb')
         replace HRa := vl (HRa.out.below hb')
         replace HRb := vl (HRb.out.below hb')
         replace HN0 := vl (HN0.out.below hb')
         have hB5 := hBk.trans (hb'.mono hBk.size)
         have z5 := vl hb'.size
         have y1 := vl hBk.size
         clear hBk hb'
         refine hK.out _ _ (HK.out _ hB5) (fun hHeld5 => ?_)
         clear hK K
         try dsimp only at hHeld5
         clear hHeld4 hB5
         try simp only [Act.put, List.getElem_toArray, List.getElem_cons_succ, List.getElem_cons_zero, List.setIfInBounds_toArray, List.set_cons_zero, List.set_cons_succ]
         generalize v4.heap.size = q1 at *
         have mka1 := trivial)
      | (have ck := (show True ∧ True ∧ True ∧ True ∧ True from ⟨mkc0, mkc1, mkc2, mka1, trivial⟩)
         clear ck
         refine wpAnyH_ready (rs := [11]) (by kernel_rfl) (by simp) ?_
         refine AllReadyH.cons (o := _) rfl (fun K hK => ?_) AllReadyH.nil
         have hBk := hHeld4.2.2.2.2.2.2
         go_simp
         have HN0 := vl (Box.new v4 (.slice none 0 0) (.int .i64 0) (.slice none 0 0) 29)
         have hb' := (Below.refl v4.heap.size v4).alloc (Nat.le_refl _) (.cells #[.slice none 0 0, .int .i64 0, .slice none 0 0] 29)
         have hsN0 := vl (show v4.heap.size < (v4.alloc (.cells #[.slice none 0 0, .int .i64 0, .slice none 0 0] 29)).heap.size by simp)
         generalize hu : v4.alloc (.cells #[.slice none 0 0, .int .i64 0, .slice none 0 0] 29) = v5 at *
         clear hu
         replace Hp := vl (Hp.out.below hb')
         replace Hd := vl (Hd.out.below hb')
         replace Hp' := vl (Hp'.out.below hb')
         replace Hd' := vl (Hd'.out.below hb')
         replace HRa := vl (HRa.out.below hb')
         replace HRb := vl (HRb.out.below hb')
         replace HN1 := vl (HN1.out.below hb')
         have hB5 := hBk.trans (hb'.mono hBk.size)
         have z5 := vl hb'.size
         have y0 := vl hBk.size
         clear hBk hb'
         refine hK.out _ _ (HK.out _ hB5) (fun hHeld5 => ?_)
         clear hK K
         try dsimp only at hHeld5
         clear hHeld4 hB5
         try simp only [Act.put, List.getElem_toArray, List.getElem_cons_succ, List.getElem_cons_zero, List.setIfInBounds_toArray, List.set_cons_zero, List.set_cons_succ]
         generalize v4.heap.size = q0 at *
         have mka0 := trivial)
    all_goals
      have s0 := s0.out
      have z1 := z1.out
      have z2 := z2.out
      have z3 := z3.out
      have z4 := z4.out
      have z5 := z5.out
      have hsN0 := hsN0.out
      have hsN1 := hsN1.out
      have y0 := y0.out
      have y1 := y1.out
      have hM1 := hM1'.out
      have hM2 := hM2'.out
      have hBk := hHeld5.2.2.2.2.2.2
      obtain ⟨p0, p1, p2⟩ := HN0.out.at
      obtain ⟨f0, f1, f2⟩ := HN0.out.free
      refine wpAnyH_ready (rs := [13]) (by kernel_rfl) (by simp) ?_
      refine AllReadyH.cons (o := _) rfl (fun K hK => ?_) AllReadyH.nil
      go_simp
      clear p0 p1 p2 f0 f1 f2
      have hbj : ∀ j : Nat, w2.heap.size ≤ (⟨q0, j, none⟩ : Addr).block := fun j => by dsimp only; omega
      have hB6 := (((hBk.setCell (hbj 0) (.slice A7 Ra.n c7)).setCell (hbj 1) (.int .i64 Ra.v)).setCell (hbj 2) (.slice D7 Ra.m d7))
      have ht' := touch3 (w := v5) (g := q0) (.slice A7 Ra.n c7) (.int .i64 Ra.v) (.slice D7 Ra.m d7)
      replace HN0 := vl (((HN0.out.set0 (.slice A7 Ra.n c7)).set1 (.int .i64 Ra.v)).set2 (.slice D7 Ra.m d7))
      replace HN1 := vl (HN1.out.touch ht' (by omega))
      replace HRa := vl (HRa.out.touch ht' (by omega))
      replace HRb := vl (HRb.out.touch ht' (by omega))
      have hsz5 : (((v5.setCell ⟨q0, 0, none⟩ (.slice A7 Ra.n c7)).setCell ⟨q0, 1, none⟩ (.int .i64 Ra.v)).setCell ⟨q0, 2, none⟩ (.slice D7 Ra.m d7)).heap.size = v5.heap.size := by simp
      generalize hu : (((v5.setCell ⟨q0, 0, none⟩ (.slice A7 Ra.n c7)).setCell ⟨q0, 1, none⟩ (.int .i64 Ra.v)).setCell ⟨q0, 2, none⟩ (.slice D7 Ra.m d7)) = v6 at *
      clear hu hbj hBk ht'
      refine hK.out _ _ (HK.out _ hB6) (fun hHeld6 => ?_)
      clear hK K
      try dsimp only at hHeld6
      clear hHeld5 hB6
      try simp only [Act.put, List.getElem_toArray, List.getElem_cons_succ, List.getElem_cons_zero, List.setIfInBounds_toArray, List.set_cons_zero, List.set_cons_succ]
      have hBk := hHeld6.2.2.2.2.2.2
      obtain ⟨p0, p1, p2⟩ := HN1.out.at
      obtain ⟨f0, f1, f2⟩ := HN1.out.free
      refine wpAnyH_ready (rs := [14]) (by kernel_rfl) (by simp) ?_
      refine AllReadyH.cons (o := _) rfl (fun K hK => ?_) AllReadyH.nil
      go_simp
      clear p0 p1 p2 f0 f1 f2
      have hbj : ∀ j : Nat, w2.heap.size ≤ (⟨q1, j, none⟩ : Addr).block := fun j => by dsimp only; omega
      have hB7 := (((hBk.setCell (hbj 0) (.slice A8 Rb.n c8)).setCell (hbj 1) (.int .i64 Rb.v)).setCell (hbj 2) (.slice D8 Rb.m d8))
      have ht' := touch3 (w := v6) (g := q1) (.slice A8 Rb.n c8) (.int .i64 Rb.v) (.slice D8 Rb.m d8)
      replace HN1 := vl (((HN1.out.set0 (.slice A8 Rb.n c8)).set1 (.int .i64 Rb.v)).set2 (.slice D8 Rb.m d8))
      replace HN0 := vl (HN0.out.touch ht' (by omega))
      replace HRa := vl (HRa.out.touch ht' (by omega))
      replace HRb := vl (HRb.out.touch ht' (by omega))
      have hsz6 : (((v6.setCell ⟨q1, 0, none⟩ (.slice A8 Rb.n c8)).setCell ⟨q1, 1, none⟩ (.int .i64 Rb.v)).setCell ⟨q1, 2, none⟩ (.slice D8 Rb.m d8)).heap.size = v6.heap.size := by simp
      generalize hu : (((v6.setCell ⟨q1, 0, none⟩ (.slice A8 Rb.n c8)).setCell ⟨q1, 1, none⟩ (.int .i64 Rb.v)).setCell ⟨q1, 2, none⟩ (.slice D8 Rb.m d8)) = v7 at *
      clear hu hbj hBk ht'
      refine hK.out _ _ (HK.out _ hB7) (fun hHeld7 => ?_)
      clear hK K
      try dsimp only at hHeld7
      clear hHeld6 hB7
      try simp only [Act.put, List.getElem_toArray, List.getElem_cons_succ, List.getElem_cons_zero, List.setIfInBounds_toArray, List.set_cons_zero, List.set_cons_succ]
      refine wpAnyH_take (i := 15) (oi := _) (v := ?_) rfl (by kernel_rfl) (by kernel_rfl) (by kernel_rfl) (fun _ _ _ h => h) (Or.inl ⟨by rfl, ?_⟩) (by assumption) ?_
      rotate_left 1
      · intro w hSw
        try dsimp only at hSw
        go_simp
        try with_reducible rfl
      try simp only [Act.put, List.getElem_toArray, List.getElem_cons_succ, List.getElem_cons_zero, List.setIfInBounds_toArray, List.set_cons_zero, List.set_cons_succ]
      refine wpAnyH_done (by kernel_rfl) ?_ _
      go_simp
      go_wp2_with fail
      go_meet
      exact ⟨_, _, _, _, _, _, _, _, _, _, _, _, _, _, _, _, _, rfl, rfl, rfl, vl ⟨HN0.out, HRa.out⟩, vl ⟨HN1.out, HRb.out⟩, vl hHeld7.2.2.2.2.2.2, vl (by omega)⟩
  case rest =>
  obtain ⟨b3, e3, A3, c3, D3, d3, g3, h3, A3', c3', D3', d3', g3', h3', lo3, mi3, hi3, rfl, rfl, rfl, HW_x, HV_x, hbc, hx⟩ := hcut
  obtain ⟨i3_0, i3_1, i3_2, i3_3, i3_4, i3_5, i3_6, i3_7, i3_8, i3_9⟩ := hx.out
  generalize wc = u3 at *
  have hb := hbc.out
  have HL0_3 := vl (HL0_2.out.below hb)
  have HL1_3 := vl (HL1_2.out.below hb)
  have HB3 := vl (HB2.out.trans (hb.mono HB2.out.size))
  have z3 := hb.size
  clear HL0_2 HL1_2
  have HW_3 := HW_x
  have HV_3 := HV_x
  clear hb hbc hx HW_x HV_x
  obtain ⟨l0_0, l0_1, l0_2⟩ := HL0_3.out.at
  go_wp2_with fail
  try rw [hu3]
  try clear hu3
  refine (toReach r B0 D0 b0 d0 _ hn0 hm0 (HSP0.out.below HB3.out) (HSI0.out.below HB3.out)).mono ?_
  rintro en u4 ⟨⟨B4, b4, D4, d4, g4, h4, rfl, _, ho⟩, hb1⟩
  clear l0_0 l0_1 l0_2
  have hba := (Below.refl u4.heap.size u4).alloc (Nat.le_refl _) (.cells #[.slice B4 r.n b4, .int .i64 r.v, .slice D4 r.m d4] 29)
  have hb := hb1.trans (hba.mono hb1.size)
  have HL0_5 := vl (HL0_3.out.below hb)
  have HL1_5 := vl (HL1_3.out.below hb)
  have HW_5 := vl (HW_3.out.below hb)
  have HV_5 := vl (HV_3.out.below hb)
  have HB5 := vl (HB3.out.trans (hb.mono HB3.out.size))
  have z5 := hb.size
  clear HL0_3 HL1_3 HW_3 HV_3
  have HP_5 : Veil (OneR (u4.alloc (.cells #[.slice B4 r.n b4, .int .i64 r.v, .slice D4 r.m d4] 29)) u4.heap.size r B4 D4 b4 d4 u3.heap.size u4.heap.size g4 h4) := vl ⟨Box.new u4 _ _ _ _, ho.below hba⟩
  have y5 := hb1.size
  have y5' : (u4.alloc (.cells #[.slice B4 r.n b4, .int .i64 r.v, .slice D4 r.m d4] 29)).heap.size = u4.heap.size + 1 := by simp
  clear hb hb1 hba ho
  generalize hu5 : u4.alloc (.cells #[.slice B4 r.n b4, .int .i64 r.v, .slice D4 r.m d4] 29) = u5 at *
  obtain ⟨l1_0, l1_1, l1_2⟩ := HL1_5.out.at
  go_wp2_with fail
  try rw [hu5]
  try clear hu5
  refine (toReach t B1 D1 b1 d1 _ hn1 hm1 (HSP1.out.below HB5.out) (HSI1.out.below HB5.out)).mono ?_
  rintro en u6 ⟨⟨B6, b6, D6, d6, g6, h6, rfl, _, ho⟩, hb1⟩
  clear l1_0 l1_1 l1_2
  have hba := (Below.refl u6.heap.size u6).alloc (Nat.le_refl _) (.cells #[.slice B6 t.n b6, .int .i64 t.v, .slice D6 t.m d6] 29)
  have hb := hb1.trans (hba.mono hb1.size)
  have HL0_7 := vl (HL0_5.out.below hb)
  have HL1_7 := vl (HL1_5.out.below hb)
  have HW_7 := vl (HW_5.out.below hb)
  have HV_7 := vl (HV_5.out.below hb)
  have HP_7 := vl (HP_5.out.below hb)
  have HB7 := vl (HB5.out.trans (hb.mono HB5.out.size))
  have z7 := hb.size
  clear HL0_5 HL1_5 HW_5 HV_5 HP_5
  have HQ_7 : Veil (OneR (u6.alloc (.cells #[.slice B6 t.n b6, .int .i64 t.v, .slice D6 t.m d6] 29)) u6.heap.size t B6 D6 b6 d6 u5.heap.size u6.heap.size g6 h6) := vl ⟨Box.new u6 _ _ _ _, ho.below hba⟩
  have y7 := hb1.size
  have y7' : (u6.alloc (.cells #[.slice B6 t.n b6, .int .i64 t.v, .slice D6 t.m d6] 29)).heap.size = u6.heap.size + 1 := by simp
  clear hb hb1 hba ho
  generalize hu7 : u6.alloc (.cells #[.slice B6 t.n b6, .int .i64 t.v, .slice D6 t.m d6] 29) = u7 at *
  obtain ⟨p0, p1, p2⟩ := HP_7.out.x.at
  obtain ⟨q0, q1, q2⟩ := HQ_7.out.x.at
  go_wp2_with fail
  try rw [hu7]
  try clear hu7
  refine (HIm.out B4 b4 D4 d4 B6 b6 D6 d6 _ HP_7.out.o.pts HP_7.out.o.ints HQ_7.out.o.pts HQ_7.out.o.ints).mono ?_
  rintro en u8 ⟨⟨A7, c7, D7, d7, g7, h7, A8, c8, D8, d8, g8, h8, M, rfl, _, _, ho7, ho8, hM1, hM2⟩, hb1⟩
  clear p0 p1 p2 q0 q1 q2
  have hba := (Below.refl u8.heap.size u8).alloc (Nat.le_refl _) (.cells #[.slice A7 Ra.n c7, .int .i64 Ra.v, .slice D7 Ra.m d7] 29)
  have hbb := (Below.refl (u8.alloc (.cells #[.slice A7 Ra.n c7, .int .i64 Ra.v, .slice D7 Ra.m d7] 29)).heap.size (u8.alloc (.cells #[.slice A7 Ra.n c7, .int .i64 Ra.v, .slice D7 Ra.m d7] 29))).alloc (Nat.le_refl _) (.cells #[.slice A8 Rb.n c8, .int .i64 Rb.v, .slice D8 Rb.m d8] 29)
  have hbx := hba.trans (hbb.mono hba.size)
  have hb := hb1.trans (hbx.mono hb1.size)
  have HWo := vl (HW_7.out.x.below hb1)
  have lWo := HWo.out.lt
  have HVo := vl (HV_7.out.x.below hb1)
  have lVo := HVo.out.lt
  have lVo' : b3 < u8.heap.size + 1 ∧ e3 < u8.heap.size + 1 := by omega
  have HL0_9 := vl (HL0_7.out.below hb)
  have HL1_9 := vl (HL1_7.out.below hb)
  have HW_9 := vl (HW_7.out.below hb)
  have HV_9 := vl (HV_7.out.below hb)
  have HP_9 := vl (HP_7.out.below hb)
  have HQ_9 := vl (HQ_7.out.below hb)
  have HB9 := vl (HB7.out.trans (hb.mono HB7.out.size))
  have z9 := hb.size
  clear HL0_7 HL1_7 HW_7 HV_7 HP_7 HQ_7
  have HG_9 : Veil (OneR ((u8.alloc (.cells #[.slice A7 Ra.n c7, .int .i64 Ra.v, .slice D7 Ra.m d7] 29)).alloc (.cells #[.slice A8 Rb.n c8, .int .i64 Rb.v, .slice D8 Rb.m d8] 29)) u8.heap.size Ra A7 D7 c7 d7 u7.heap.size M g7 h7) := vl ⟨(Box.new u8 _ _ _ _).alloc _, ho7.below hbx⟩
  have HH_9 : Veil (OneR ((u8.alloc (.cells #[.slice A7 Ra.n c7, .int .i64 Ra.v, .slice D7 Ra.m d7] 29)).alloc (.cells #[.slice A8 Rb.n c8, .int .i64 Rb.v, .slice D8 Rb.m d8] 29)) (u8.heap.size + 1) Rb A8 D8 c8 d8 M u8.heap.size g8 h8) := vl ⟨by have h := Box.new (u8.alloc (.cells #[.slice A7 Ra.n c7, .int .i64 Ra.v, .slice D7 Ra.m d7] 29)) (.slice A8 Rb.n c8) (.int .i64 Rb.v) (.slice D8 Rb.m d8) 29; simpa using h, ho8.below hbx⟩
  have y9 := hb1.size
  have y9' : ((u8.alloc (.cells #[.slice A7 Ra.n c7, .int .i64 Ra.v, .slice D7 Ra.m d7] 29)).alloc (.cells #[.slice A8 Rb.n c8, .int .i64 Rb.v, .slice D8 Rb.m d8] 29)).heap.size = u8.heap.size + 2 := by simp
  clear hb hb1 hba hbb hbx ho7 ho8
  generalize hu9 : (u8.alloc (.cells #[.slice A7 Ra.n c7, .int .i64 Ra.v, .slice D7 Ra.m d7] 29)).alloc (.cells #[.slice A8 Rb.n c8, .int .i64 Rb.v, .slice D8 Rb.m d8] 29) = u9 at *
  obtain ⟨o0, o1, o2⟩ := HWo.out.at
  obtain ⟨a0, a1, a2⟩ := HG_9.out.x.at
  obtain ⟨e0, e1, e2⟩ := HW_9.out.x.at
  go_wp2_with fail
  try rw [hu9]
  try clear hu9
  refine (eqReach Ra _ _ _ _ _ _ _ _ _ an0 am0 HG_9.out.o HW_9.out.o).mono ?_
  rintro en u10 ⟨rfl, hb⟩
  clear a0 a1 a2 e0 e1 e2
  have HL0_10 := vl (HL0_9.out.below hb)
  have HL1_10 := vl (HL1_9.out.below hb)
  have HW_10 := vl (HW_9.out.below hb)
  have HV_10 := vl (HV_9.out.below hb)
  have HP_10 := vl (HP_9.out.below hb)
  have HQ_10 := vl (HQ_9.out.below hb)
  have HG_10 := vl (HG_9.out.below hb)
  have HH_10 := vl (HH_9.out.below hb)
  have HB10 := vl (HB9.out.trans (hb.mono HB9.out.size))
  have z10 := hb.size
  clear HL0_9 HL1_9 HW_9 HV_9 HP_9 HQ_9 HG_9 HH_9
  clear hb
  obtain ⟨a0, a1, a2⟩ := HH_10.out.x.at
  obtain ⟨e0, e1, e2⟩ := HV_10.out.x.at
  go_wp2_with fail
  try rw [hu10]
  try clear hu10
  refine (eqReach Rb _ _ _ _ _ _ _ _ _ bn0 bm0 HH_10.out.o HV_10.out.o).mono ?_
  rintro en u11 ⟨rfl, hb⟩
  clear a0 a1 a2 e0 e1 e2
  have HL0_11 := vl (HL0_10.out.below hb)
  have HL1_11 := vl (HL1_10.out.below hb)
  have HW_11 := vl (HW_10.out.below hb)
  have HV_11 := vl (HV_10.out.below hb)
  have HP_11 := vl (HP_10.out.below hb)
  have HQ_11 := vl (HQ_10.out.below hb)
  have HG_11 := vl (HG_10.out.below hb)
  have HH_11 := vl (HH_10.out.below hb)
  have HB11 := vl (HB10.out.trans (hb.mono HB10.out.size))
  have z11 := hb.size
  clear HL0_10 HL1_10 HW_10 HV_10 HP_10 HQ_10 HG_10 HH_10
  clear hb
  obtain ⟨p0, p1, p2⟩ := HP_11.out.x.at
  obtain ⟨l0_0, l0_1, l0_2⟩ := HL0_11.out.at
  go_wp2
  go_region_held3 (fun w' => w'.cell? ⟨u4.heap.size, 0, none⟩ = some (.slice B4 r.n b4) ∧ w'.cell? ⟨u4.heap.size, 1, none⟩ = some (.int .i64 r.v) ∧ w'.cell? ⟨u4.heap.size, 2, none⟩ = some (.slice D4 r.m d4) ∧ w'.cell? ⟨w.heap.size, 0, none⟩ = some (.slice B0 r.n b0) ∧ w'.cell? ⟨w.heap.size, 1, none⟩ = some (.int .i64 r.v) ∧ w'.cell? ⟨w.heap.size, 2, none⟩ = some (.slice D0 r.m d0) ∧ Below u11.heap.size u11 w')
    (first | exact ⟨p0, p1, p2, l0_0, l0_1, l0_2, Below.refl _ _⟩ | exact ⟨p0, p1, p2, l0_0, l0_1, l0_2, (Below.refl _ _).drew⟩ | assumption)
    (first
      | (go_at_call 6; obtain ⟨m0, m1, m2, m3, m4, m5, hb7⟩ : _ ∧ _ ∧ _ ∧ _ ∧ _ ∧ _ ∧ Below u11.heap.size u11 _ := by assumption
         refine (toReach r B0 D0 b0 d0 _ hn0 hm0 (HSP0.out.below (HB11.out.trans (hb7.mono HB11.out.size))) (HSI0.out.below (HB11.out.trans (hb7.mono HB11.out.size)))).mono ?_
         rintro en w' ⟨⟨B9, b9, D9, d9, g9, h9, rfl, _, ho9⟩, hb'⟩
         have HOE := vl ho9
         have S1 := And.intro ((hb'.cell (cell_lt' m0)).trans m0) (And.intro ((hb'.cell (cell_lt' m1)).trans m1) (And.intro ((hb'.cell (cell_lt' m2)).trans m2) (And.intro ((hb'.cell (cell_lt' m3)).trans m3) (And.intro ((hb'.cell (cell_lt' m4)).trans m4) (And.intro ((hb'.cell (cell_lt' m5)).trans m5) (hb7.trans (hb'.mono hb7.size)))))))
         clear ho9 hb')
      | (go_at_call 8; obtain ⟨m0, m1, m2, m3, m4, m5, hb7⟩ : _ ∧ _ ∧ _ ∧ _ ∧ _ ∧ _ ∧ Below u11.heap.size u11 _ := by assumption
         refine (eqReach r _ _ _ _ _ _ _ _ _ hn0 hm0 (HP_11.out.o.below hb7) HOE.out).mono ?_
         rintro en w' ⟨rfl, hb'⟩
         have S2 := And.intro ((hb'.cell (cell_lt' m0)).trans m0) (And.intro ((hb'.cell (cell_lt' m1)).trans m1) (And.intro ((hb'.cell (cell_lt' m2)).trans m2) (And.intro ((hb'.cell (cell_lt' m3)).trans m3) (And.intro ((hb'.cell (cell_lt' m4)).trans m4) (And.intro ((hb'.cell (cell_lt' m5)).trans m5) (hb7.trans (hb'.mono hb7.size)))))))
         clear hb'))
  obtain ⟨m0, m1, m2, m3, m4, m5, hb9⟩ : _ ∧ _ ∧ _ ∧ _ ∧ _ ∧ _ ∧ Below u11.heap.size u11 _ := by assumption
  obtain ⟨u12, hw9⟩ : ∃ u, u = w' := ⟨_, rfl⟩
  rw [← hw9] at m0 m1 m2 m3 m4 m5 hb9 ⊢
  clear hw9 S1 S2 HOE m0 m1 m2 m3 m4 m5 p0 p1 p2 l0_0 l0_1 l0_2
  have HL0_12 := vl (HL0_11.out.below hb9)
  have HL1_12 := vl (HL1_11.out.below hb9)
  have HW_12 := vl (HW_11.out.below hb9)
  have HV_12 := vl (HV_11.out.below hb9)
  have HP_12 := vl (HP_11.out.below hb9)
  have HQ_12 := vl (HQ_11.out.below hb9)
  have HG_12 := vl (HG_11.out.below hb9)
  have HH_12 := vl (HH_11.out.below hb9)
  have HB12 := vl (HB11.out.trans (hb9.mono HB11.out.size))
  have z12 := hb9.size
  clear HL0_11 HL1_11 HW_11 HV_11 HP_11 HQ_11 HG_11 HH_11
  clear hb9
  obtain ⟨p0, p1, p2⟩ := HQ_12.out.x.at
  obtain ⟨l1_0, l1_1, l1_2⟩ := HL1_12.out.at
  go_wp2
  go_region_held3 (fun w' => w'.cell? ⟨u6.heap.size, 0, none⟩ = some (.slice B6 t.n b6) ∧ w'.cell? ⟨u6.heap.size, 1, none⟩ = some (.int .i64 t.v) ∧ w'.cell? ⟨u6.heap.size, 2, none⟩ = some (.slice D6 t.m d6) ∧ w'.cell? ⟨g1, 0, none⟩ = some (.slice B1 t.n b1) ∧ w'.cell? ⟨g1, 1, none⟩ = some (.int .i64 t.v) ∧ w'.cell? ⟨g1, 2, none⟩ = some (.slice D1 t.m d1) ∧ Below u12.heap.size u12 w')
    (first | exact ⟨p0, p1, p2, l1_0, l1_1, l1_2, Below.refl _ _⟩ | exact ⟨p0, p1, p2, l1_0, l1_1, l1_2, (Below.refl _ _).drew⟩ | assumption)
    (first
      | (go_at_call 6; obtain ⟨m0, m1, m2, m3, m4, m5, hb7⟩ : _ ∧ _ ∧ _ ∧ _ ∧ _ ∧ _ ∧ Below u12.heap.size u12 _ := by assumption
         refine (toReach t B1 D1 b1 d1 _ hn1 hm1 (HSP1.out.below (HB12.out.trans (hb7.mono HB12.out.size))) (HSI1.out.below (HB12.out.trans (hb7.mono HB12.out.size)))).mono ?_
         rintro en w' ⟨⟨B9, b9, D9, d9, g9, h9, rfl, _, ho9⟩, hb'⟩
         have HOE := vl ho9
         have S1 := And.intro ((hb'.cell (cell_lt' m0)).trans m0) (And.intro ((hb'.cell (cell_lt' m1)).trans m1) (And.intro ((hb'.cell (cell_lt' m2)).trans m2) (And.intro ((hb'.cell (cell_lt' m3)).trans m3) (And.intro ((hb'.cell (cell_lt' m4)).trans m4) (And.intro ((hb'.cell (cell_lt' m5)).trans m5) (hb7.trans (hb'.mono hb7.size)))))))
         clear ho9 hb')
      | (go_at_call 8; obtain ⟨m0, m1, m2, m3, m4, m5, hb7⟩ : _ ∧ _ ∧ _ ∧ _ ∧ _ ∧ _ ∧ Below u12.heap.size u12 _ := by assumption
         refine (eqReach t _ _ _ _ _ _ _ _ _ hn1 hm1 (HQ_12.out.o.below hb7) HOE.out).mono ?_
         rintro en w' ⟨rfl, hb'⟩
         have S2 := And.intro ((hb'.cell (cell_lt' m0)).trans m0) (And.intro ((hb'.cell (cell_lt' m1)).trans m1) (And.intro ((hb'.cell (cell_lt' m2)).trans m2) (And.intro ((hb'.cell (cell_lt' m3)).trans m3) (And.intro ((hb'.cell (cell_lt' m4)).trans m4) (And.intro ((hb'.cell (cell_lt' m5)).trans m5) (hb7.trans (hb'.mono hb7.size)))))))
         clear hb'))
  obtain ⟨m0, m1, m2, m3, m4, m5, hb9⟩ : _ ∧ _ ∧ _ ∧ _ ∧ _ ∧ _ ∧ Below u12.heap.size u12 _ := by assumption
  obtain ⟨u13, hw9⟩ : ∃ u, u = w' := ⟨_, rfl⟩
  rw [← hw9] at m0 m1 m2 m3 m4 m5 hb9 ⊢
  clear hw9 S1 S2 HOE m0 m1 m2 m3 m4 m5 p0 p1 p2 l1_0 l1_1 l1_2
  have HL0_13 := vl (HL0_12.out.below hb9)
  have HL1_13 := vl (HL1_12.out.below hb9)
  have HW_13 := vl (HW_12.out.below hb9)
  have HV_13 := vl (HV_12.out.below hb9)
  have HP_13 := vl (HP_12.out.below hb9)
  have HQ_13 := vl (HQ_12.out.below hb9)
  have HG_13 := vl (HG_12.out.below hb9)
  have HH_13 := vl (HH_12.out.below hb9)
  have HB13 := vl (HB12.out.trans (hb9.mono HB12.out.size))
  have z13 := hb9.size
  clear HL0_12 HL1_12 HW_12 HV_12 HP_12 HQ_12 HG_12 HH_12
  clear hb9
  obtain ⟨K1, hK1⟩ : ∃ K1, K1 = 1 + 2 * r.n + r.m := ⟨_, rfl⟩
  obtain ⟨K2, hK2⟩ : ∃ K2, K2 = K1 + 2 * t.n + t.m := ⟨_, rfl⟩
  obtain ⟨K3, hK3⟩ : ∃ K3, K3 = 1 + 2 * Ra.n + Ra.m := ⟨_, rfl⟩
  obtain ⟨K4, hK4⟩ : ∃ K4, K4 = K3 + 2 * Rb.n + Rb.m := ⟨_, rfl⟩
  have hz1 : (0 : Int) ≤ (K1 : Int) := by omega
  have hz2 : (0 : Int) ≤ (K2 : Int) := by omega
  have hz3 : (0 : Int) ≤ (K3 : Int) := by omega
  have hz4 : (0 : Int) ≤ (K4 : Int) := by omega
  have hk1 : K1 ≤ 50000000 := by omega
  have hk3 : K3 ≤ 50000000 := by omega
  have HK1 := vl hK1
  have HK2 := vl hK2
  have HK3 := vl hK3
  have HK4 := vl hK4
  clear hK1 hK2 hK3 hK4
  obtain ⟨a0, a1, a2⟩ := HP_13.out.x.at
  go_wp2_with fail
  refine (markReach r B4 D4 b4 d4 1 _ hn0 hm0 (by omega) HP_13.out.o (by omega)).mono ?_
  rintro en u14 ⟨he, ho, ht⟩
  rw [← HK1.out] at he
  subst he
  clear a0 a1 a2
  have hs := ht.size
  have HL0_14 := vl (HL0_13.out.touch ht (by omega))
  have HL1_14 := vl (HL1_13.out.touch ht (by omega))
  have HW_14 := vl (HW_13.out.touch ht (by omega) (by omega))
  have HV_14 := vl (HV_13.out.touch ht (by omega) (by omega))
  have HQ_14 := vl (HQ_13.out.touch ht (by omega) (by omega))
  have HG_14 := vl (HG_13.out.touch ht (by omega) (by omega))
  have HH_14 := vl (HH_13.out.touch ht (by omega) (by omega))
  have HB14 := vl (ht.below HB13.out (by omega))
  have z14 := hs
  clear ht ho hs HL0_13 HL1_13 HW_13 HV_13 HP_13 HQ_13 HG_13 HH_13
  obtain ⟨a0, a1, a2⟩ := HQ_14.out.x.at
  go_wp2_with fail
  refine (markReach t B6 D6 b6 d6 K1 _ hn1 hm1 hk1 HQ_14.out.o (by omega)).mono ?_
  rintro en u15 ⟨he, ho, ht⟩
  rw [← HK2.out] at he
  subst he
  clear a0 a1 a2
  have hs := ht.size
  have HL0_15 := vl (HL0_14.out.touch ht (by omega))
  have HL1_15 := vl (HL1_14.out.touch ht (by omega))
  have HW_15 := vl (HW_14.out.touch ht (by omega) (by omega))
  have HV_15 := vl (HV_14.out.touch ht (by omega) (by omega))
  have HG_15 := vl (HG_14.out.touch ht (by omega) (by omega))
  have HH_15 := vl (HH_14.out.touch ht (by omega) (by omega))
  have HB15 := vl (ht.below HB14.out (by omega))
  have z15 := hs
  clear ht ho hs HL0_14 HL1_14 HW_14 HV_14 HQ_14 HG_14 HH_14
  obtain ⟨a0, a1, a2⟩ := HG_15.out.x.at
  obtain ⟨e0, e1, e2⟩ := HW_15.out.x.at
  go_wp2_with fail
  try rw [hu15]
  try clear hu15
  refine (eqReach Ra _ _ _ _ _ _ _ _ _ an0 am0 HG_15.out.o HW_15.out.o).mono ?_
  rintro en u16 ⟨rfl, hb⟩
  clear a0 a1 a2 e0 e1 e2
  have HL0_16 := vl (HL0_15.out.below hb)
  have HL1_16 := vl (HL1_15.out.below hb)
  have HW_16 := vl (HW_15.out.below hb)
  have HV_16 := vl (HV_15.out.below hb)
  have HG_16 := vl (HG_15.out.below hb)
  have HH_16 := vl (HH_15.out.below hb)
  have HB16 := vl (HB15.out.trans (hb.mono HB15.out.size))
  have z16 := hb.size
  clear HL0_15 HL1_15 HW_15 HV_15 HG_15 HH_15
  clear hb
  obtain ⟨a0, a1, a2⟩ := HH_16.out.x.at
  obtain ⟨e0, e1, e2⟩ := HV_16.out.x.at
  go_wp2_with fail
  try rw [hu16]
  try clear hu16
  refine (eqReach Rb _ _ _ _ _ _ _ _ _ bn0 bm0 HH_16.out.o HV_16.out.o).mono ?_
  rintro en u17 ⟨rfl, hb⟩
  clear a0 a1 a2 e0 e1 e2
  have HL0_17 := vl (HL0_16.out.below hb)
  have HL1_17 := vl (HL1_16.out.below hb)
  have HW_17 := vl (HW_16.out.below hb)
  have HV_17 := vl (HV_16.out.below hb)
  have HG_17 := vl (HG_16.out.below hb)
  have HH_17 := vl (HH_16.out.below hb)
  have HB17 := vl (HB16.out.trans (hb.mono HB16.out.size))
  have z17 := hb.size
  clear HL0_16 HL1_16 HW_16 HV_16 HG_16 HH_16
  clear hb
  obtain ⟨a0, a1, a2⟩ := HG_17.out.x.at
  go_wp2_with fail
  refine (markReach Ra A7 D7 c7 d7 1 _ an0 am0 (by omega) HG_17.out.o (by omega)).mono ?_
  rintro en u18 ⟨he, ho, ht⟩
  rw [← HK3.out] at he
  subst he
  clear a0 a1 a2
  have hs := ht.size
  have HL0_18 := vl (HL0_17.out.touch ht (by omega))
  have HL1_18 := vl (HL1_17.out.touch ht (by omega))
  have HW_18 := vl (HW_17.out.touch ht (by omega) (by omega))
  have HV_18 := vl (HV_17.out.touch ht (by omega) (by omega))
  have HG_18 : Veil (OneK u18 _ _ _ _ _ _ _ _ _ _ _) := vl ⟨HG_17.out.x.touch ht (by omega), ho⟩
  have HH_18 := vl (HH_17.out.touch ht (by omega) (by omega))
  have HB18 := vl (ht.below HB17.out (by omega))
  have z18 := hs
  clear ht ho hs HL0_17 HL1_17 HW_17 HV_17 HG_17 HH_17
  obtain ⟨a0, a1, a2⟩ := HH_18.out.x.at
  go_wp2_with fail
  refine (markReach Rb A8 D8 c8 d8 K3 _ bn0 bm0 hk3 HH_18.out.o (by omega)).mono ?_
  rintro en u19 ⟨he, ho, ht⟩
  rw [← HK4.out] at he
  subst he
  clear a0 a1 a2
  have hs := ht.size
  have HL0_19 := vl (HL0_18.out.touch ht (by omega))
  have HL1_19 := vl (HL1_18.out.touch ht (by omega))
  have HW_19 := vl (HW_18.out.touch ht (by omega) (by omega))
  have HV_19 := vl (HV_18.out.touch ht (by omega) (by omega))
  have HG_19 := vl (HG_18.out.touch ht (by omega) (by omega))
  have HH_19 : Veil (OneK u19 _ _ _ _ _ _ _ _ _ _ _) := vl ⟨HH_18.out.x.touch ht (by omega), ho⟩
  have HB19 := vl (ht.below HB18.out (by omega))
  have z19 := hs
  clear ht ho hs HL0_18 HL1_18 HW_18 HV_18 HG_18 HH_18
  obtain ⟨a0, a1, a2⟩ := HG_19.out.x.at
  go_wp2_with fail
  refine (heldReach Ra A7 D7 c7 d7 1 _ _ an0 am0 (by omega) HG_19.out.o).mono ?_
  rintro en u20 ⟨he, hb⟩
  rw [← HK3.out] at he
  subst he
  clear a0 a1 a2
  have HL0_20 := vl (HL0_19.out.below hb)
  have HL1_20 := vl (HL1_19.out.below hb)
  have HW_20 := vl (HW_19.out.below hb)
  have HV_20 := vl (HV_19.out.below hb)
  have HG_20 := vl (HG_19.out.below hb)
  have HH_20 := vl (HH_19.out.below hb)
  have HB20 := vl (HB19.out.trans (hb.mono HB19.out.size))
  have z20 := hb.size
  clear HL0_19 HL1_19 HW_19 HV_19 HG_19 HH_19
  clear hb
  obtain ⟨a0, a1, a2⟩ := HH_20.out.x.at
  go_wp2_with fail
  refine (heldReach Rb A8 D8 c8 d8 K3 _ _ bn0 bm0 hk3 HH_20.out.o).mono ?_
  rintro en u21 ⟨he, hb⟩
  rw [← HK4.out] at he
  subst he
  clear a0 a1 a2
  have HL0_21 := vl (HL0_20.out.below hb)
  have HL1_21 := vl (HL1_20.out.below hb)
  have HW_21 := vl (HW_20.out.below hb)
  have HV_21 := vl (HV_20.out.below hb)
  have HG_21 := vl (HG_20.out.below hb)
  have HH_21 := vl (HH_20.out.below hb)
  have HB21 := vl (HB20.out.trans (hb.mono HB20.out.size))
  have z21 := hb.size
  clear HL0_20 HL1_20 HW_20 HV_20 HG_20 HH_20
  clear hb
  go_upto_region 35 with fail
  obtain ⟨l0_0, l0_1, l0_2⟩ := HL0_21.out.at
  obtain ⟨l1_0, l1_1, l1_2⟩ := HL1_21.out.at
  go_cut [21, 22, 23] (fun s1 s2 s3 wx => ∃ bx by_ A5 c5 D5 d5 g5 h5 A6 c6 D6 d6 g6 h6 lo mi hi, s1 = .pointer (some ⟨bx, 0, none⟩) ∧ s2 = .pointer (some ⟨by_, 0, none⟩) ∧ s3 = .int .i64 nn ∧ Veil (OneR wx bx Ra A5 D5 c5 d5 lo mi g5 h5) ∧ Veil (OneR wx by_ Rb A6 D6 c6 d6 mi hi g6 h6) ∧ Veil (Below u21.heap.size u21 wx) ∧ Veil (u21.heap.size ≤ bx ∧ bx < wx.heap.size ∧ u21.heap.size ≤ by_ ∧ by_ < wx.heap.size ∧ u21.heap.size ≤ lo ∧ lo ≤ mi ∧ mi ≤ hi ∧ hi ≤ wx.heap.size ∧ (bx < lo ∨ hi ≤ bx) ∧ (by_ < lo ∨ hi ≤ by_)))
  case first => as_aux_lemma =>
    have HK := vl (fun (w' : World) (hb' : Below u21.heap.size u21 w') => (show w'.cell? ⟨w.heap.size, 0, none⟩ = some (.slice B0 r.n b0) ∧ w'.cell? ⟨w.heap.size, 1, none⟩ = some (.int .i64 r.v) ∧ w'.cell? ⟨w.heap.size, 2, none⟩ = some (.slice D0 r.m d0) ∧ w'.cell? ⟨g1, 0, none⟩ = some (.slice B1 t.n b1) ∧ w'.cell? ⟨g1, 1, none⟩ = some (.int .i64 t.v) ∧ w'.cell? ⟨g1, 2, none⟩ = some (.slice D1 t.m d1) ∧ Below u21.heap.size u21 w' from ⟨(hb'.cell (cell_lt' l0_0)).trans l0_0, (hb'.cell (cell_lt' l0_1)).trans l0_1, (hb'.cell (cell_lt' l0_2)).trans l0_2, (hb'.cell (cell_lt' l1_0)).trans l1_0, (hb'.cell (cell_lt' l1_1)).trans l1_1, (hb'.cell (cell_lt' l1_2)).trans l1_2, hb'⟩))
    refine wp_region_held_drew (S := fun w' => w'.cell? ⟨w.heap.size, 0, none⟩ = some (.slice B0 r.n b0) ∧ w'.cell? ⟨w.heap.size, 1, none⟩ = some (.int .i64 r.v) ∧ w'.cell? ⟨w.heap.size, 2, none⟩ = some (.slice D0 r.m d0) ∧ w'.cell? ⟨g1, 0, none⟩ = some (.slice B1 t.n b1) ∧ w'.cell? ⟨g1, 1, none⟩ = some (.int .i64 t.v) ∧ w'.cell? ⟨g1, 2, none⟩ = some (.slice D1 t.m d1) ∧ Below u21.heap.size u21 w') (by kernel_rfl) (HK.out _ (Below.refl _ _).drew) (fun hHeld0 => ?_)
    clear l0_0 l0_1 l0_2 l1_0 l1_1 l1_2
    try dsimp only at hHeld0
    have s0 := vl (show u21.heap.size ≤ u21.drew.heap.size from hHeld0.2.2.2.2.2.2.size)
    generalize u21.drew = v0 at *
    refine wpAnyH_take (i := 0) (oi := _) (v := ?_) rfl (by kernel_rfl) (by kernel_rfl) (by kernel_rfl) (fun _ _ _ h => h) (Or.inl ⟨by rfl, ?_⟩) (by assumption) ?_
    rotate_left 1
    · intro w hSw
      try dsimp only at hSw
      go_simp
      try with_reducible rfl
    try simp only [Act.put, List.getElem_toArray, List.getElem_cons_succ, List.getElem_cons_zero, List.setIfInBounds_toArray, List.set_cons_zero, List.set_cons_succ]
    refine wpAnyH_take (i := 2) (oi := _) (v := ?_) rfl (by kernel_rfl) (by kernel_rfl) (by kernel_rfl) (fun _ _ _ h => h) (Or.inl ⟨by rfl, ?_⟩) (by assumption) ?_
    rotate_left 1
    · intro w hSw
      try dsimp only at hSw
      go_simp
      try with_reducible rfl
    try simp only [Act.put, List.getElem_toArray, List.getElem_cons_succ, List.getElem_cons_zero, List.setIfInBounds_toArray, List.set_cons_zero, List.set_cons_succ]
    refine wpAnyH_take (i := 4) (oi := _) (v := ?_) rfl (by kernel_rfl) (by kernel_rfl) (by kernel_rfl) (fun _ _ _ h => h) (Or.inl ⟨by rfl, ?_⟩) (by assumption) ?_
    rotate_left 1
    · intro w hSw
      try dsimp only at hSw
      go_simp
      try with_reducible rfl
    try simp only [Act.put, List.getElem_toArray, List.getElem_cons_succ, List.getElem_cons_zero, List.setIfInBounds_toArray, List.set_cons_zero, List.set_cons_succ]
    refine wpAnyH_take (i := 5) (oi := _) (v := ?_) rfl (by kernel_rfl) (by kernel_rfl) (by kernel_rfl) (fun _ _ _ h => h) (Or.inl ⟨by rfl, ?_⟩) (by assumption) ?_
    rotate_left 1
    · intro w hSw
      try dsimp only at hSw
      go_simp
      try with_reducible rfl
    try simp only [Act.put, List.getElem_toArray, List.getElem_cons_succ, List.getElem_cons_zero, List.setIfInBounds_toArray, List.set_cons_zero, List.set_cons_succ]
    refine wpAnyH_ready (rs := [1, 11, 12]) (by kernel_rfl) (by simp) ?_
    refine AllReadyH.cons (o := _) rfl (fun K hK => ?_) (AllReadyH.cons (o := _) rfl (fun K hK => ?_) (AllReadyH.cons (o := _) rfl (fun K hK => ?_) AllReadyH.nil))
    have hBk := hHeld0.2.2.2.2.2.2
    go_simp
    go_at_call 6
    with_reducible refine (toReach r B0 D0 b0 d0 _ hn0 hm0 (HSP0.out.below (HB21.out.trans (hBk.mono HB21.out.size))) (HSI0.out.below (HB21.out.trans (hBk.mono HB21.out.size)))).mono ?_
    rintro en v1 ⟨⟨A5, c5, D5, d5, g5, h5, rfl, _, ho5⟩, hb'⟩
    have Hp := vl ho5.pts
    have Hd := vl ho5.ints
    have hB1 := hBk.trans (hb'.mono hBk.size)
    have z1 := vl hb'.size
    clear hBk hb' ho5
    refine hK.out _ _ (HK.out _ hB1) (fun hHeld1 => ?_)
    clear hK K
    try dsimp only at hHeld1
    clear hHeld0 hB1
    try simp only [Act.put, List.getElem_toArray, List.getElem_cons_succ, List.getElem_cons_zero, List.setIfInBounds_toArray, List.set_cons_zero, List.set_cons_succ]
    have mkc0 := trivial
    rotate_left 1
    have hBk := hHeld0.2.2.2.2.2.2
    go_simp
    have HN0 := vl (Box.new v0 (.slice none 0 0) (.int .i64 0) (.slice none 0 0) 29)
    have hb' := (Below.refl v0.heap.size v0).alloc (Nat.le_refl _) (.cells #[.slice none 0 0, .int .i64 0, .slice none 0 0] 29)
    have hsN0 := vl (show v0.heap.size < (v0.alloc (.cells #[.slice none 0 0, .int .i64 0, .slice none 0 0] 29)).heap.size by simp)
    generalize hu : v0.alloc (.cells #[.slice none 0 0, .int .i64 0, .slice none 0 0] 29) = v1 at *
    clear hu
    have hB1 := hBk.trans (hb'.mono hBk.size)
    have z1 := vl hb'.size
    have y0 := vl hBk.size
    clear hBk hb'
    refine hK.out _ _ (HK.out _ hB1) (fun hHeld1 => ?_)
    clear hK K
    try dsimp only at hHeld1
    clear hHeld0 hB1
    try simp only [Act.put, List.getElem_toArray, List.getElem_cons_succ, List.getElem_cons_zero, List.setIfInBounds_toArray, List.set_cons_zero, List.set_cons_succ]
    generalize v0.heap.size = q0 at *
    have mka0 := trivial
    rotate_left 1
    have hBk := hHeld0.2.2.2.2.2.2
    go_simp
    have HN1 := vl (Box.new v0 (.slice none 0 0) (.int .i64 0) (.slice none 0 0) 29)
    have hb' := (Below.refl v0.heap.size v0).alloc (Nat.le_refl _) (.cells #[.slice none 0 0, .int .i64 0, .slice none 0 0] 29)
    have hsN1 := vl (show v0.heap.size < (v0.alloc (.cells #[.slice none 0 0, .int .i64 0, .slice none 0 0] 29)).heap.size by simp)
    generalize hu : v0.alloc (.cells #[.slice none 0 0, .int .i64 0, .slice none 0 0] 29) = v1 at *
    clear hu
    have hB1 := hBk.trans (hb'.mono hBk.size)
    have z1 := vl hb'.size
    have y1 := vl hBk.size
    clear hBk hb'
    refine hK.out _ _ (HK.out _ hB1) (fun hHeld1 => ?_)
    clear hK K
    try dsimp only at hHeld1
    clear hHeld0 hB1
    try simp only [Act.put, List.getElem_toArray, List.getElem_cons_succ, List.getElem_cons_zero, List.setIfInBounds_toArray, List.set_cons_zero, List.set_cons_succ]
    generalize v0.heap.size = q1 at *
    have mka1 := trivial
    rotate_left 1
    all_goals
      first
      | (have ck := (show True ∧ True from ⟨mka0, trivial⟩)
         clear ck
         refine wpAnyH_ready (rs := [1, 12]) (by kernel_rfl) (by simp) ?_
         refine AllReadyH.cons (o := _) rfl (fun K hK => ?_) (AllReadyH.cons (o := _) rfl (fun K hK => ?_) AllReadyH.nil)
         have hBk := hHeld1.2.2.2.2.2.2
         go_simp
         go_at_call 6
         with_reducible refine (toReach r B0 D0 b0 d0 _ hn0 hm0 (HSP0.out.below (HB21.out.trans (hBk.mono HB21.out.size))) (HSI0.out.below (HB21.out.trans (hBk.mono HB21.out.size)))).mono ?_
         rintro en v2 ⟨⟨A5, c5, D5, d5, g5, h5, rfl, _, ho5⟩, hb'⟩
         replace HN0 := vl (HN0.out.below hb')
         have Hp := vl ho5.pts
         have Hd := vl ho5.ints
         have hB2 := hBk.trans (hb'.mono hBk.size)
         have z2 := vl hb'.size
         clear hBk hb' ho5
         refine hK.out _ _ (HK.out _ hB2) (fun hHeld2 => ?_)
         clear hK K
         try dsimp only at hHeld2
         clear hHeld1 hB2
         try simp only [Act.put, List.getElem_toArray, List.getElem_cons_succ, List.getElem_cons_zero, List.setIfInBounds_toArray, List.set_cons_zero, List.set_cons_succ]
         have mkc0 := trivial
         rotate_left 1
         have hBk := hHeld1.2.2.2.2.2.2
         go_simp
         have HN1 := vl (Box.new v1 (.slice none 0 0) (.int .i64 0) (.slice none 0 0) 29)
         have hb' := (Below.refl v1.heap.size v1).alloc (Nat.le_refl _) (.cells #[.slice none 0 0, .int .i64 0, .slice none 0 0] 29)
         have hsN1 := vl (show v1.heap.size < (v1.alloc (.cells #[.slice none 0 0, .int .i64 0, .slice none 0 0] 29)).heap.size by simp)
         generalize hu : v1.alloc (.cells #[.slice none 0 0, .int .i64 0, .slice none 0 0] 29) = v2 at *
         clear hu
         replace HN0 := vl (HN0.out.below hb')
         have hB2 := hBk.trans (hb'.mono hBk.size)
         have z2 := vl hb'.size
         have y1 := vl hBk.size
         clear hBk hb'
         refine hK.out _ _ (HK.out _ hB2) (fun hHeld2 => ?_)
         clear hK K
         try dsimp only at hHeld2
         clear hHeld1 hB2
         try simp only [Act.put, List.getElem_toArray, List.getElem_cons_succ, List.getElem_cons_zero, List.setIfInBounds_toArray, List.set_cons_zero, List.set_cons_succ]
         generalize v1.heap.size = q1 at *
         have mka1 := trivial
         rotate_left 1)
      | (have ck := (show True ∧ True from ⟨mka1, trivial⟩)
         clear ck
         refine wpAnyH_ready (rs := [1, 11]) (by kernel_rfl) (by simp) ?_
         refine AllReadyH.cons (o := _) rfl (fun K hK => ?_) (AllReadyH.cons (o := _) rfl (fun K hK => ?_) AllReadyH.nil)
         have hBk := hHeld1.2.2.2.2.2.2
         go_simp
         go_at_call 6
         with_reducible refine (toReach r B0 D0 b0 d0 _ hn0 hm0 (HSP0.out.below (HB21.out.trans (hBk.mono HB21.out.size))) (HSI0.out.below (HB21.out.trans (hBk.mono HB21.out.size)))).mono ?_
         rintro en v2 ⟨⟨A5, c5, D5, d5, g5, h5, rfl, _, ho5⟩, hb'⟩
         replace HN1 := vl (HN1.out.below hb')
         have Hp := vl ho5.pts
         have Hd := vl ho5.ints
         have hB2 := hBk.trans (hb'.mono hBk.size)
         have z2 := vl hb'.size
         clear hBk hb' ho5
         refine hK.out _ _ (HK.out _ hB2) (fun hHeld2 => ?_)
         clear hK K
         try dsimp only at hHeld2
         clear hHeld1 hB2
         try simp only [Act.put, List.getElem_toArray, List.getElem_cons_succ, List.getElem_cons_zero, List.setIfInBounds_toArray, List.set_cons_zero, List.set_cons_succ]
         have mkc0 := trivial
         rotate_left 1
         have hBk := hHeld1.2.2.2.2.2.2
         go_simp
         have HN0 := vl (Box.new v1 (.slice none 0 0) (.int .i64 0) (.slice none 0 0) 29)
         have hb' := (Below.refl v1.heap.size v1).alloc (Nat.le_refl _) (.cells #[.slice none 0 0, .int .i64 0, .slice none 0 0] 29)
         have hsN0 := vl (show v1.heap.size < (v1.alloc (.cells #[.slice none 0 0, .int .i64 0, .slice none 0 0] 29)).heap.size by simp)
         generalize hu : v1.alloc (.cells #[.slice none 0 0, .int .i64 0, .slice none 0 0] 29) = v2 at *
         clear hu
         replace HN1 := vl (HN1.out.below hb')
         have hB2 := hBk.trans (hb'.mono hBk.size)
         have z2 := vl hb'.size
         have y0 := vl hBk.size
         clear hBk hb'
         refine hK.out _ _ (HK.out _ hB2) (fun hHeld2 => ?_)
         clear hK K
         try dsimp only at hHeld2
         clear hHeld1 hB2
         try simp only [Act.put, List.getElem_toArray, List.getElem_cons_succ, List.getElem_cons_zero, List.setIfInBounds_toArray, List.set_cons_zero, List.set_cons_succ]
         generalize v1.heap.size = q0 at *
         have mka0 := trivial
         rotate_left 1)
      | (have ck := (show True ∧ True from ⟨mkc0, trivial⟩)
         clear ck
         refine wpAnyH_ready (rs := [3, 11, 12]) (by kernel_rfl) (by simp) ?_
         refine AllReadyH.cons (o := _) rfl (fun K hK => ?_) (AllReadyH.cons (o := _) rfl (fun K hK => ?_) (AllReadyH.cons (o := _) rfl (fun K hK => ?_) AllReadyH.nil))
         have hBk := hHeld1.2.2.2.2.2.2
         go_simp
         go_at_call 6
         with_reducible refine (toReach t B1 D1 b1 d1 _ hn1 hm1 (HSP1.out.below (HB21.out.trans (hBk.mono HB21.out.size))) (HSI1.out.below (HB21.out.trans (hBk.mono HB21.out.size)))).mono ?_
         rintro en v2 ⟨⟨A6, c6, D6, d6, g6, h6, rfl, _, ho6⟩, hb'⟩
         replace Hp := vl (Hp.out.below hb')
         replace Hd := vl (Hd.out.below hb')
         have Hp' := vl ho6.pts
         have Hd' := vl ho6.ints
         have hB2 := hBk.trans (hb'.mono hBk.size)
         have z2 := vl hb'.size
         clear hBk hb' ho6
         refine hK.out _ _ (HK.out _ hB2) (fun hHeld2 => ?_)
         clear hK K
         try dsimp only at hHeld2
         clear hHeld1 hB2
         try simp only [Act.put, List.getElem_toArray, List.getElem_cons_succ, List.getElem_cons_zero, List.setIfInBounds_toArray, List.set_cons_zero, List.set_cons_succ]
         have mkc1 := trivial
         rotate_left 1
         have hBk := hHeld1.2.2.2.2.2.2
         go_simp
         have HN0 := vl (Box.new v1 (.slice none 0 0) (.int .i64 0) (.slice none 0 0) 29)
         have hb' := (Below.refl v1.heap.size v1).alloc (Nat.le_refl _) (.cells #[.slice none 0 0, .int .i64 0, .slice none 0 0] 29)
         have hsN0 := vl (show v1.heap.size < (v1.alloc (.cells #[.slice none 0 0, .int .i64 0, .slice none 0 0] 29)).heap.size by simp)
         generalize hu : v1.alloc (.cells #[.slice none 0 0, .int .i64 0, .slice none 0 0] 29) = v2 at *
         clear hu
         replace Hp := vl (Hp.out.below hb')
         replace Hd := vl (Hd.out.below hb')
         have hB2 := hBk.trans (hb'.mono hBk.size)
         have z2 := vl hb'.size
         have y0 := vl hBk.size
         clear hBk hb'
         refine hK.out _ _ (HK.out _ hB2) (fun hHeld2 => ?_)
         clear hK K
         try dsimp only at hHeld2
         clear hHeld1 hB2
         try simp only [Act.put, List.getElem_toArray, List.getElem_cons_succ, List.getElem_cons_zero, List.setIfInBounds_toArray, List.set_cons_zero, List.set_cons_succ]
         generalize v1.heap.size = q0 at *
         have mka0 := trivial
         rotate_left 1
         have hBk := hHeld1.2.2.2.2.2.2
         go_simp
         have HN1 := vl (Box.new v1 (.slice none 0 0) (.int .i64 0) (.slice none 0 0) 29)
         have hb' := (Below.refl v1.heap.size v1).alloc (Nat.le_refl _) (.cells #[.slice none 0 0, .int .i64 0, .slice none 0 0] 29)
         have hsN1 := vl (show v1.heap.size < (v1.alloc (.cells #[.slice none 0 0, .int .i64 0, .slice none 0 0] 29)).heap.size by simp)
         generalize hu : v1.alloc (.cells #[.slice none 0 0, .int .i64 0, .slice none 0 0] 29) = v2 at *
         clear hu
         replace Hp := vl (Hp.out.below hb')
         replace Hd := vl (Hd.out.below hb')
         have hB2 := hBk.trans (hb'.mono hBk.size)
         have z2 := vl hb'.size
         have y1 := vl hBk.size
         clear hBk hb'
         refine hK.out _ _ (HK.out _ hB2) (fun hHeld2 => ?_)
         clear hK K
         try dsimp only at hHeld2
         clear hHeld1 hB2
         try simp only [Act.put, List.getElem_toArray, List.getElem_cons_succ, List.getElem_cons_zero, List.setIfInBounds_toArray, List.set_cons_zero, List.set_cons_succ]
         generalize v1.heap.size = q1 at *
         have mka1 := trivial
         rotate_left 1)
    all_goals
      first
      | (have ck := (show True ∧ True ∧ True from ⟨mka0, mka1, trivial⟩)
         clear ck
         refine wpAnyH_ready (rs := [1]) (by kernel_rfl) (by simp) ?_
         refine AllReadyH.cons (o := _) rfl (fun K hK => ?_) AllReadyH.nil
         have hBk := hHeld2.2.2.2.2.2.2
         go_simp
         go_at_call 6
         with_reducible refine (toReach r B0 D0 b0 d0 _ hn0 hm0 (HSP0.out.below (HB21.out.trans (hBk.mono HB21.out.size))) (HSI0.out.below (HB21.out.trans (hBk.mono HB21.out.size)))).mono ?_
         rintro en v3 ⟨⟨A5, c5, D5, d5, g5, h5, rfl, _, ho5⟩, hb'⟩
         replace HN0 := vl (HN0.out.below hb')
         replace HN1 := vl (HN1.out.below hb')
         have Hp := vl ho5.pts
         have Hd := vl ho5.ints
         have hB3 := hBk.trans (hb'.mono hBk.size)
         have z3 := vl hb'.size
         clear hBk hb' ho5
         refine hK.out _ _ (HK.out _ hB3) (fun hHeld3 => ?_)
         clear hK K
         try dsimp only at hHeld3
         clear hHeld2 hB3
         try simp only [Act.put, List.getElem_toArray, List.getElem_cons_succ, List.getElem_cons_zero, List.setIfInBounds_toArray, List.set_cons_zero, List.set_cons_succ]
         have mkc0 := trivial)
      | (have ck := (show True ∧ True ∧ True from ⟨mkc0, mka0, trivial⟩)
         clear ck
         refine wpAnyH_ready (rs := [3, 12]) (by kernel_rfl) (by simp) ?_
         refine AllReadyH.cons (o := _) rfl (fun K hK => ?_) (AllReadyH.cons (o := _) rfl (fun K hK => ?_) AllReadyH.nil)
         have hBk := hHeld2.2.2.2.2.2.2
         go_simp
         go_at_call 6
         with_reducible refine (toReach t B1 D1 b1 d1 _ hn1 hm1 (HSP1.out.below (HB21.out.trans (hBk.mono HB21.out.size))) (HSI1.out.below (HB21.out.trans (hBk.mono HB21.out.size)))).mono ?_
         rintro en v3 ⟨⟨A6, c6, D6, d6, g6, h6, rfl, _, ho6⟩, hb'⟩
         replace Hp := vl (Hp.out.below hb')
         replace Hd := vl (Hd.out.below hb')
         replace HN0 := vl (HN0.out.below hb')
         have Hp' := vl ho6.pts
         have Hd' := vl ho6.ints
         have hB3 := hBk.trans (hb'.mono hBk.size)
         have z3 := vl hb'.size
         clear hBk hb' ho6
         refine hK.out _ _ (HK.out _ hB3) (fun hHeld3 => ?_)
         clear hK K
         try dsimp only at hHeld3
         clear hHeld2 hB3
         try simp only [Act.put, List.getElem_toArray, List.getElem_cons_succ, List.getElem_cons_zero, List.setIfInBounds_toArray, List.set_cons_zero, List.set_cons_succ]
         have mkc1 := trivial
         rotate_left 1
         have hBk := hHeld2.2.2.2.2.2.2
         go_simp
         have HN1 := vl (Box.new v2 (.slice none 0 0) (.int .i64 0) (.slice none 0 0) 29)
         have hb' := (Below.refl v2.heap.size v2).alloc (Nat.le_refl _) (.cells #[.slice none 0 0, .int .i64 0, .slice none 0 0] 29)
         have hsN1 := vl (show v2.heap.size < (v2.alloc (.cells #[.slice none 0 0, .int .i64 0, .slice none 0 0] 29)).heap.size by simp)
         generalize hu : v2.alloc (.cells #[.slice none 0 0, .int .i64 0, .slice none 0 0] 29) = v3 at *
         clear hu
         replace Hp := vl (Hp.out.below hb')
         replace Hd := vl (Hd.out.below hb')
         replace HN0 := vl (HN0.out.below hb')
         have hB3 := hBk.trans (hb'.mono hBk.size)
         have z3 := vl hb'.size
         have y1 := vl hBk.size
         clear hBk hb'
         refine hK.out _ _ (HK.out _ hB3) (fun hHeld3 => ?_)
         clear hK K
         try dsimp only at hHeld3
         clear hHeld2 hB3
         try simp only [Act.put, List.getElem_toArray, List.getElem_cons_succ, List.getElem_cons_zero, List.setIfInBounds_toArray, List.set_cons_zero, List.set_cons_succ]
         generalize v2.heap.size = q1 at *
         have mka1 := trivial
         rotate_left 1)
      | (have ck := (show True ∧ True ∧ True from ⟨mkc0, mka1, trivial⟩)
         clear ck
         refine wpAnyH_ready (rs := [3, 11]) (by kernel_rfl) (by simp) ?_
         refine AllReadyH.cons (o := _) rfl (fun K hK => ?_) (AllReadyH.cons (o := _) rfl (fun K hK => ?_) AllReadyH.nil)
         have hBk := hHeld2.2.2.2.2.2.2
         go_simp
         go_at_call 6
         with_reducible refine (toReach t B1 D1 b1 d1 _ hn1 hm1 (HSP1.out.below (HB21.out.trans (hBk.mono HB21.out.size))) (HSI1.out.below (HB21.out.trans (hBk.mono HB21.out.size)))).mono ?_
         rintro en v3 ⟨⟨A6, c6, D6, d6, g6, h6, rfl, _, ho6⟩, hb'⟩
         replace Hp := vl (Hp.out.below hb')
         replace Hd := vl (Hd.out.below hb')
         replace HN1 := vl (HN1.out.below hb')
         have Hp' := vl ho6.pts
         have Hd' := vl ho6.ints
         have hB3 := hBk.trans (hb'.mono hBk.size)
         have z3 := vl hb'.size
         clear hBk hb' ho6
         refine hK.out _ _ (HK.out _ hB3) (fun hHeld3 => ?_)
         clear hK K
         try dsimp only at hHeld3
         clear hHeld2 hB3
         try simp only [Act.put, List.getElem_toArray, List.getElem_cons_succ, List.getElem_cons_zero, List.setIfInBounds_toArray, List.set_cons_zero, List.set_cons_succ]
         have mkc1 := trivial
         rotate_left 1
         have hBk := hHeld2.2.2.2.2.2.2
         go_simp
         have HN0 := vl (Box.new v2 (.slice none 0 0) (.int .i64 0) (.slice none 0 0) 29)
         have hb' := (Below.refl v2.heap.size v2).alloc (Nat.le_refl _) (.cells #[.slice none 0 0, .int .i64 0, .slice none 0 0] 29)
         have hsN0 := vl (show v2.heap.size < (v2.alloc (.cells #[.slice none 0 0, .int .i64 0, .slice none 0 0] 29)).heap.size by simp)
         generalize hu : v2.alloc (.cells #[.slice none 0 0, .int .i64 0, .slice none 0 0] 29) = v3 at *
         clear hu
         replace Hp := vl (Hp.out.below hb')
         replace Hd := vl (Hd.out.below hb')
         replace HN1 := vl (HN1.out.below hb')
         have hB3 := hBk.trans (hb'.mono hBk.size)
         have z3 := vl hb'.size
         have y0 := vl hBk.size
         clear hBk hb'
         refine hK.out _ _ (HK.out _ hB3) (fun hHeld3 => ?_)
         clear hK K
         try dsimp only at hHeld3
         clear hHeld2 hB3
         try simp only [Act.put, List.getElem_toArray, List.getElem_cons_succ, List.getElem_cons_zero, List.setIfInBounds_toArray, List.set_cons_zero, List.set_cons_succ]
         generalize v2.heap.size = q0 at *
         have mka0 := trivial
         rotate_left 1)
      | (have ck := (show True ∧ True ∧ True from ⟨mkc0, mkc1, trivial⟩)
         clear ck
         refine wpAnyH_ready (rs := [6, 11, 12]) (by kernel_rfl) (by simp) ?_
         refine AllReadyH.cons (o := _) rfl (fun K hK => ?_) (AllReadyH.cons (o := _) rfl (fun K hK => ?_) (AllReadyH.cons (o := _) rfl (fun K hK => ?_) AllReadyH.nil))
         have hBk := hHeld2.2.2.2.2.2.2
         go_simp
         go_at_call 7
         with_reducible refine (HIm.out A5 c5 D5 d5 A6 c6 D6 d6 _ Hp.out Hd.out Hp'.out Hd'.out).mono ?_
         rintro en v3 ⟨⟨A7, c7, D7, d7, g7, h7, A8, c8, D8, d8, g8, h8, M, rfl, _, _, ho7, ho8, hM1, hM2⟩, hb'⟩
         replace Hp := vl (Hp.out.below hb')
         replace Hd := vl (Hd.out.below hb')
         replace Hp' := vl (Hp'.out.below hb')
         replace Hd' := vl (Hd'.out.below hb')
         have HRa := vl ho7
         have HRb := vl ho8
         have hB3 := hBk.trans (hb'.mono hBk.size)
         have z3 := vl hb'.size
         have hM1' := vl hM1
         have hM2' := vl hM2
         clear hBk hb' ho7 ho8 hM1 hM2
         refine hK.out _ _ (HK.out _ hB3) (fun hHeld3 => ?_)
         clear hK K
         try dsimp only at hHeld3
         clear hHeld2 hB3
         try simp only [Act.put, List.getElem_toArray, List.getElem_cons_succ, List.getElem_cons_zero, List.setIfInBounds_toArray, List.set_cons_zero, List.set_cons_succ]
         refine wpAnyH_take (i := 7) (oi := _) (v := ?_) rfl (by kernel_rfl) (by kernel_rfl) (by kernel_rfl) (fun _ _ _ h => h) (Or.inl ⟨by rfl, ?_⟩) (by assumption) ?_
         rotate_left 1
         · intro w hSw
           try dsimp only at hSw
           go_simp
           try with_reducible rfl
         try simp only [Act.put, List.getElem_toArray, List.getElem_cons_succ, List.getElem_cons_zero, List.setIfInBounds_toArray, List.set_cons_zero, List.set_cons_succ]
         refine wpAnyH_take (i := 8) (oi := _) (v := ?_) rfl (by kernel_rfl) (by kernel_rfl) (by kernel_rfl) (fun _ _ _ h => h) (Or.inl ⟨by rfl, ?_⟩) (by assumption) ?_
         rotate_left 1
         · intro w hSw
           try dsimp only at hSw
           go_simp
           try with_reducible rfl
         try simp only [Act.put, List.getElem_toArray, List.getElem_cons_succ, List.getElem_cons_zero, List.setIfInBounds_toArray, List.set_cons_zero, List.set_cons_succ]
         refine wpAnyH_take (i := 9) (oi := _) (v := ?_) rfl (by kernel_rfl) (by kernel_rfl) (by kernel_rfl) (fun _ _ _ h => h) (Or.inl ⟨by rfl, ?_⟩) (by assumption) ?_
         rotate_left 1
         · intro w hSw
           try dsimp only at hSw
           go_simp
           try with_reducible rfl
         try simp only [Act.put, List.getElem_toArray, List.getElem_cons_succ, List.getElem_cons_zero, List.setIfInBounds_toArray, List.set_cons_zero, List.set_cons_succ]
         refine wpAnyH_take (i := 10) (oi := _) (v := ?_) rfl (by kernel_rfl) (by kernel_rfl) (by kernel_rfl) (fun _ _ _ h => h) (Or.inl ⟨by rfl, ?_⟩) (by assumption) ?_
         rotate_left 1
         · intro w hSw
           try dsimp only at hSw
           go_simp
           try with_reducible rfl
         try simp only [Act.put, List.getElem_toArray, List.getElem_cons_succ, List.getElem_cons_zero, List.setIfInBounds_toArray, List.set_cons_zero, List.set_cons_succ]
         have mkc2 := trivial
         rotate_left 1
         have hBk := hHeld2.2.2.2.2.2.2
         go_simp
         have HN0 := vl (Box.new v2 (.slice none 0 0) (.int .i64 0) (.slice none 0 0) 29)
         have hb' := (Below.refl v2.heap.size v2).alloc (Nat.le_refl _) (.cells #[.slice none 0 0, .int .i64 0, .slice none 0 0] 29)
         have hsN0 := vl (show v2.heap.size < (v2.alloc (.cells #[.slice none 0 0, .int .i64 0, .slice none 0 0] 29)).heap.size by simp)
         generalize hu : v2.alloc (.cells #[.slice none 0 0, .int .i64 0, .slice none 0 0] 29) = v3 at *
         clear hu
         replace Hp := vl (Hp.out.below hb')
         replace Hd := vl (Hd.out.below hb')
         replace Hp' := vl (Hp'.out.below hb')
         replace Hd' := vl (Hd'.out.below hb')
         have hB3 := hBk.trans (hb'.mono hBk.size)
         have z3 := vl hb'.size
         have y0 := vl hBk.size
         clear hBk hb'
         refine hK.out _ _ (HK.out _ hB3) (fun hHeld3 => ?_)
         clear hK K
         try dsimp only at hHeld3
         clear hHeld2 hB3
         try simp only [Act.put, List.getElem_toArray, List.getElem_cons_succ, List.getElem_cons_zero, List.setIfInBounds_toArray, List.set_cons_zero, List.set_cons_succ]
         generalize v2.heap.size = q0 at *
         have mka0 := trivial
         rotate_left 1
         have hBk := hHeld2.2.2.2.2.2.2
         go_simp
         have HN1 := vl (Box.new v2 (.slice none 0 0) (.int .i64 0) (.slice none 0 0) 29)
         have hb' := (Below.refl v2.heap.size v2).alloc (Nat.le_refl _) (.cells #[.slice none 0 0, .int .i64 0, .slice none 0 0] 29)
         have hsN1 := vl (show v2.heap.size < (v2.alloc (.cells #[.slice none 0 0, .int .i64 0, .slice none 0 0] 29)).heap.size by simp)
         generalize hu : v2.alloc (.cells #[.slice none 0 0, .int .i64 0, .slice none 0 0] 29) = v3 at *
         clear hu
         replace Hp := vl (Hp.out.below hb')
         replace Hd := vl (Hd.out.below hb')
         replace Hp' := vl (Hp'.out.below hb')
         replace Hd' := vl (Hd'.out.below hb')
         have hB3 := hBk.trans (hb'.mono hBk.size)
         have z3 := vl hb'.size
         have y1 := vl hBk.size
         clear hBk hb'
         refine hK.out _ _ (HK.out _ hB3) (fun hHeld3 => ?_)
         clear hK K
         try dsimp only at hHeld3
         clear hHeld2 hB3
         try simp only [Act.put, List.getElem_toArray, List.getElem_cons_succ, List.getElem_cons_zero, List.setIfInBounds_toArray, List.set_cons_zero, List.set_cons_succ]
         generalize v2.heap.size = q1 at *
         have mka1 := trivial
         rotate_left 1)
    all_goals
      first
      | (have ck := (show True ∧ True ∧ True ∧ True from ⟨mkc0, mka0, mka1, trivial⟩)
         clear ck
         refine wpAnyH_ready (rs := [3]) (by kernel_rfl) (by simp) ?_
         refine AllReadyH.cons (o := _) rfl (fun K hK => ?_) AllReadyH.nil
         have hBk := hHeld3.2.2.2.2.2.2
         go_simp
         go_at_call 6
         with_reducible refine (toReach t B1 D1 b1 d1 _ hn1 hm1 (HSP1.out.below (HB21.out.trans (hBk.mono HB21.out.size))) (HSI1.out.below (HB21.out.trans (hBk.mono HB21.out.size)))).mono ?_
         rintro en v4 ⟨⟨A6, c6, D6, d6, g6, h6, rfl, _, ho6⟩, hb'⟩
         replace Hp := vl (Hp.out.below hb')
         replace Hd := vl (Hd.out.below hb')
         replace HN0 := vl (HN0.out.below hb')
         replace HN1 := vl (HN1.out.below hb')
         have Hp' := vl ho6.pts
         have Hd' := vl ho6.ints
         have hB4 := hBk.trans (hb'.mono hBk.size)
         have z4 := vl hb'.size
         clear hBk hb' ho6
         refine hK.out _ _ (HK.out _ hB4) (fun hHeld4 => ?_)
         clear hK K
         try dsimp only at hHeld4
         clear hHeld3 hB4
         try simp only [Act.put, List.getElem_toArray, List.getElem_cons_succ, List.getElem_cons_zero, List.setIfInBounds_toArray, List.set_cons_zero, List.set_cons_succ]
         have mkc1 := trivial)
      | (have ck := (show True ∧ True ∧ True ∧ True from ⟨mkc0, mkc1, mka0, trivial⟩)
         clear ck
         refine wpAnyH_ready (rs := [6, 12]) (by kernel_rfl) (by simp) ?_
         refine AllReadyH.cons (o := _) rfl (fun K hK => ?_) (AllReadyH.cons (o := _) rfl (fun K hK => ?_) AllReadyH.nil)
         have hBk := hHeld3.2.2.2.2.2.2
         go_simp
         go_at_call 7
         with_reducible refine (HIm.out A5 c5 D5 d5 A6 c6 D6 d6 _ Hp.out Hd.out Hp'.out Hd'.out).mono ?_
         rintro en v4 ⟨⟨A7, c7, D7, d7, g7, h7, A8, c8, D8, d8, g8, h8, M, rfl, _, _, ho7, ho8, hM1, hM2⟩, hb'⟩
         replace Hp := vl (Hp.out.below hb')
         replace Hd := vl (Hd.out.below hb')
         replace Hp' := vl (Hp'.out.below hb')
         replace Hd' := vl (Hd'.out.below hb')
         replace HN0 := vl (HN0.out.below hb')
         have HRa := vl ho7
         have HRb := vl ho8
         have hB4 := hBk.trans (hb'.mono hBk.size)
         have z4 := vl hb'.size
         have hM1' := vl hM1
         have hM2' := vl hM2
         clear hBk hb' ho7 ho8 hM1 hM2
         refine hK.out _ _ (HK.out _ hB4) (fun hHeld4 => ?_)
         clear hK K
         try dsimp only at hHeld4
         clear hHeld3 hB4
         try simp only [Act.put, List.getElem_toArray, List.getElem_cons_succ, List.getElem_cons_zero, List.setIfInBounds_toArray, List.set_cons_zero, List.set_cons_succ]
         refine wpAnyH_take (i := 7) (oi := _) (v := ?_) rfl (by kernel_rfl) (by kernel_rfl) (by kernel_rfl) (fun _ _ _ h => h) (Or.inl ⟨by rfl, ?_⟩) (by assumption) ?_
         rotate_left 1
         · intro w hSw
           try dsimp only at hSw
           go_simp
           try with_reducible rfl
         try simp only [Act.put, List.getElem_toArray, List.getElem_cons_succ, List.getElem_cons_zero, List.setIfInBounds_toArray, List.set_cons_zero, List.set_cons_succ]
         refine wpAnyH_take (i := 8) (oi := _) (v := ?_) rfl (by kernel_rfl) (by kernel_rfl) (by kernel_rfl) (fun _ _ _ h => h) (Or.inl ⟨by rfl, ?_⟩) (by assumption) ?_
         rotate_left 1
         · intro w hSw
           try dsimp only at hSw
           go_simp
           try with_reducible rfl
         try simp only [Act.put, List.getElem_toArray, List.getElem_cons_succ, List.getElem_cons_zero, List.setIfInBounds_toArray, List.set_cons_zero, List.set_cons_succ]
         refine wpAnyH_take (i := 9) (oi := _) (v := ?_) rfl (by kernel_rfl) (by kernel_rfl) (by kernel_rfl) (fun _ _ _ h => h) (Or.inl ⟨by rfl, ?_⟩) (by assumption) ?_
         rotate_left 1
         · intro w hSw
           try dsimp only at hSw
           go_simp
           try with_reducible rfl
         try simp only [Act.put, List.getElem_toArray, List.getElem_cons_succ, List.getElem_cons_zero, List.setIfInBounds_toArray, List.set_cons_zero, List.set_cons_succ]
         refine wpAnyH_take (i := 10) (oi := _) (v := ?_) rfl (by kernel_rfl) (by kernel_rfl) (by kernel_rfl) (fun _ _ _ h => h) (Or.inl ⟨by rfl, ?_⟩) (by assumption) ?_
         rotate_left 1
         · intro w hSw
           try dsimp only at hSw
           go_simp
           try with_reducible rfl
         try simp only [Act.put, List.getElem_toArray, List.getElem_cons_succ, List.getElem_cons_zero, List.setIfInBounds_toArray, List.set_cons_zero, List.set_cons_succ]
         have mkc2 := trivial
         rotate_left 1
         have hBk := hHeld3.2.2.2.2.2.2
         go_simp
         have HN1 := vl (Box.new v3 (.slice none 0 0) (.int .i64 0) (.slice none 0 0) 29)
         have hb' := (Below.refl v3.heap.size v3).alloc (Nat.le_refl _) (.cells #[.slice none 0 0, .int .i64 0, .slice none 0 0] 29)
         have hsN1 := vl (show v3.heap.size < (v3.alloc (.cells #[.slice none 0 0, .int .i64 0, .slice none 0 0] 29)).heap.size by simp)
         generalize hu : v3.alloc (.cells #[.slice none 0 0, .int .i64 0, .slice none 0 0] 29) = v4 at *
         clear hu
         replace Hp := vl (Hp.out.below hb')
         replace Hd := vl (Hd.out.below hb')
         replace Hp' := vl (Hp'.out.below hb')
         replace Hd' := vl (Hd'.out.below hb')
         replace HN0 := vl (HN0.out.below hb')
         have hB4 := hBk.trans (hb'.mono hBk.size)
         have z4 := vl hb'.size
         have y1 := vl hBk.size
         clear hBk hb'
         refine hK.out _ _ (HK.out _ hB4) (fun hHeld4 => ?_)
         clear hK K
         try dsimp only at hHeld4
         clear hHeld3 hB4
         try simp only [Act.put, List.getElem_toArray, List.getElem_cons_succ, List.getElem_cons_zero, List.setIfInBounds_toArray, List.set_cons_zero, List.set_cons_succ]
         generalize v3.heap.size = q1 at *
         have mka1 := trivial
         rotate_left 1)
      | (have ck := (show True ∧ True ∧ True ∧ True from ⟨mkc0, mkc1, mka1, trivial⟩)
         clear ck
         refine wpAnyH_ready (rs := [6, 11]) (by kernel_rfl) (by simp) ?_
         refine AllReadyH.cons (o := _) rfl (fun K hK => ?_) (AllReadyH.cons (o := _) rfl (fun K hK => ?_) AllReadyH.nil)
         have hBk := hHeld3.2.2.2.2.2.2
         go_simp
         go_at_call 7
         with_reducible refine (HIm.out A5 c5 D5 d5 A6 c6 D6 d6 _ Hp.out Hd.out Hp'.out Hd'.out).mono ?_
         rintro en v4 ⟨⟨A7, c7, D7, d7, g7, h7, A8, c8, D8, d8, g8, h8, M, rfl, _, _, ho7, ho8, hM1, hM2⟩, hb'⟩
         replace Hp := vl (Hp.out.below hb')
         replace Hd := vl (Hd.out.below hb')
         replace Hp' := vl (Hp'.out.below hb')
         replace Hd' := vl (Hd'.out.below hb')
         replace HN1 := vl (HN1.out.below hb')
         have HRa := vl ho7
         have HRb := vl ho8
         have hB4 := hBk.trans (hb'.mono hBk.size)
         have z4 := vl hb'.size
         have hM1' := vl hM1
         have hM2' := vl hM2
         clear hBk hb' ho7 ho8 hM1 hM2
         refine hK.out _ _ (HK.out _ hB4) (fun hHeld4 => ?_)
         clear hK K
         try dsimp only at hHeld4
         clear hHeld3 hB4
         try simp only [Act.put, List.getElem_toArray, List.getElem_cons_succ, List.getElem_cons_zero, List.setIfInBounds_toArray, List.set_cons_zero, List.set_cons_succ]
         refine wpAnyH_take (i := 7) (oi := _) (v := ?_) rfl (by kernel_rfl) (by kernel_rfl) (by kernel_rfl) (fun _ _ _ h => h) (Or.inl ⟨by rfl, ?_⟩) (by assumption) ?_
         rotate_left 1
         · intro w hSw
           try dsimp only at hSw
           go_simp
           try with_reducible rfl
         try simp only [Act.put, List.getElem_toArray, List.getElem_cons_succ, List.getElem_cons_zero, List.setIfInBounds_toArray, List.set_cons_zero, List.set_cons_succ]
         refine wpAnyH_take (i := 8) (oi := _) (v := ?_) rfl (by kernel_rfl) (by kernel_rfl) (by kernel_rfl) (fun _ _ _ h => h) (Or.inl ⟨by rfl, ?_⟩) (by assumption) ?_
         rotate_left 1
         · intro w hSw
           try dsimp only at hSw
           go_simp
           try with_reducible rfl
         try simp only [Act.put, List.getElem_toArray, List.getElem_cons_succ, List.getElem_cons_zero, List.setIfInBounds_toArray, List.set_cons_zero, List.set_cons_succ]
         refine wpAnyH_take (i := 9) (oi := _) (v := ?_) rfl (by kernel_rfl) (by kernel_rfl) (by kernel_rfl) (fun _ _ _ h => h) (Or.inl ⟨by rfl, ?_⟩) (by assumption) ?_
         rotate_left 1
         · intro w hSw
           try dsimp only at hSw
           go_simp
           try with_reducible rfl
         try simp only [Act.put, List.getElem_toArray, List.getElem_cons_succ, List.getElem_cons_zero, List.setIfInBounds_toArray, List.set_cons_zero, List.set_cons_succ]
         refine wpAnyH_take (i := 10) (oi := _) (v := ?_) rfl (by kernel_rfl) (by kernel_rfl) (by kernel_rfl) (fun _ _ _ h => h) (Or.inl ⟨by rfl, ?_⟩) (by assumption) ?_
         rotate_left 1
         · intro w hSw
           try dsimp only at hSw
           go_simp
           try with_reducible rfl
         try simp only [Act.put, List.getElem_toArray, List.getElem_cons_succ, List.getElem_cons_zero, List.setIfInBounds_toArray, List.set_cons_zero, List.set_cons_succ]
         have mkc2 := trivial
         rotate_left 1
         have hBk := hHeld3.2.2.2.2.2.2
         go_simp
         have HN0 := vl (Box.new v3 (.slice none 0 0) (.int .i64 0) (.slice none 0 0) 29)
         have hb' := (Below.refl v3.heap.size v3).alloc (Nat.le_refl _) (.cells #[.slice none 0 0, .int .i64 0, .slice none 0 0] 29)
         have hsN0 := vl (show v3.heap.size < (v3.alloc (.cells #[.slice none 0 0, .int .i64 0, .slice none 0 0] 29)).heap.size by simp)
         generalize hu : v3.alloc (.cells #[.slice none 0 0, .int .i64 0, .slice none 0 0] 29) = v4 at *
         clear hu
         replace Hp := vl (Hp.out.below hb')
         replace Hd := vl (Hd.out.below hb')
         replace Hp' := vl (Hp'.out.below hb')
         replace Hd' := vl (Hd'.out.below hb')
         replace HN1 := vl (HN1.out.below hb')
         have hB4 := hBk.trans (hb'.mono hBk.size)
         have z4 := vl hb'.size
         have y0 := vl hBk.size
         clear hBk hb'
         refine hK.out _ _ (HK.out _ hB4) (fun hHeld4 => ?_)
         clear hK K
         try dsimp only at hHeld4
         clear hHeld3 hB4
         try simp only [Act.put, List.getElem_toArray, List.getElem_cons_succ, List.getElem_cons_zero, List.setIfInBounds_toArray, List.set_cons_zero, List.set_cons_succ]
         generalize v3.heap.size = q0 at *
         have mka0 := trivial
         rotate_left 1)
      | (have ck := (show True ∧ True ∧ True ∧ True from ⟨mkc0, mkc1, mkc2, trivial⟩)
         clear ck
         refine wpAnyH_ready (rs := [11, 12]) (by kernel_rfl) (by simp) ?_
         refine AllReadyH.cons (o := _) rfl (fun K hK => ?_) (AllReadyH.cons (o := _) rfl (fun K hK => ?_) AllReadyH.nil)
         have hBk := hHeld3.2.2.2.2.2.2
         go_simp
         have HN0 := vl (Box.new v3 (.slice none 0 0) (.int .i64 0) (.slice none 0 0) 29)
         have hb' := (Below.refl v3.heap.size v3).alloc (Nat.le_refl _) (.cells #[.slice none 0 0, .int .i64 0, .slice none 0 0] 29)
         have hsN0 := vl (show v3.heap.size < (v3.alloc (.cells #[.slice none 0 0, .int .i64 0, .slice none 0 0] 29)).heap.size by simp)
         generalize hu : v3.alloc (.cells #[.slice none 0 0, .int .i64 0, .slice none 0 0] 29) = v4 at *
         clear hu
         replace Hp := vl (Hp.out.below hb')
         replace Hd := vl (Hd.out.below hb')
         replace Hp' := vl (Hp'.out.below hb')
         replace Hd' := vl (Hd'.out.below hb')
         replace HRa := vl (HRa.out.below hb')
         replace HRb := vl (HRb.out.below hb')
         have hB4 := hBk.trans (hb'.mono hBk.size)
         have z4 := vl hb'.size
         have y0 := vl hBk.size
         clear hBk hb'
         refine hK.out _ _ (HK.out _ hB4) (fun hHeld4 => ?_)
         clear hK K
         try dsimp only at hHeld4
         clear hHeld3 hB4
         try simp only [Act.put, List.getElem_toArray, List.getElem_cons_succ, List.getElem_cons_zero, List.setIfInBounds_toArray, List.set_cons_zero, List.set_cons_succ]
         generalize v3.heap.size = q0 at *
         have mka0 := trivial
         rotate_left 1
         have hBk := hHeld3.2.2.2.2.2.2
         go_simp
         have HN1 := vl (Box.new v3 (.slice none 0 0) (.int .i64 0) (.slice none 0 0) 29)
         have hb' := (Below.refl v3.heap.size v3).alloc (Nat.le_refl _) (.cells #[.slice none 0 0, .int .i64 0, .slice none 0 0] 29)
         have hsN1 := vl (show v3.heap.size < (v3.alloc (.cells #[.slice none 0 0, .int .i64 0, .slice none 0 0] 29)).heap.size by simp)
         generalize hu : v3.alloc (.cells #[.slice none 0 0, .int .i64 0, .slice none 0 0] 29) = v4 at *
         clear hu
         replace Hp := vl (Hp.out.below hb')
         replace Hd := vl (Hd.out.below hb')
         replace Hp' := vl (Hp'.out.below hb')
         replace Hd' := vl (Hd'.out.below hb')
         replace HRa := vl (HRa.out.below hb')
         replace HRb := vl (HRb.out.below hb')
         have hB4 := hBk.trans (hb'.mono hBk.size)
         have z4 := vl hb'.size
         have y1 := vl hBk.size
         clear hBk hb'
         refine hK.out _ _ (HK.out _ hB4) (fun hHeld4 => ?_)
         clear hK K
         try dsimp only at hHeld4
         clear hHeld3 hB4
         try simp only [Act.put, List.getElem_toArray, List.getElem_cons_succ, List.getElem_cons_zero, List.setIfInBounds_toArray, List.set_cons_zero, List.set_cons_succ]
         generalize v3.heap.size = q1 at *
         have mka1 := trivial
         rotate_left 1)
    all_goals
      first
      | (have ck := (show True ∧ True ∧ True ∧ True ∧ True from ⟨mkc0, mkc1, mka0, mka1, trivial⟩)
         clear ck
         refine wpAnyH_ready (rs := [6]) (by kernel_rfl) (by simp) ?_
         refine AllReadyH.cons (o := _) rfl (fun K hK => ?_) AllReadyH.nil
         have hBk := hHeld4.2.2.2.2.2.2
         go_simp
         go_at_call 7
         with_reducible refine (HIm.out A5 c5 D5 d5 A6 c6 D6 d6 _ Hp.out Hd.out Hp'.out Hd'.out).mono ?_
         rintro en v5 ⟨⟨A7, c7, D7, d7, g7, h7, A8, c8, D8, d8, g8, h8, M, rfl, _, _, ho7, ho8, hM1, hM2⟩, hb'⟩
         replace Hp := vl (Hp.out.below hb')
         replace Hd := vl (Hd.out.below hb')
         replace Hp' := vl (Hp'.out.below hb')
         replace Hd' := vl (Hd'.out.below hb')
         replace HN0 := vl (HN0.out.below hb')
         replace HN1 := vl (HN1.out.below hb')
         have HRa := vl ho7
         have HRb := vl ho8
         have hB5 := hBk.trans (hb'.mono hBk.size)
         have z5 := vl hb'.size
         have hM1' := vl hM1
         have hM2' := vl hM2
         clear hBk hb' ho7 ho8 hM1 hM2
         refine hK.out _ _ (HK.out _ hB5) (fun hHeld5 => ?_)
         clear hK K
         try dsimp only at hHeld5
         clear hHeld4 hB5
         try simp only [Act.put, List.getElem_toArray, List.getElem_cons_succ, List.getElem_cons_zero, List.setIfInBounds_toArray, List.set_cons_zero, List.set_cons_succ]
         refine wpAnyH_take (i := 7) (oi := _) (v := ?_) rfl (by kernel_rfl) (by kernel_rfl) (by kernel_rfl) (fun _ _ _ h => h) (Or.inl ⟨by rfl, ?_⟩) (by assumption) ?_
         rotate_left 1
         · intro w hSw
           try dsimp only at hSw
           go_simp
           try with_reducible rfl
         try simp only [Act.put, List.getElem_toArray, List.getElem_cons_succ, List.getElem_cons_zero, List.setIfInBounds_toArray, List.set_cons_zero, List.set_cons_succ]
         refine wpAnyH_take (i := 8) (oi := _) (v := ?_) rfl (by kernel_rfl) (by kernel_rfl) (by kernel_rfl) (fun _ _ _ h => h) (Or.inl ⟨by rfl, ?_⟩) (by assumption) ?_
         rotate_left 1
         · intro w hSw
           try dsimp only at hSw
           go_simp
           try with_reducible rfl
         try simp only [Act.put, List.getElem_toArray, List.getElem_cons_succ, List.getElem_cons_zero, List.setIfInBounds_toArray, List.set_cons_zero, List.set_cons_succ]
         refine wpAnyH_take (i := 9) (oi := _) (v := ?_) rfl (by kernel_rfl) (by kernel_rfl) (by kernel_rfl) (fun _ _ _ h => h) (Or.inl ⟨by rfl, ?_⟩) (by assumption) ?_
         rotate_left 1
         · intro w hSw
           try dsimp only at hSw
           go_simp
           try with_reducible rfl
         try simp only [Act.put, List.getElem_toArray, List.getElem_cons_succ, List.getElem_cons_zero, List.setIfInBounds_toArray, List.set_cons_zero, List.set_cons_succ]
         refine wpAnyH_take (i := 10) (oi := _) (v := ?_) rfl (by kernel_rfl) (by kernel_rfl) (by kernel_rfl) (fun _ _ _ h => h) (Or.inl ⟨by rfl, ?_⟩) (by assumption) ?_
         rotate_left 1
         · intro w hSw
           try dsimp only at hSw
           go_simp
           try with_reducible rfl
         try simp only [Act.put, List.getElem_toArray, List.getElem_cons_succ, List.getElem_cons_zero, List.setIfInBounds_toArray, List.set_cons_zero, List.set_cons_succ]
         have mkc2 := trivial)
      | (have ck := (show True ∧ True ∧ True ∧ True ∧ True from ⟨mkc0, mkc1, mkc2, mka0, trivial⟩)
         clear ck
         refine wpAnyH_ready (rs := [12]) (by kernel_rfl) (by simp) ?_
         refine AllReadyH.cons (o := _) rfl (fun K hK => ?_) AllReadyH.nil
         have hBk := hHeld4.2.2.2.2.2.2
         go_simp
         have HN1 := vl (Box.new v4 (.slice none 0 0) (.int .i64 0) (.slice none 0 0) 29)
         have hb' := (Below.refl v4.heap.size v4).alloc (Nat.le_refl _) (.cells #[.slice none 0 0, .int .i64 0, .slice none 0 0] 29)
         have hsN1 := vl (show v4.heap.size < (v4.alloc (.cells #[.slice none 0 0, .int .i64 0, .slice none 0 0] 29)).heap.size by simp)
         generalize hu : v4.alloc (.cells #[.slice none 0 0, .int .i64 0, .slice none 0 0] 29) = v5 at *
         clear hu
         replace Hp := vl (Hp.out.below hb')
         replace Hd := vl (Hd.out.below hb')
         replace Hp' := vl (Hp'.out.below hb')
         replace Hd' := vl (Hd'.out.below hb')
         replace HRa := vl (HRa.out.below hb')
         replace HRb := vl (HRb.out.below hb')
         replace HN0 := vl (HN0.out.below hb')
         have hB5 := hBk.trans (hb'.mono hBk.size)
         have z5 := vl hb'.size
         have y1 := vl hBk.size
         clear hBk hb'
         refine hK.out _ _ (HK.out _ hB5) (fun hHeld5 => ?_)
         clear hK K
         try dsimp only at hHeld5
         clear hHeld4 hB5
         try simp only [Act.put, List.getElem_toArray, List.getElem_cons_succ, List.getElem_cons_zero, List.setIfInBounds_toArray, List.set_cons_zero, List.set_cons_succ]
         generalize v4.heap.size = q1 at *
         have mka1 := trivial)
      | (have ck := (show True ∧ True ∧ True ∧ True ∧ True from ⟨mkc0, mkc1, mkc2, mka1, trivial⟩)
         clear ck
         refine wpAnyH_ready (rs := [11]) (by kernel_rfl) (by simp) ?_
         refine AllReadyH.cons (o := _) rfl (fun K hK => ?_) AllReadyH.nil
         have hBk := hHeld4.2.2.2.2.2.2
         go_simp
         have HN0 := vl (Box.new v4 (.slice none 0 0) (.int .i64 0) (.slice none 0 0) 29)
         have hb' := (Below.refl v4.heap.size v4).alloc (Nat.le_refl _) (.cells #[.slice none 0 0, .int .i64 0, .slice none 0 0] 29)
         have hsN0 := vl (show v4.heap.size < (v4.alloc (.cells #[.slice none 0 0, .int .i64 0, .slice none 0 0] 29)).heap.size by simp)
         generalize hu : v4.alloc (.cells #[.slice none 0 0, .int .i64 0, .slice none 0 0] 29) = v5 at *
         clear hu
         replace Hp := vl (Hp.out.below hb')
         replace Hd := vl (Hd.out.below hb')
         replace Hp' := vl (Hp'.out.below hb')
         replace Hd' := vl (Hd'.out.below hb')
         replace HRa := vl (HRa.out.below hb')
         replace HRb := vl (HRb.out.below hb')
         replace HN1 := vl (HN1.out.below hb')
         have hB5 := hBk.trans (hb'.mono hBk.size)
         have z5 := vl hb'.size
         have y0 := vl hBk.size
         clear hBk hb'
         refine hK.out _ _ (HK.out _ hB5) (fun hHeld5 => ?_)
         clear hK K
         try dsimp only at hHeld5
         clear hHeld4 hB5
         try simp only [Act.put, List.getElem_toArray, List.getElem_cons_succ, List.getElem_cons_zero, List.setIfInBounds_toArray, List.set_cons_zero, List.set_cons_succ]
         generalize v4.heap.size = q0 at *
         have mka0 := trivial)
    all_goals
      have s0 := s0.out
      have z1 := z1.out
      have z2 := z2.out
      have z3 := z3.out
      have z4 := z4.out
      have z5 := z5.out
      have hsN0 := hsN0.out
      have hsN1 := hsN1.out
      have y0 := y0.out
      have y1 := y1.out
      have hM1 := hM1'.out
      have hM2 := hM2'.out
      have hBk := hHeld5.2.2.2.2.2.2
      obtain ⟨p0, p1, p2⟩ := HN0.out.at
      obtain ⟨f0, f1, f2⟩ := HN0.out.free
      refine wpAnyH_ready (rs := [13]) (by kernel_rfl) (by simp) ?_
      refine AllReadyH.cons (o := _) rfl (fun K hK => ?_) AllReadyH.nil
      go_simp
      clear p0 p1 p2 f0 f1 f2
      have hbj : ∀ j : Nat, u21.heap.size ≤ (⟨q0, j, none⟩ : Addr).block := fun j => by dsimp only; omega
      have hB6 := (((hBk.setCell (hbj 0) (.slice A7 Ra.n c7)).setCell (hbj 1) (.int .i64 Ra.v)).setCell (hbj 2) (.slice D7 Ra.m d7))
      have ht' := touch3 (w := v5) (g := q0) (.slice A7 Ra.n c7) (.int .i64 Ra.v) (.slice D7 Ra.m d7)
      replace HN0 := vl (((HN0.out.set0 (.slice A7 Ra.n c7)).set1 (.int .i64 Ra.v)).set2 (.slice D7 Ra.m d7))
      replace HN1 := vl (HN1.out.touch ht' (by omega))
      replace HRa := vl (HRa.out.touch ht' (by omega))
      replace HRb := vl (HRb.out.touch ht' (by omega))
      have hsz5 : (((v5.setCell ⟨q0, 0, none⟩ (.slice A7 Ra.n c7)).setCell ⟨q0, 1, none⟩ (.int .i64 Ra.v)).setCell ⟨q0, 2, none⟩ (.slice D7 Ra.m d7)).heap.size = v5.heap.size := by simp
      generalize hu : (((v5.setCell ⟨q0, 0, none⟩ (.slice A7 Ra.n c7)).setCell ⟨q0, 1, none⟩ (.int .i64 Ra.v)).setCell ⟨q0, 2, none⟩ (.slice D7 Ra.m d7)) = v6 at *
      clear hu hbj hBk ht'
      refine hK.out _ _ (HK.out _ hB6) (fun hHeld6 => ?_)
      clear hK K
      try dsimp only at hHeld6
      clear hHeld5 hB6
      try simp only [Act.put, List.getElem_toArray, List.getElem_cons_succ, List.getElem_cons_zero, List.setIfInBounds_toArray, List.set_cons_zero, List.set_cons_succ]
      have hBk := hHeld6.2.2.2.2.2.2
      obtain ⟨p0, p1, p2⟩ := HN1.out.at
      obtain ⟨f0, f1, f2⟩ := HN1.out.free
      refine wpAnyH_ready (rs := [14]) (by kernel_rfl) (by simp) ?_
      refine AllReadyH.cons (o := _) rfl (fun K hK => ?_) AllReadyH.nil
      go_simp
      clear p0 p1 p2 f0 f1 f2
      have hbj : ∀ j : Nat, u21.heap.size ≤ (⟨q1, j, none⟩ : Addr).block := fun j => by dsimp only; omega
      have hB7 := (((hBk.setCell (hbj 0) (.slice A8 Rb.n c8)).setCell (hbj 1) (.int .i64 Rb.v)).setCell (hbj 2) (.slice D8 Rb.m d8))
      have ht' := touch3 (w := v6) (g := q1) (.slice A8 Rb.n c8) (.int .i64 Rb.v) (.slice D8 Rb.m d8)
      replace HN1 := vl (((HN1.out.set0 (.slice A8 Rb.n c8)).set1 (.int .i64 Rb.v)).set2 (.slice D8 Rb.m d8))
      replace HN0 := vl (HN0.out.touch ht' (by omega))
      replace HRa := vl (HRa.out.touch ht' (by omega))
      replace HRb := vl (HRb.out.touch ht' (by omega))
      have hsz6 : (((v6.setCell ⟨q1, 0, none⟩ (.slice A8 Rb.n c8)).setCell ⟨q1, 1, none⟩ (.int .i64 Rb.v)).setCell ⟨q1, 2, none⟩ (.slice D8 Rb.m d8)).heap.size = v6.heap.size := by simp
      generalize hu : (((v6.setCell ⟨q1, 0, none⟩ (.slice A8 Rb.n c8)).setCell ⟨q1, 1, none⟩ (.int .i64 Rb.v)).setCell ⟨q1, 2, none⟩ (.slice D8 Rb.m d8)) = v7 at *
      clear hu hbj hBk ht'
      refine hK.out _ _ (HK.out _ hB7) (fun hHeld7 => ?_)
      clear hK K
      try dsimp only at hHeld7
      clear hHeld6 hB7
      try simp only [Act.put, List.getElem_toArray, List.getElem_cons_succ, List.getElem_cons_zero, List.setIfInBounds_toArray, List.set_cons_zero, List.set_cons_succ]
      refine wpAnyH_take (i := 15) (oi := _) (v := ?_) rfl (by kernel_rfl) (by kernel_rfl) (by kernel_rfl) (fun _ _ _ h => h) (Or.inl ⟨by rfl, ?_⟩) (by assumption) ?_
      rotate_left 1
      · intro w hSw
        try dsimp only at hSw
        go_simp
        try with_reducible rfl
      try simp only [Act.put, List.getElem_toArray, List.getElem_cons_succ, List.getElem_cons_zero, List.setIfInBounds_toArray, List.set_cons_zero, List.set_cons_succ]
      refine wpAnyH_done (by kernel_rfl) ?_ _
      go_simp
      go_wp2_with fail
      go_meet
      exact ⟨_, _, _, _, _, _, _, _, _, _, _, _, _, _, _, _, _, rfl, rfl, rfl, vl ⟨HN0.out, HRa.out⟩, vl ⟨HN1.out, HRb.out⟩, vl hHeld7.2.2.2.2.2.2, vl (by omega)⟩
  case rest =>
  obtain ⟨b22, e22, A22, c22, D22, d22, g22, h22, A22', c22', D22', d22', g22', h22', lo22, mi22, hi22, rfl, rfl, rfl, HI_x, HJ_x, hbc, hx⟩ := hcut
  obtain ⟨i22_0, i22_1, i22_2, i22_3, i22_4, i22_5, i22_6, i22_7, i22_8, i22_9⟩ := hx.out
  generalize wc = u22 at *
  have hb := hbc.out
  have HL0_22 := vl (HL0_21.out.below hb)
  have HL1_22 := vl (HL1_21.out.below hb)
  have HW_22 := vl (HW_21.out.below hb)
  have HV_22 := vl (HV_21.out.below hb)
  have HG_22 := vl (HG_21.out.below hb)
  have HH_22 := vl (HH_21.out.below hb)
  have HB22 := vl (HB21.out.trans (hb.mono HB21.out.size))
  have z22 := hb.size
  clear HL0_21 HL1_21 HW_21 HV_21 HG_21 HH_21
  have HI_22 := HI_x
  have HJ_22 := HJ_x
  clear hb hbc hx HI_x HJ_x
  obtain ⟨a0, a1, a2⟩ := HI_22.out.x.at
  obtain ⟨e0, e1, e2⟩ := HW_22.out.x.at
  go_wp2_with fail
  try rw [hu22]
  try clear hu22
  refine (eqReach Ra _ _ _ _ _ _ _ _ _ an0 am0 HI_22.out.o HW_22.out.o).mono ?_
  rintro en u23 ⟨rfl, hb⟩
  clear a0 a1 a2 e0 e1 e2
  have HL0_23 := vl (HL0_22.out.below hb)
  have HL1_23 := vl (HL1_22.out.below hb)
  have HW_23 := vl (HW_22.out.below hb)
  have HV_23 := vl (HV_22.out.below hb)
  have HG_23 := vl (HG_22.out.below hb)
  have HH_23 := vl (HH_22.out.below hb)
  have HI_23 := vl (HI_22.out.below hb)
  have HJ_23 := vl (HJ_22.out.below hb)
  have HB23 := vl (HB22.out.trans (hb.mono HB22.out.size))
  have z23 := hb.size
  clear HL0_22 HL1_22 HW_22 HV_22 HG_22 HH_22 HI_22 HJ_22
  clear hb
  obtain ⟨a0, a1, a2⟩ := HJ_23.out.x.at
  obtain ⟨e0, e1, e2⟩ := HV_23.out.x.at
  go_wp2_with fail
  try rw [hu23]
  try clear hu23
  refine (eqReach Rb _ _ _ _ _ _ _ _ _ bn0 bm0 HJ_23.out.o HV_23.out.o).mono ?_
  rintro en u24 ⟨rfl, hb⟩
  clear a0 a1 a2 e0 e1 e2
  have HL0_24 := vl (HL0_23.out.below hb)
  have HL1_24 := vl (HL1_23.out.below hb)
  have HW_24 := vl (HW_23.out.below hb)
  have HV_24 := vl (HV_23.out.below hb)
  have HG_24 := vl (HG_23.out.below hb)
  have HH_24 := vl (HH_23.out.below hb)
  have HI_24 := vl (HI_23.out.below hb)
  have HJ_24 := vl (HJ_23.out.below hb)
  have HB24 := vl (HB23.out.trans (hb.mono HB23.out.size))
  have z24 := hb.size
  clear HL0_23 HL1_23 HW_23 HV_23 HG_23 HH_23 HI_23 HJ_23
  clear hb
  obtain ⟨a0, a1, a2⟩ := HG_24.out.x.at
  go_wp2_with fail
  refine (heldReach Ra A7 D7 c7 d7 1 _ _ an0 am0 (by omega) HG_24.out.o).mono ?_
  rintro en u25 ⟨he, hb⟩
  rw [← HK3.out] at he
  subst he
  clear a0 a1 a2
  have HL0_25 := vl (HL0_24.out.below hb)
  have HL1_25 := vl (HL1_24.out.below hb)
  have HW_25 := vl (HW_24.out.below hb)
  have HV_25 := vl (HV_24.out.below hb)
  have HG_25 := vl (HG_24.out.below hb)
  have HH_25 := vl (HH_24.out.below hb)
  have HI_25 := vl (HI_24.out.below hb)
  have HJ_25 := vl (HJ_24.out.below hb)
  have HB25 := vl (HB24.out.trans (hb.mono HB24.out.size))
  have z25 := hb.size
  clear HL0_24 HL1_24 HW_24 HV_24 HG_24 HH_24 HI_24 HJ_24
  clear hb
  obtain ⟨a0, a1, a2⟩ := HH_25.out.x.at
  go_wp2_with fail
  refine (heldReach Rb A8 D8 c8 d8 K3 _ _ bn0 bm0 hk3 HH_25.out.o).mono ?_
  rintro en u26 ⟨he, hb⟩
  rw [← HK4.out] at he
  subst he
  clear a0 a1 a2
  have HL0_26 := vl (HL0_25.out.below hb)
  have HL1_26 := vl (HL1_25.out.below hb)
  have HW_26 := vl (HW_25.out.below hb)
  have HV_26 := vl (HV_25.out.below hb)
  have HG_26 := vl (HG_25.out.below hb)
  have HH_26 := vl (HH_25.out.below hb)
  have HI_26 := vl (HI_25.out.below hb)
  have HJ_26 := vl (HJ_25.out.below hb)
  have HB26 := vl (HB25.out.trans (hb.mono HB25.out.size))
  have z26 := hb.size
  clear HL0_25 HL1_25 HW_25 HV_25 HG_25 HH_25 HI_25 HJ_25
  clear hb
  go_wp2
  go_ret
  exact ⟨rfl, HB26.out⟩

theorem parOk : Try.f3.params.toList.all (fun t => Try.prog.readableRec t && decide (t < Try.prog.types.size)) = true := by kernel_rfl
set_option maxRecDepth 100000 in
theorem lifted (os : Os) (started : os.Started) (H : Type) (enc : TypeId × Value → H) :
    ReturnsInHanded {} Try.checked os 3 .any (Rows.fnExactPassOnSpec.pre6 enc Try.prog Try.f3 Rows.fnExactPassOnRow.domain false) (Rows.fnExactPassOnSpec.post enc Try.prog Try.f3 false true false false) := by
  refine law_lifted (C := Try.checked) own started (by kernel_rfl) Try.func3 laid (fun t ht => by
      have h := List.all_eq_true.1 parOk t ht
      rw [Bool.and_eq_true] at h
      exact ⟨h.1, of_decide_eq_true h.2⟩) rfl Try.underlying4 rfl
    (fun xs hx => by
      rw [show Try.f3.params.toList.length = 4 from by rw [Try.params3]; rfl] at hx
      match xs, hx with
      | [d0, d1, d2, d3], _ => rfl)
    (ChangeSpec.witness6 (enc := enc) (C := Try.checked) false ⟨#[], #[.agg #[.slice none 0 0, .int .i64 0, .slice none 0 0], .agg #[.slice none 0 0, .int .i64 0, .slice none 0 0], .int .i64 0, .int .i64 0], []⟩ 8 (by kernel_rfl) (by kernel_rfl) (by kernel_rfl) (by kernel_rfl)) ?_
  intro W base args ds p hval0 hA0 _
  have hval : ∀ (j : Nat) t v, Try.f3.params[j]? = some t → args[j]? = some v → Value.okWide Try.prog W .any base t v := hval0
  have hA : DataW.TrodAll enc Try.prog W 0 (fun _ => true) true Try.f3.params.toList args.toList ds p := hA0
  clear hA0 hval0
  rw [Try.params3] at hA hval
  obtain ⟨v0, vs0, d0, ds0, p0, q0, hargs, rfl, rfl, h0, r0⟩ := trodAll_cons hA
  obtain ⟨v1, vs1, d1, ds1, p1, q1, rfl, rfl, rfl, h1, r1⟩ := trodAll_cons r0
  obtain ⟨v2, vs2, d2, ds2, p2, q2, rfl, rfl, rfl, h2, r2⟩ := trodAll_cons r1
  obtain ⟨v3, vs3, d3, ds3, p3, q3, rfl, rfl, rfl, h3, r3⟩ := trodAll_cons r2
  obtain ⟨rfl, rfl, rfl⟩ := trodAll_nil r3
  obtain rfl : args = #[v0, v1, v2, v3] := by cases args; simp_all
  obtain ⟨rc0, A0, D0, c0, e0, rfl, x0⟩ := open_reach (hval 0 25 _ rfl rfl) h0
  obtain ⟨rc1, A1, D1, c1, e1, rfl, x1⟩ := open_reach (hval 1 25 _ rfl rfl) h1
  obtain ⟨a2, rfl, rfl, _, x2⟩ := open_int Try.underlying3 (hval 2 3 _ rfl rfl) h2
  obtain ⟨a3, rfl, rfl, _, x3⟩ := open_int Try.underlying3 (hval 3 3 _ rfl rfl) h3
  exact walk rc0 A0 D0 c0 e0 rc1 A1 D1 c1 e1 a2 a3 W x0 x1 x2 x3

/-- The statement. -/
theorem proved : Rows.FnExactPassOnSaid :=
  OpenClaim.holds_of_wide 3 Try.f3 rfl rfl rfl rfl rfl rfl rfl ⟨rfl, rfl, rfl, rfl, rfl⟩ rfl rfl rfl rfl rfl (by kernel_rfl) Try.func3 (by kernel_rfl)
    (of_decide_eq_true (by kernel_rfl)) (by unfold Func.isWrapper; first | (rw [if_pos (by decide +kernel)]; kernel_rfl) | (rw [if_neg (by decide +kernel)]; exact ⟨rfl, rfl⟩))
    (fun os started H enc _ => lifted os started H enc)
#print axioms proved
end Go.Proofs.Ytlaffdfnmpkocaa.fnExactPassOn
