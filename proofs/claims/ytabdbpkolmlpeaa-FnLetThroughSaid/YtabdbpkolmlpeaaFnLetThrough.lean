/-
  For every input the Go function 'laws.FnLetThrough' returns true, and each argument reads afterwards as it read before. No further condition.
-/
import Derived.Test.YtabdbpkolmlpeaaDRiv
import Derived.Test.YtabdbpkolmlpeaaDWe
import Derived.Test.YtabdbpkolmlpeaaLetI
import Derived.Test.YtabdbpkolmlpeaaHeld
import Derived.Test.YtabdbpkolmlpeaaLift
import Derived.Test.YtabdbpkolmlpeaaOpen
import Derived.ChangeMaps5
namespace Go.Proofs.Ytabdbpkolmlpeaa.fnLetThrough
open Go.Proofs.Ytabdbpkolmlpeaa.C1 Go.Proofs.Ytabdbpkolmlpeaa.Lift Go.Proofs.Ytabdbpkolmlpeaa.Opened
open Go.ChangeShapes Go.WideShapes Go.ChangeAt Go.RowKit Go.ChangeMaps
set_option linter.unusedVariables false

set_option linter.unusedSimpArgs false
theorem flowW_nn (V : Wr) (up down : Int) (h : WP V) : 0 ≤ flowW V up down := by
  unfold flowW
  split
  · rename_i hh
    have := flowB_iff.1 hh
    exact (openFlow_bd h this.2.1.2 h.o0 (by have := h.o1; have := h.g1; omega)).1
  · omega
theorem let_facts {r t : Rc} {V : Wr} {M : Int} (hr : RD r M) (ht : RD t M) (hV : WP V) : 0 ≤ passN r t (letF r t V) (letK r V) ∧ passN r t (letF r t V) (letK r V) ≤ letF r t V ∧ (passN r t (letF r t V) (letK r V) = 0 ∨ letK r V ≤ r.v - passN r t (letF r t V) (letK r V)) ∧ rOk (pass1 r t (letF r t V) (letK r V)) = true ∧ rOk (pass2 r t (letF r t V) (letK r V)) = true ∧ totZ (pass1 r t (letF r t V) (letK r V)) = totZ r - passN r t (letF r t V) (letK r V) ∧ totZ (pass2 r t (letF r t V) (letK r V)) = totZ t + passN r t (letF r t V) (letK r V) ∧ (pass1 r t (letF r t V) (letK r V)).v = r.v - passN r t (letF r t V) (letK r V) := by
  have hf : 0 ≤ letF r t V := flowW_nn V _ _ hV
  generalize letF r t V = a at *
  generalize letK r V = k at *
  have hs := spaceR_bd t
  have hN : 0 ≤ passN r t a k ∧ passN r t a k ≤ passM t a ∧ (passN r t a k = 0 ∨ k ≤ r.v - passN r t a k) := by
    unfold passN
    cases h : takeB r (passM t a) k with
    | true => have := takeA_bd h; exact ⟨this.1, this.2.1, this.2.2.2.1⟩
    | false => rw [takeA_no h]; unfold passM; omega
  have hM : passM t a ≤ a ∧ passM t a ≤ spaceR t := by unfold passM; omega
  have e2 : pass2 r t a k = addL t (passN r t a k) := by
    unfold pass2
    exact sendR_yes (by unfold sendB; rw [ht.ok, inB_yes hN.1 (by omega)]; rfl)
  refine ⟨hN.1, by omega, hN.2.2, takeR_ok hr.ok, ?_, takeR_tot r (passM t a) k, ?_, rfl⟩
  · rw [e2]; exact addL_ok ht.ok hN.1 (by omega)
  · rw [e2]; exact addL_tot t _
/-- two reaches in two boxes, all their memory past L -/
def Two2 (L : Nat) (wx : World) (a b : Nat) (r t : Rc) : Prop := ∃ A c D d A' c' D' d', Box wx a (.slice A r.n c) (.int .i64 r.v) (.slice D r.m d) 29 ∧ Box wx b (.slice A' t.n c') (.int .i64 t.v) (.slice D' t.m d') 29 ∧ Pts wx A r.n r.X r.Y ∧ Ints wx D r.m r.Z ∧ Pts wx A' t.n t.X t.Y ∧ Ints wx D' t.m t.Z
set_option maxRecDepth 100000 in
set_option maxHeartbeats 40000000 in
theorem walk (A : Option Addr) (n cap : Nat) (f : Nat → Int) (w : World) (hn : n ≤ 9223372036854775807) (hs : SrcB w A n f) :
    Calls Try.prog 4 #[.slice A n cap] w fun e w' => e = .returned (.bool true) ∧ Below w.heap.size w w' := by
  by_cases hbig : 1048576 < n
  · go_enter Try.func4, Try.ntmps4
    go_wp2_with (go_at_call 7; refine (big_yes _ _ _ _ hbig).mono ?_; rintro e w' ⟨rfl, rfl⟩)
    go_ret
    exact ⟨rfl, Below.refl _ _⟩
  have hl : n ≤ 1048576 := by omega
  have HS := vl hs
  clear hs hbig
  go_enter Try.func4, Try.ntmps4
  go_wp2_with fail
  refine (big_no _ _ _ _ hl).mono ?_; rintro e w' ⟨rfl, rfl⟩
  go_wp2_with fail
  refine (drawreaches _ _ _ f _ hl HS.out).mono ?_
  rintro e w2 ⟨g, N, cp, R, rfl, n2, n4, hr, hrd, hb2⟩
  have HB2 := vl hb2
  have HR := vl hr
  have HRD := vl hrd
  clear hr hrd hb2
  go_wp2_with fail
  refine (drawweir _ _ _ f _ hl (HS.out.below HB2.out)).mono ?_
  rintro e w3 ⟨V, rfl, hV, hb3⟩
  have HV := vl hV
  have HB3 := vl (HB2.out.trans (hb3.mono HB2.out.size))
  have HR3 := vl (HR.out.below hb3)
  clear hV hb3 HR HB2
  go_upto_region 5 with fail
  have HW4 := vl (Box5.new w3 (.int .i64 V.g) (.int .i64 V.o) (.int .i64 V.s) (.int .i64 V.k) (.int .i64 V.w) 39)
  have hba := (Below.refl w3.heap.size w3).alloc (Nat.le_refl _) (.cells #[.int .i64 V.g, .int .i64 V.o, .int .i64 V.s, .int .i64 V.k, .int .i64 V.w] 39)
  have HB4 := vl (HB3.out.trans (hba.mono HB3.out.size))
  have HR4 := vl (HR3.out.below hba)
  clear hba HR3 HB3
  generalize hW4 : w3.alloc (.cells #[.int .i64 V.g, .int .i64 V.o, .int .i64 V.s, .int .i64 V.k, .int .i64 V.w] 39) = w4 at *
  have hb : w3.heap.size < w4.heap.size := HW4.out.lt
  clear hW4
  generalize hbb : w3.heap.size = bw at *
  clear hbb
  obtain ⟨g', o, e0, hc⟩ := HR4.out (by omega)
  injection e0 with e0
  injection e0 with e1 e2 e3
  subst e1; subst e2
  obtain ⟨A0, D0, c0, d0, x0, x1, x2, _, hp0, hi0⟩ := hc 0 (by omega)
  obtain ⟨A1, D1, c1, d1, y0, y1, y2, _, hp1, hi1⟩ := hc 1 (by omega)
  rw [Nat.zero_mul, Nat.add_zero] at x0 x1 x2
  rw [Nat.one_mul, Nat.zero_add] at y0 y1 y2
  have hd0 := HRD.out 0 (by omega)
  have hd1 := HRD.out 1 (by omega)
  have HF := vl (let_facts hd0 hd1 HV.out.ok)
  have rn := hd0.n
  have rm := hd0.m
  have tn := hd1.n
  have tm := hd1.m
  have HOr := vl hd0.ok
  have HOt := vl hd1.ok
  have HTr := vl hd0.t
  have HTt := vl hd1.t
  have HP0 := vl hp0.out
  have HI0 := vl hi0.out
  have HP1 := vl hp1.out
  have HI1 := vl hi1.out
  have hgl : g < w4.heap.size := cell_lt x0
  clear hc hp0 hi0 hp1 hi1 hd0 hd1 e3 HRD HR4
  generalize R 0 = r at *
  generalize R 1 = t at *
  obtain ⟨v0, v1, v2, v3, v4⟩ := HW4.out.at
  have q0 : 0 < N := by omega
  have q1 : (1 : Int) < (N : Int) := by omega
  have wi0 := hb
  obtain ⟨nn, hnn⟩ : ∃ nn, passN r t (letF r t V) (letK r V) = nn := ⟨_, rfl⟩
  have HNN := vl hnn
  clear hnn
  have HK := vl (fun (w' : World) (hb' : Below w4.heap.size w4 w') => (show w'.cell? ⟨g, 0, none⟩ = some (.slice A0 r.n c0) ∧ w'.cell? ⟨g, 1, none⟩ = some (.int .i64 r.v) ∧ w'.cell? ⟨g, 2, none⟩ = some (.slice D0 r.m d0) ∧ w'.cell? ⟨g, 3, none⟩ = some (.slice A1 t.n c1) ∧ w'.cell? ⟨g, 4, none⟩ = some (.int .i64 t.v) ∧ w'.cell? ⟨g, 5, none⟩ = some (.slice D1 t.m d1) ∧ w'.cell? ⟨bw, 0, none⟩ = some (.int .i64 V.g) ∧ w'.cell? ⟨bw, 1, none⟩ = some (.int .i64 V.o) ∧ w'.cell? ⟨bw, 2, none⟩ = some (.int .i64 V.s) ∧ w'.cell? ⟨bw, 3, none⟩ = some (.int .i64 V.k) ∧ w'.cell? ⟨bw, 4, none⟩ = some (.int .i64 V.w) ∧ Below w4.heap.size w4 w' from ⟨(hb'.cell (cell_lt' x0)).trans x0, (hb'.cell (cell_lt' x1)).trans x1, (hb'.cell (cell_lt' x2)).trans x2, (hb'.cell (cell_lt' y0)).trans y0, (hb'.cell (cell_lt' y1)).trans y1, (hb'.cell (cell_lt' y2)).trans y2, (hb'.cell (cell_lt' v0)).trans v0, (hb'.cell (cell_lt' v1)).trans v1, (hb'.cell (cell_lt' v2)).trans v2, (hb'.cell (cell_lt' v3)).trans v3, (hb'.cell (cell_lt' v4)).trans v4, hb'⟩))
  go_cut [5, 6, 7] (fun s0 s1 s2 wx => ∃ a b : Nat, s0 = .pointer (some ⟨a, 0, none⟩) ∧ s1 = .pointer (some ⟨b, 0, none⟩) ∧ s2 = .int .i64 nn ∧ Veil (Two2 w4.heap.size wx a b (pass1 r t (letF r t V) (letK r V)) (pass2 r t (letF r t V) (letK r V))) ∧ Veil (Below w4.heap.size w4 wx))
  case first =>
    refine wp_region_held_drew (S := fun w' => w'.cell? ⟨g, 0, none⟩ = some (.slice A0 r.n c0) ∧ w'.cell? ⟨g, 1, none⟩ = some (.int .i64 r.v) ∧ w'.cell? ⟨g, 2, none⟩ = some (.slice D0 r.m d0) ∧ w'.cell? ⟨g, 3, none⟩ = some (.slice A1 t.n c1) ∧ w'.cell? ⟨g, 4, none⟩ = some (.int .i64 t.v) ∧ w'.cell? ⟨g, 5, none⟩ = some (.slice D1 t.m d1) ∧ w'.cell? ⟨bw, 0, none⟩ = some (.int .i64 V.g) ∧ w'.cell? ⟨bw, 1, none⟩ = some (.int .i64 V.o) ∧ w'.cell? ⟨bw, 2, none⟩ = some (.int .i64 V.s) ∧ w'.cell? ⟨bw, 3, none⟩ = some (.int .i64 V.k) ∧ w'.cell? ⟨bw, 4, none⟩ = some (.int .i64 V.w) ∧ Below w4.heap.size w4 w') (by kernel_rfl) (HK.out _ (Below.refl _ _).drew) (fun hHeld0 => ?_)
    clear x0 x1 x2 y0 y1 y2 v0 v1 v2 v3 v4
    try dsimp only at hHeld0
    have s0 : w4.heap.size ≤ w4.drew.heap.size := hHeld0.2.2.2.2.2.2.2.2.2.2.2.size
    generalize w4.drew = u0 at *
    refine wpAnyH_take (i := 0) (oi := _) (v := ?_) rfl (by kernel_rfl) (by kernel_rfl) (by kernel_rfl) (fun _ _ _ h => h) (Or.inl ⟨by rfl, ?_⟩) (by assumption) ?_
    rotate_left 1
    · intro w hSw
      try dsimp only at hSw
      go_simp
      try with_reducible rfl
    try simp only [Act.put, List.getElem_toArray, List.getElem_cons_succ, List.getElem_cons_zero, List.setIfInBounds_toArray, List.set_cons_zero, List.set_cons_succ]
    refine wpAnyH_take (i := 1) (oi := _) (v := ?_) rfl (by kernel_rfl) (by kernel_rfl) (by kernel_rfl) (fun _ _ _ h => h) (Or.inl ⟨by rfl, ?_⟩) (by assumption) ?_
    rotate_left 1
    · intro w hSw
      try dsimp only at hSw
      go_simp
      try with_reducible rfl
    try simp only [Act.put, List.getElem_toArray, List.getElem_cons_succ, List.getElem_cons_zero, List.setIfInBounds_toArray, List.set_cons_zero, List.set_cons_succ]
    refine wpAnyH_take (i := 2) (oi := _) (v := ?_) rfl (by kernel_rfl) (by kernel_rfl) (by kernel_rfl) (fun _ _ _ h => h) (Or.inl ⟨by rfl, ?_⟩) (by assumption) ?_
    rotate_left 1
    · intro w hSw
      try dsimp only at hSw
      go_simp
      try with_reducible rfl
    try simp only [Act.put, List.getElem_toArray, List.getElem_cons_succ, List.getElem_cons_zero, List.setIfInBounds_toArray, List.set_cons_zero, List.set_cons_succ]
    refine wpAnyH_take (i := 3) (oi := _) (v := ?_) rfl (by kernel_rfl) (by kernel_rfl) (by kernel_rfl) (fun _ _ _ h => h) (Or.inl ⟨by rfl, ?_⟩) (by assumption) ?_
    rotate_left 1
    · intro w hSw
      try dsimp only at hSw
      go_simp
      try with_reducible rfl
    try simp only [Act.put, List.getElem_toArray, List.getElem_cons_succ, List.getElem_cons_zero, List.setIfInBounds_toArray, List.set_cons_zero, List.set_cons_succ]
    refine wpAnyH_take (i := 4) (oi := _) (v := ?_) rfl (by kernel_rfl) (by kernel_rfl) (by kernel_rfl) (fun _ _ _ h => h) (Or.inl ⟨by rfl, ?_⟩) (by assumption) ?_
    rotate_left 1
    · intro w hSw
      try dsimp only at hSw
      go_simp
      try with_reducible rfl
    try simp only [Act.put, List.getElem_toArray, List.getElem_cons_succ, List.getElem_cons_zero, List.setIfInBounds_toArray, List.set_cons_zero, List.set_cons_succ]
    refine wpAnyH_take (i := 5) (oi := _) (v := ?_) rfl (by kernel_rfl) (by kernel_rfl) (by kernel_rfl) (fun _ _ _ h => h) (Or.inl ⟨by rfl, ?_⟩) (by assumption) ?_
    rotate_left 1
    · intro w hSw
      try dsimp only at hSw
      go_simp
      try with_reducible rfl
    try simp only [Act.put, List.getElem_toArray, List.getElem_cons_succ, List.getElem_cons_zero, List.setIfInBounds_toArray, List.set_cons_zero, List.set_cons_succ]
    refine wpAnyH_take (i := 6) (oi := _) (v := ?_) rfl (by kernel_rfl) (by kernel_rfl) (by kernel_rfl) (fun _ _ _ h => h) (Or.inl ⟨by rfl, ?_⟩) (by assumption) ?_
    rotate_left 1
    · intro w hSw
      try dsimp only at hSw
      go_simp
      try with_reducible rfl
    try simp only [Act.put, List.getElem_toArray, List.getElem_cons_succ, List.getElem_cons_zero, List.setIfInBounds_toArray, List.set_cons_zero, List.set_cons_succ]
    refine wpAnyH_ready (rs := [7, 12, 13]) (by kernel_rfl) (by simp) ?_
    refine AllReadyH.cons (o := _) rfl (fun K hK => ?_) (AllReadyH.cons (o := _) rfl (fun K hK => ?_) (AllReadyH.cons (o := _) rfl (fun K hK => ?_) AllReadyH.nil))
    · have hBk := hHeld0.2.2.2.2.2.2.2.2.2.2.2
      go_simp
      go_at_call 15
      with_reducible refine (let_impl r t A0 D0 A1 D1 c0 d0 c1 d1 V _ (by omega) (by omega) (by omega) (by omega) (HP0.out.below hBk) (HI0.out.below hBk) (HP1.out.below hBk) (HI1.out.below hBk)).mono ?_
      rintro e u1 ⟨⟨A5, c5, D5, d5, g1, g2, A6, c6, D6, d6, g3, g4, M, rfl, _, _, ho5, ho6, hM1, hM2⟩, hb'⟩
      have HO5 := vl ho5
      have HO6 := vl ho6
      clear ho5 ho6
      rw [HNN.out]
      have hB1 := hBk.trans (hb'.mono hBk.size)
      have z1 := hb'.size
      clear hBk hb'
      refine hK.out _ _ (HK.out _ hB1) (fun hHeld1 => ?_)
      clear hK K
      try dsimp only at hHeld1
      try simp only [Act.put, List.getElem_toArray, List.getElem_cons_succ, List.getElem_cons_zero, List.setIfInBounds_toArray, List.set_cons_zero, List.set_cons_succ]
      refine wpAnyH_take (i := 8) (oi := _) (v := ?_) rfl (by kernel_rfl) (by kernel_rfl) (by kernel_rfl) (fun _ _ _ h => h) (Or.inl ⟨by rfl, ?_⟩) (by assumption) ?_
      rotate_left 1
      · intro w hSw
        try dsimp only at hSw
        go_simp
        try with_reducible rfl
      try simp only [Act.put, List.getElem_toArray, List.getElem_cons_succ, List.getElem_cons_zero, List.setIfInBounds_toArray, List.set_cons_zero, List.set_cons_succ]
      refine wpAnyH_take (i := 9) (oi := _) (v := ?_) rfl (by kernel_rfl) (by kernel_rfl) (by kernel_rfl) (fun _ _ _ h => h) (Or.inl ⟨by rfl, ?_⟩) (by assumption) ?_
      rotate_left 1
      · intro w hSw
        try dsimp only at hSw
        go_simp
        try with_reducible rfl
      try simp only [Act.put, List.getElem_toArray, List.getElem_cons_succ, List.getElem_cons_zero, List.setIfInBounds_toArray, List.set_cons_zero, List.set_cons_succ]
      refine wpAnyH_take (i := 10) (oi := _) (v := ?_) rfl (by kernel_rfl) (by kernel_rfl) (by kernel_rfl) (fun _ _ _ h => h) (Or.inl ⟨by rfl, ?_⟩) (by assumption) ?_
      rotate_left 1
      · intro w hSw
        try dsimp only at hSw
        go_simp
        try with_reducible rfl
      try simp only [Act.put, List.getElem_toArray, List.getElem_cons_succ, List.getElem_cons_zero, List.setIfInBounds_toArray, List.set_cons_zero, List.set_cons_succ]
      refine wpAnyH_take (i := 11) (oi := _) (v := ?_) rfl (by kernel_rfl) (by kernel_rfl) (by kernel_rfl) (fun _ _ _ h => h) (Or.inl ⟨by rfl, ?_⟩) (by assumption) ?_
      rotate_left 1
      · intro w hSw
        try dsimp only at hSw
        go_simp
        try with_reducible rfl
      try simp only [Act.put, List.getElem_toArray, List.getElem_cons_succ, List.getElem_cons_zero, List.setIfInBounds_toArray, List.set_cons_zero, List.set_cons_succ]
      refine wpAnyH_ready (rs := [12, 13]) (by kernel_rfl) (by simp) ?_
      refine AllReadyH.cons (o := _) rfl (fun K hK => ?_) (AllReadyH.cons (o := _) rfl (fun K hK => ?_) AllReadyH.nil)
      · have hBk := hHeld1.2.2.2.2.2.2.2.2.2.2.2
        go_simp
        have HX := vl (Box.new u1 (.slice none 0 0) (.int .i64 0) (.slice none 0 0) 29)
        have hb' := (Below.refl u1.heap.size u1).alloc (Nat.le_refl _) (.cells #[.slice none 0 0, .int .i64 0, .slice none 0 0] 29)
        generalize hu : u1.alloc (.cells #[.slice none 0 0, .int .i64 0, .slice none 0 0] 29) = u2 at *
        clear hu
        have lHX := HX.out.lt
        replace HO5 := vl (HO5.out.below hb')
        replace HO6 := vl (HO6.out.below hb')
        have hB2 := hBk.trans (hb'.mono hBk.size)
        have z2 := hb'.size
        clear hBk hb'
        refine hK.out _ _ (HK.out _ hB2) (fun hHeld2 => ?_)
        clear hK K
        try dsimp only at hHeld2
        try simp only [Act.put, List.getElem_toArray, List.getElem_cons_succ, List.getElem_cons_zero, List.setIfInBounds_toArray, List.set_cons_zero, List.set_cons_succ]
        refine wpAnyH_ready (rs := [13]) (by kernel_rfl) (by simp) ?_
        refine AllReadyH.cons (o := _) rfl (fun K hK => ?_) AllReadyH.nil
        · have hBk := hHeld2.2.2.2.2.2.2.2.2.2.2.2
          go_simp
          have HY := vl (Box.new u2 (.slice none 0 0) (.int .i64 0) (.slice none 0 0) 29)
          have hb' := (Below.refl u2.heap.size u2).alloc (Nat.le_refl _) (.cells #[.slice none 0 0, .int .i64 0, .slice none 0 0] 29)
          generalize hu : u2.alloc (.cells #[.slice none 0 0, .int .i64 0, .slice none 0 0] 29) = u3 at *
          clear hu
          have lHY := HY.out.lt
          replace HX := vl (HX.out.below hb')
          replace HO5 := vl (HO5.out.below hb')
          replace HO6 := vl (HO6.out.below hb')
          have hB3 := hBk.trans (hb'.mono hBk.size)
          have z3 := hb'.size
          clear hBk hb'
          refine hK.out _ _ (HK.out _ hB3) (fun hHeld3 => ?_)
          clear hK K
          try dsimp only at hHeld3
          try simp only [Act.put, List.getElem_toArray, List.getElem_cons_succ, List.getElem_cons_zero, List.setIfInBounds_toArray, List.set_cons_zero, List.set_cons_succ]
          obtain ⟨p0, p1, p2⟩ := HX.out.at
          obtain ⟨f0, f1, f2⟩ := HX.out.free
          have hBk := hHeld3.2.2.2.2.2.2.2.2.2.2.2
          refine wpAnyH_ready (rs := [14]) (by kernel_rfl) (by simp) ?_
          refine AllReadyH.cons (o := _) rfl (fun K hK => ?_) AllReadyH.nil
          go_simp
          clear p0 p1 p2 f0 f1 f2
          have hbj : ∀ j : Nat, w4.heap.size ≤ (⟨u1.heap.size, j, none⟩ : Addr).block := fun j => by dsimp only; omega
          have hB4 := ((hBk.setCell (hbj 0) (.slice A5 (pass1 r t (letF r t V) (letK r V)).n c5)).setCell (hbj 1) (.int .i64 (pass1 r t (letF r t V) (letK r V)).v)).setCell (hbj 2) (.slice D5 (pass1 r t (letF r t V) (letK r V)).m d5)
          replace HO5 := vl (HO5.out.fill (g := u1.heap.size) (u0 := .slice A5 (pass1 r t (letF r t V) (letK r V)).n c5) (u1 := .int .i64 (pass1 r t (letF r t V) (letK r V)).v) (u2 := .slice D5 (pass1 r t (letF r t V) (letK r V)).m d5) (by omega))
          replace HO6 := vl (HO6.out.fill (g := u1.heap.size) (u0 := .slice A5 (pass1 r t (letF r t V) (letK r V)).n c5) (u1 := .int .i64 (pass1 r t (letF r t V) (letK r V)).v) (u2 := .slice D5 (pass1 r t (letF r t V) (letK r V)).m d5) (by omega))
          replace HY := vl (HY.out.touch (touch3 (g := u1.heap.size) (.slice A5 (pass1 r t (letF r t V) (letK r V)).n c5) (.int .i64 (pass1 r t (letF r t V) (letK r V)).v) (.slice D5 (pass1 r t (letF r t V) (letK r V)).m d5)) (by omega))
          replace HX := vl (HX.out.fill (u0 := .slice A5 (pass1 r t (letF r t V) (letK r V)).n c5) (u1 := .int .i64 (pass1 r t (letF r t V) (letK r V)).v) (u2 := .slice D5 (pass1 r t (letF r t V) (letK r V)).m d5))
          generalize hu : ((u3.setCell ⟨u1.heap.size, 0, none⟩ (.slice A5 (pass1 r t (letF r t V) (letK r V)).n c5)).setCell ⟨u1.heap.size, 1, none⟩ (.int .i64 (pass1 r t (letF r t V) (letK r V)).v)).setCell ⟨u1.heap.size, 2, none⟩ (.slice D5 (pass1 r t (letF r t V) (letK r V)).m d5) = u4 at *
          clear hu hbj hBk
          refine hK.out _ _ (HK.out _ hB4) (fun hHeld4 => ?_)
          clear hK K
          try dsimp only at hHeld4
          try simp only [Act.put, List.getElem_toArray, List.getElem_cons_succ, List.getElem_cons_zero, List.setIfInBounds_toArray, List.set_cons_zero, List.set_cons_succ]
          obtain ⟨p0, p1, p2⟩ := HY.out.at
          obtain ⟨f0, f1, f2⟩ := HY.out.free
          have hBk := hHeld4.2.2.2.2.2.2.2.2.2.2.2
          refine wpAnyH_ready (rs := [15]) (by kernel_rfl) (by simp) ?_
          refine AllReadyH.cons (o := _) rfl (fun K hK => ?_) AllReadyH.nil
          go_simp
          clear p0 p1 p2 f0 f1 f2
          have hbj : ∀ j : Nat, w4.heap.size ≤ (⟨u2.heap.size, j, none⟩ : Addr).block := fun j => by dsimp only; omega
          have hB5 := ((hBk.setCell (hbj 0) (.slice A6 (pass2 r t (letF r t V) (letK r V)).n c6)).setCell (hbj 1) (.int .i64 (pass2 r t (letF r t V) (letK r V)).v)).setCell (hbj 2) (.slice D6 (pass2 r t (letF r t V) (letK r V)).m d6)
          replace HO5 := vl (HO5.out.fill (g := u2.heap.size) (u0 := .slice A6 (pass2 r t (letF r t V) (letK r V)).n c6) (u1 := .int .i64 (pass2 r t (letF r t V) (letK r V)).v) (u2 := .slice D6 (pass2 r t (letF r t V) (letK r V)).m d6) (by omega))
          replace HO6 := vl (HO6.out.fill (g := u2.heap.size) (u0 := .slice A6 (pass2 r t (letF r t V) (letK r V)).n c6) (u1 := .int .i64 (pass2 r t (letF r t V) (letK r V)).v) (u2 := .slice D6 (pass2 r t (letF r t V) (letK r V)).m d6) (by omega))
          replace HX := vl (HX.out.touch (touch3 (g := u2.heap.size) (.slice A6 (pass2 r t (letF r t V) (letK r V)).n c6) (.int .i64 (pass2 r t (letF r t V) (letK r V)).v) (.slice D6 (pass2 r t (letF r t V) (letK r V)).m d6)) (by omega))
          replace HY := vl (HY.out.fill (u0 := .slice A6 (pass2 r t (letF r t V) (letK r V)).n c6) (u1 := .int .i64 (pass2 r t (letF r t V) (letK r V)).v) (u2 := .slice D6 (pass2 r t (letF r t V) (letK r V)).m d6))
          generalize hu : ((u4.setCell ⟨u2.heap.size, 0, none⟩ (.slice A6 (pass2 r t (letF r t V) (letK r V)).n c6)).setCell ⟨u2.heap.size, 1, none⟩ (.int .i64 (pass2 r t (letF r t V) (letK r V)).v)).setCell ⟨u2.heap.size, 2, none⟩ (.slice D6 (pass2 r t (letF r t V) (letK r V)).m d6) = u5 at *
          clear hu hbj hBk
          refine hK.out _ _ (HK.out _ hB5) (fun hHeld5 => ?_)
          clear hK K
          try dsimp only at hHeld5
          try simp only [Act.put, List.getElem_toArray, List.getElem_cons_succ, List.getElem_cons_zero, List.setIfInBounds_toArray, List.set_cons_zero, List.set_cons_succ]
          refine wpAnyH_take (i := 16) (oi := _) (v := ?_) rfl (by kernel_rfl) (by kernel_rfl) (by kernel_rfl) (fun _ _ _ h => h) (Or.inl ⟨by rfl, ?_⟩) (by assumption) ?_
          rotate_left 1
          · intro w hSw
            try dsimp only at hSw
            go_simp
            try with_reducible rfl
          try simp only [Act.put, List.getElem_toArray, List.getElem_cons_succ, List.getElem_cons_zero, List.setIfInBounds_toArray, List.set_cons_zero, List.set_cons_succ]
          refine wpAnyH_done (by kernel_rfl) ?_ _
          go_simp
          go_wp2_with fail
          go_meet
          exact ⟨_, _, rfl, rfl, rfl, vl ⟨A5, c5, D5, d5, A6, c6, D6, d6, HX.out, HY.out, HO5.out.pts, HO5.out.ints, HO6.out.pts, HO6.out.ints⟩, vl hHeld5.2.2.2.2.2.2.2.2.2.2.2⟩
      · have hBk := hHeld1.2.2.2.2.2.2.2.2.2.2.2
        go_simp
        have HY := vl (Box.new u1 (.slice none 0 0) (.int .i64 0) (.slice none 0 0) 29)
        have hb' := (Below.refl u1.heap.size u1).alloc (Nat.le_refl _) (.cells #[.slice none 0 0, .int .i64 0, .slice none 0 0] 29)
        generalize hu : u1.alloc (.cells #[.slice none 0 0, .int .i64 0, .slice none 0 0] 29) = u2 at *
        clear hu
        have lHY := HY.out.lt
        replace HO5 := vl (HO5.out.below hb')
        replace HO6 := vl (HO6.out.below hb')
        have hB2 := hBk.trans (hb'.mono hBk.size)
        have z2 := hb'.size
        clear hBk hb'
        refine hK.out _ _ (HK.out _ hB2) (fun hHeld2 => ?_)
        clear hK K
        try dsimp only at hHeld2
        try simp only [Act.put, List.getElem_toArray, List.getElem_cons_succ, List.getElem_cons_zero, List.setIfInBounds_toArray, List.set_cons_zero, List.set_cons_succ]
        refine wpAnyH_ready (rs := [12]) (by kernel_rfl) (by simp) ?_
        refine AllReadyH.cons (o := _) rfl (fun K hK => ?_) AllReadyH.nil
        · have hBk := hHeld2.2.2.2.2.2.2.2.2.2.2.2
          go_simp
          have HX := vl (Box.new u2 (.slice none 0 0) (.int .i64 0) (.slice none 0 0) 29)
          have hb' := (Below.refl u2.heap.size u2).alloc (Nat.le_refl _) (.cells #[.slice none 0 0, .int .i64 0, .slice none 0 0] 29)
          generalize hu : u2.alloc (.cells #[.slice none 0 0, .int .i64 0, .slice none 0 0] 29) = u3 at *
          clear hu
          have lHX := HX.out.lt
          replace HY := vl (HY.out.below hb')
          replace HO5 := vl (HO5.out.below hb')
          replace HO6 := vl (HO6.out.below hb')
          have hB3 := hBk.trans (hb'.mono hBk.size)
          have z3 := hb'.size
          clear hBk hb'
          refine hK.out _ _ (HK.out _ hB3) (fun hHeld3 => ?_)
          clear hK K
          try dsimp only at hHeld3
          try simp only [Act.put, List.getElem_toArray, List.getElem_cons_succ, List.getElem_cons_zero, List.setIfInBounds_toArray, List.set_cons_zero, List.set_cons_succ]
          obtain ⟨p0, p1, p2⟩ := HX.out.at
          obtain ⟨f0, f1, f2⟩ := HX.out.free
          have hBk := hHeld3.2.2.2.2.2.2.2.2.2.2.2
          refine wpAnyH_ready (rs := [14]) (by kernel_rfl) (by simp) ?_
          refine AllReadyH.cons (o := _) rfl (fun K hK => ?_) AllReadyH.nil
          go_simp
          clear p0 p1 p2 f0 f1 f2
          have hbj : ∀ j : Nat, w4.heap.size ≤ (⟨u2.heap.size, j, none⟩ : Addr).block := fun j => by dsimp only; omega
          have hB4 := ((hBk.setCell (hbj 0) (.slice A5 (pass1 r t (letF r t V) (letK r V)).n c5)).setCell (hbj 1) (.int .i64 (pass1 r t (letF r t V) (letK r V)).v)).setCell (hbj 2) (.slice D5 (pass1 r t (letF r t V) (letK r V)).m d5)
          replace HO5 := vl (HO5.out.fill (g := u2.heap.size) (u0 := .slice A5 (pass1 r t (letF r t V) (letK r V)).n c5) (u1 := .int .i64 (pass1 r t (letF r t V) (letK r V)).v) (u2 := .slice D5 (pass1 r t (letF r t V) (letK r V)).m d5) (by omega))
          replace HO6 := vl (HO6.out.fill (g := u2.heap.size) (u0 := .slice A5 (pass1 r t (letF r t V) (letK r V)).n c5) (u1 := .int .i64 (pass1 r t (letF r t V) (letK r V)).v) (u2 := .slice D5 (pass1 r t (letF r t V) (letK r V)).m d5) (by omega))
          replace HY := vl (HY.out.touch (touch3 (g := u2.heap.size) (.slice A5 (pass1 r t (letF r t V) (letK r V)).n c5) (.int .i64 (pass1 r t (letF r t V) (letK r V)).v) (.slice D5 (pass1 r t (letF r t V) (letK r V)).m d5)) (by omega))
          replace HX := vl (HX.out.fill (u0 := .slice A5 (pass1 r t (letF r t V) (letK r V)).n c5) (u1 := .int .i64 (pass1 r t (letF r t V) (letK r V)).v) (u2 := .slice D5 (pass1 r t (letF r t V) (letK r V)).m d5))
          generalize hu : ((u3.setCell ⟨u2.heap.size, 0, none⟩ (.slice A5 (pass1 r t (letF r t V) (letK r V)).n c5)).setCell ⟨u2.heap.size, 1, none⟩ (.int .i64 (pass1 r t (letF r t V) (letK r V)).v)).setCell ⟨u2.heap.size, 2, none⟩ (.slice D5 (pass1 r t (letF r t V) (letK r V)).m d5) = u4 at *
          clear hu hbj hBk
          refine hK.out _ _ (HK.out _ hB4) (fun hHeld4 => ?_)
          clear hK K
          try dsimp only at hHeld4
          try simp only [Act.put, List.getElem_toArray, List.getElem_cons_succ, List.getElem_cons_zero, List.setIfInBounds_toArray, List.set_cons_zero, List.set_cons_succ]
          obtain ⟨p0, p1, p2⟩ := HY.out.at
          obtain ⟨f0, f1, f2⟩ := HY.out.free
          have hBk := hHeld4.2.2.2.2.2.2.2.2.2.2.2
          refine wpAnyH_ready (rs := [15]) (by kernel_rfl) (by simp) ?_
          refine AllReadyH.cons (o := _) rfl (fun K hK => ?_) AllReadyH.nil
          go_simp
          clear p0 p1 p2 f0 f1 f2
          have hbj : ∀ j : Nat, w4.heap.size ≤ (⟨u1.heap.size, j, none⟩ : Addr).block := fun j => by dsimp only; omega
          have hB5 := ((hBk.setCell (hbj 0) (.slice A6 (pass2 r t (letF r t V) (letK r V)).n c6)).setCell (hbj 1) (.int .i64 (pass2 r t (letF r t V) (letK r V)).v)).setCell (hbj 2) (.slice D6 (pass2 r t (letF r t V) (letK r V)).m d6)
          replace HO5 := vl (HO5.out.fill (g := u1.heap.size) (u0 := .slice A6 (pass2 r t (letF r t V) (letK r V)).n c6) (u1 := .int .i64 (pass2 r t (letF r t V) (letK r V)).v) (u2 := .slice D6 (pass2 r t (letF r t V) (letK r V)).m d6) (by omega))
          replace HO6 := vl (HO6.out.fill (g := u1.heap.size) (u0 := .slice A6 (pass2 r t (letF r t V) (letK r V)).n c6) (u1 := .int .i64 (pass2 r t (letF r t V) (letK r V)).v) (u2 := .slice D6 (pass2 r t (letF r t V) (letK r V)).m d6) (by omega))
          replace HX := vl (HX.out.touch (touch3 (g := u1.heap.size) (.slice A6 (pass2 r t (letF r t V) (letK r V)).n c6) (.int .i64 (pass2 r t (letF r t V) (letK r V)).v) (.slice D6 (pass2 r t (letF r t V) (letK r V)).m d6)) (by omega))
          replace HY := vl (HY.out.fill (u0 := .slice A6 (pass2 r t (letF r t V) (letK r V)).n c6) (u1 := .int .i64 (pass2 r t (letF r t V) (letK r V)).v) (u2 := .slice D6 (pass2 r t (letF r t V) (letK r V)).m d6))
          generalize hu : ((u4.setCell ⟨u1.heap.size, 0, none⟩ (.slice A6 (pass2 r t (letF r t V) (letK r V)).n c6)).setCell ⟨u1.heap.size, 1, none⟩ (.int .i64 (pass2 r t (letF r t V) (letK r V)).v)).setCell ⟨u1.heap.size, 2, none⟩ (.slice D6 (pass2 r t (letF r t V) (letK r V)).m d6) = u5 at *
          clear hu hbj hBk
          refine hK.out _ _ (HK.out _ hB5) (fun hHeld5 => ?_)
          clear hK K
          try dsimp only at hHeld5
          try simp only [Act.put, List.getElem_toArray, List.getElem_cons_succ, List.getElem_cons_zero, List.setIfInBounds_toArray, List.set_cons_zero, List.set_cons_succ]
          refine wpAnyH_take (i := 16) (oi := _) (v := ?_) rfl (by kernel_rfl) (by kernel_rfl) (by kernel_rfl) (fun _ _ _ h => h) (Or.inl ⟨by rfl, ?_⟩) (by assumption) ?_
          rotate_left 1
          · intro w hSw
            try dsimp only at hSw
            go_simp
            try with_reducible rfl
          try simp only [Act.put, List.getElem_toArray, List.getElem_cons_succ, List.getElem_cons_zero, List.setIfInBounds_toArray, List.set_cons_zero, List.set_cons_succ]
          refine wpAnyH_done (by kernel_rfl) ?_ _
          go_simp
          go_wp2_with fail
          go_meet
          exact ⟨_, _, rfl, rfl, rfl, vl ⟨A5, c5, D5, d5, A6, c6, D6, d6, HX.out, HY.out, HO5.out.pts, HO5.out.ints, HO6.out.pts, HO6.out.ints⟩, vl hHeld5.2.2.2.2.2.2.2.2.2.2.2⟩
    · have hBk := hHeld0.2.2.2.2.2.2.2.2.2.2.2
      go_simp
      have HX := vl (Box.new u0 (.slice none 0 0) (.int .i64 0) (.slice none 0 0) 29)
      have hb' := (Below.refl u0.heap.size u0).alloc (Nat.le_refl _) (.cells #[.slice none 0 0, .int .i64 0, .slice none 0 0] 29)
      generalize hu : u0.alloc (.cells #[.slice none 0 0, .int .i64 0, .slice none 0 0] 29) = u1 at *
      clear hu
      have lHX := HX.out.lt
      have hB1 := hBk.trans (hb'.mono hBk.size)
      have z1 := hb'.size
      clear hBk hb'
      refine hK.out _ _ (HK.out _ hB1) (fun hHeld1 => ?_)
      clear hK K
      try dsimp only at hHeld1
      try simp only [Act.put, List.getElem_toArray, List.getElem_cons_succ, List.getElem_cons_zero, List.setIfInBounds_toArray, List.set_cons_zero, List.set_cons_succ]
      refine wpAnyH_ready (rs := [7, 13]) (by kernel_rfl) (by simp) ?_
      refine AllReadyH.cons (o := _) rfl (fun K hK => ?_) (AllReadyH.cons (o := _) rfl (fun K hK => ?_) AllReadyH.nil)
      · have hBk := hHeld1.2.2.2.2.2.2.2.2.2.2.2
        go_simp
        go_at_call 15
        with_reducible refine (let_impl r t A0 D0 A1 D1 c0 d0 c1 d1 V _ (by omega) (by omega) (by omega) (by omega) (HP0.out.below hBk) (HI0.out.below hBk) (HP1.out.below hBk) (HI1.out.below hBk)).mono ?_
        rintro e u2 ⟨⟨A5, c5, D5, d5, g1, g2, A6, c6, D6, d6, g3, g4, M, rfl, _, _, ho5, ho6, hM1, hM2⟩, hb'⟩
        have HO5 := vl ho5
        have HO6 := vl ho6
        clear ho5 ho6
        rw [HNN.out]
        replace HX := vl (HX.out.below hb')
        have hB2 := hBk.trans (hb'.mono hBk.size)
        have z2 := hb'.size
        clear hBk hb'
        refine hK.out _ _ (HK.out _ hB2) (fun hHeld2 => ?_)
        clear hK K
        try dsimp only at hHeld2
        try simp only [Act.put, List.getElem_toArray, List.getElem_cons_succ, List.getElem_cons_zero, List.setIfInBounds_toArray, List.set_cons_zero, List.set_cons_succ]
        refine wpAnyH_take (i := 8) (oi := _) (v := ?_) rfl (by kernel_rfl) (by kernel_rfl) (by kernel_rfl) (fun _ _ _ h => h) (Or.inl ⟨by rfl, ?_⟩) (by assumption) ?_
        rotate_left 1
        · intro w hSw
          try dsimp only at hSw
          go_simp
          try with_reducible rfl
        try simp only [Act.put, List.getElem_toArray, List.getElem_cons_succ, List.getElem_cons_zero, List.setIfInBounds_toArray, List.set_cons_zero, List.set_cons_succ]
        refine wpAnyH_take (i := 9) (oi := _) (v := ?_) rfl (by kernel_rfl) (by kernel_rfl) (by kernel_rfl) (fun _ _ _ h => h) (Or.inl ⟨by rfl, ?_⟩) (by assumption) ?_
        rotate_left 1
        · intro w hSw
          try dsimp only at hSw
          go_simp
          try with_reducible rfl
        try simp only [Act.put, List.getElem_toArray, List.getElem_cons_succ, List.getElem_cons_zero, List.setIfInBounds_toArray, List.set_cons_zero, List.set_cons_succ]
        refine wpAnyH_take (i := 10) (oi := _) (v := ?_) rfl (by kernel_rfl) (by kernel_rfl) (by kernel_rfl) (fun _ _ _ h => h) (Or.inl ⟨by rfl, ?_⟩) (by assumption) ?_
        rotate_left 1
        · intro w hSw
          try dsimp only at hSw
          go_simp
          try with_reducible rfl
        try simp only [Act.put, List.getElem_toArray, List.getElem_cons_succ, List.getElem_cons_zero, List.setIfInBounds_toArray, List.set_cons_zero, List.set_cons_succ]
        refine wpAnyH_take (i := 11) (oi := _) (v := ?_) rfl (by kernel_rfl) (by kernel_rfl) (by kernel_rfl) (fun _ _ _ h => h) (Or.inl ⟨by rfl, ?_⟩) (by assumption) ?_
        rotate_left 1
        · intro w hSw
          try dsimp only at hSw
          go_simp
          try with_reducible rfl
        try simp only [Act.put, List.getElem_toArray, List.getElem_cons_succ, List.getElem_cons_zero, List.setIfInBounds_toArray, List.set_cons_zero, List.set_cons_succ]
        refine wpAnyH_ready (rs := [13]) (by kernel_rfl) (by simp) ?_
        refine AllReadyH.cons (o := _) rfl (fun K hK => ?_) AllReadyH.nil
        · have hBk := hHeld2.2.2.2.2.2.2.2.2.2.2.2
          go_simp
          have HY := vl (Box.new u2 (.slice none 0 0) (.int .i64 0) (.slice none 0 0) 29)
          have hb' := (Below.refl u2.heap.size u2).alloc (Nat.le_refl _) (.cells #[.slice none 0 0, .int .i64 0, .slice none 0 0] 29)
          generalize hu : u2.alloc (.cells #[.slice none 0 0, .int .i64 0, .slice none 0 0] 29) = u3 at *
          clear hu
          have lHY := HY.out.lt
          replace HX := vl (HX.out.below hb')
          replace HO5 := vl (HO5.out.below hb')
          replace HO6 := vl (HO6.out.below hb')
          have hB3 := hBk.trans (hb'.mono hBk.size)
          have z3 := hb'.size
          clear hBk hb'
          refine hK.out _ _ (HK.out _ hB3) (fun hHeld3 => ?_)
          clear hK K
          try dsimp only at hHeld3
          try simp only [Act.put, List.getElem_toArray, List.getElem_cons_succ, List.getElem_cons_zero, List.setIfInBounds_toArray, List.set_cons_zero, List.set_cons_succ]
          obtain ⟨p0, p1, p2⟩ := HX.out.at
          obtain ⟨f0, f1, f2⟩ := HX.out.free
          have hBk := hHeld3.2.2.2.2.2.2.2.2.2.2.2
          refine wpAnyH_ready (rs := [14]) (by kernel_rfl) (by simp) ?_
          refine AllReadyH.cons (o := _) rfl (fun K hK => ?_) AllReadyH.nil
          go_simp
          clear p0 p1 p2 f0 f1 f2
          have hbj : ∀ j : Nat, w4.heap.size ≤ (⟨u0.heap.size, j, none⟩ : Addr).block := fun j => by dsimp only; omega
          have hB4 := ((hBk.setCell (hbj 0) (.slice A5 (pass1 r t (letF r t V) (letK r V)).n c5)).setCell (hbj 1) (.int .i64 (pass1 r t (letF r t V) (letK r V)).v)).setCell (hbj 2) (.slice D5 (pass1 r t (letF r t V) (letK r V)).m d5)
          replace HO5 := vl (HO5.out.fill (g := u0.heap.size) (u0 := .slice A5 (pass1 r t (letF r t V) (letK r V)).n c5) (u1 := .int .i64 (pass1 r t (letF r t V) (letK r V)).v) (u2 := .slice D5 (pass1 r t (letF r t V) (letK r V)).m d5) (by omega))
          replace HO6 := vl (HO6.out.fill (g := u0.heap.size) (u0 := .slice A5 (pass1 r t (letF r t V) (letK r V)).n c5) (u1 := .int .i64 (pass1 r t (letF r t V) (letK r V)).v) (u2 := .slice D5 (pass1 r t (letF r t V) (letK r V)).m d5) (by omega))
          replace HY := vl (HY.out.touch (touch3 (g := u0.heap.size) (.slice A5 (pass1 r t (letF r t V) (letK r V)).n c5) (.int .i64 (pass1 r t (letF r t V) (letK r V)).v) (.slice D5 (pass1 r t (letF r t V) (letK r V)).m d5)) (by omega))
          replace HX := vl (HX.out.fill (u0 := .slice A5 (pass1 r t (letF r t V) (letK r V)).n c5) (u1 := .int .i64 (pass1 r t (letF r t V) (letK r V)).v) (u2 := .slice D5 (pass1 r t (letF r t V) (letK r V)).m d5))
          generalize hu : ((u3.setCell ⟨u0.heap.size, 0, none⟩ (.slice A5 (pass1 r t (letF r t V) (letK r V)).n c5)).setCell ⟨u0.heap.size, 1, none⟩ (.int .i64 (pass1 r t (letF r t V) (letK r V)).v)).setCell ⟨u0.heap.size, 2, none⟩ (.slice D5 (pass1 r t (letF r t V) (letK r V)).m d5) = u4 at *
          clear hu hbj hBk
          refine hK.out _ _ (HK.out _ hB4) (fun hHeld4 => ?_)
          clear hK K
          try dsimp only at hHeld4
          try simp only [Act.put, List.getElem_toArray, List.getElem_cons_succ, List.getElem_cons_zero, List.setIfInBounds_toArray, List.set_cons_zero, List.set_cons_succ]
          obtain ⟨p0, p1, p2⟩ := HY.out.at
          obtain ⟨f0, f1, f2⟩ := HY.out.free
          have hBk := hHeld4.2.2.2.2.2.2.2.2.2.2.2
          refine wpAnyH_ready (rs := [15]) (by kernel_rfl) (by simp) ?_
          refine AllReadyH.cons (o := _) rfl (fun K hK => ?_) AllReadyH.nil
          go_simp
          clear p0 p1 p2 f0 f1 f2
          have hbj : ∀ j : Nat, w4.heap.size ≤ (⟨u2.heap.size, j, none⟩ : Addr).block := fun j => by dsimp only; omega
          have hB5 := ((hBk.setCell (hbj 0) (.slice A6 (pass2 r t (letF r t V) (letK r V)).n c6)).setCell (hbj 1) (.int .i64 (pass2 r t (letF r t V) (letK r V)).v)).setCell (hbj 2) (.slice D6 (pass2 r t (letF r t V) (letK r V)).m d6)
          replace HO5 := vl (HO5.out.fill (g := u2.heap.size) (u0 := .slice A6 (pass2 r t (letF r t V) (letK r V)).n c6) (u1 := .int .i64 (pass2 r t (letF r t V) (letK r V)).v) (u2 := .slice D6 (pass2 r t (letF r t V) (letK r V)).m d6) (by omega))
          replace HO6 := vl (HO6.out.fill (g := u2.heap.size) (u0 := .slice A6 (pass2 r t (letF r t V) (letK r V)).n c6) (u1 := .int .i64 (pass2 r t (letF r t V) (letK r V)).v) (u2 := .slice D6 (pass2 r t (letF r t V) (letK r V)).m d6) (by omega))
          replace HX := vl (HX.out.touch (touch3 (g := u2.heap.size) (.slice A6 (pass2 r t (letF r t V) (letK r V)).n c6) (.int .i64 (pass2 r t (letF r t V) (letK r V)).v) (.slice D6 (pass2 r t (letF r t V) (letK r V)).m d6)) (by omega))
          replace HY := vl (HY.out.fill (u0 := .slice A6 (pass2 r t (letF r t V) (letK r V)).n c6) (u1 := .int .i64 (pass2 r t (letF r t V) (letK r V)).v) (u2 := .slice D6 (pass2 r t (letF r t V) (letK r V)).m d6))
          generalize hu : ((u4.setCell ⟨u2.heap.size, 0, none⟩ (.slice A6 (pass2 r t (letF r t V) (letK r V)).n c6)).setCell ⟨u2.heap.size, 1, none⟩ (.int .i64 (pass2 r t (letF r t V) (letK r V)).v)).setCell ⟨u2.heap.size, 2, none⟩ (.slice D6 (pass2 r t (letF r t V) (letK r V)).m d6) = u5 at *
          clear hu hbj hBk
          refine hK.out _ _ (HK.out _ hB5) (fun hHeld5 => ?_)
          clear hK K
          try dsimp only at hHeld5
          try simp only [Act.put, List.getElem_toArray, List.getElem_cons_succ, List.getElem_cons_zero, List.setIfInBounds_toArray, List.set_cons_zero, List.set_cons_succ]
          refine wpAnyH_take (i := 16) (oi := _) (v := ?_) rfl (by kernel_rfl) (by kernel_rfl) (by kernel_rfl) (fun _ _ _ h => h) (Or.inl ⟨by rfl, ?_⟩) (by assumption) ?_
          rotate_left 1
          · intro w hSw
            try dsimp only at hSw
            go_simp
            try with_reducible rfl
          try simp only [Act.put, List.getElem_toArray, List.getElem_cons_succ, List.getElem_cons_zero, List.setIfInBounds_toArray, List.set_cons_zero, List.set_cons_succ]
          refine wpAnyH_done (by kernel_rfl) ?_ _
          go_simp
          go_wp2_with fail
          go_meet
          exact ⟨_, _, rfl, rfl, rfl, vl ⟨A5, c5, D5, d5, A6, c6, D6, d6, HX.out, HY.out, HO5.out.pts, HO5.out.ints, HO6.out.pts, HO6.out.ints⟩, vl hHeld5.2.2.2.2.2.2.2.2.2.2.2⟩
      · have hBk := hHeld1.2.2.2.2.2.2.2.2.2.2.2
        go_simp
        have HY := vl (Box.new u1 (.slice none 0 0) (.int .i64 0) (.slice none 0 0) 29)
        have hb' := (Below.refl u1.heap.size u1).alloc (Nat.le_refl _) (.cells #[.slice none 0 0, .int .i64 0, .slice none 0 0] 29)
        generalize hu : u1.alloc (.cells #[.slice none 0 0, .int .i64 0, .slice none 0 0] 29) = u2 at *
        clear hu
        have lHY := HY.out.lt
        replace HX := vl (HX.out.below hb')
        have hB2 := hBk.trans (hb'.mono hBk.size)
        have z2 := hb'.size
        clear hBk hb'
        refine hK.out _ _ (HK.out _ hB2) (fun hHeld2 => ?_)
        clear hK K
        try dsimp only at hHeld2
        try simp only [Act.put, List.getElem_toArray, List.getElem_cons_succ, List.getElem_cons_zero, List.setIfInBounds_toArray, List.set_cons_zero, List.set_cons_succ]
        refine wpAnyH_ready (rs := [7]) (by kernel_rfl) (by simp) ?_
        refine AllReadyH.cons (o := _) rfl (fun K hK => ?_) AllReadyH.nil
        · have hBk := hHeld2.2.2.2.2.2.2.2.2.2.2.2
          go_simp
          go_at_call 15
          with_reducible refine (let_impl r t A0 D0 A1 D1 c0 d0 c1 d1 V _ (by omega) (by omega) (by omega) (by omega) (HP0.out.below hBk) (HI0.out.below hBk) (HP1.out.below hBk) (HI1.out.below hBk)).mono ?_
          rintro e u3 ⟨⟨A5, c5, D5, d5, g1, g2, A6, c6, D6, d6, g3, g4, M, rfl, _, _, ho5, ho6, hM1, hM2⟩, hb'⟩
          have HO5 := vl ho5
          have HO6 := vl ho6
          clear ho5 ho6
          rw [HNN.out]
          replace HX := vl (HX.out.below hb')
          replace HY := vl (HY.out.below hb')
          have hB3 := hBk.trans (hb'.mono hBk.size)
          have z3 := hb'.size
          clear hBk hb'
          refine hK.out _ _ (HK.out _ hB3) (fun hHeld3 => ?_)
          clear hK K
          try dsimp only at hHeld3
          try simp only [Act.put, List.getElem_toArray, List.getElem_cons_succ, List.getElem_cons_zero, List.setIfInBounds_toArray, List.set_cons_zero, List.set_cons_succ]
          refine wpAnyH_take (i := 8) (oi := _) (v := ?_) rfl (by kernel_rfl) (by kernel_rfl) (by kernel_rfl) (fun _ _ _ h => h) (Or.inl ⟨by rfl, ?_⟩) (by assumption) ?_
          rotate_left 1
          · intro w hSw
            try dsimp only at hSw
            go_simp
            try with_reducible rfl
          try simp only [Act.put, List.getElem_toArray, List.getElem_cons_succ, List.getElem_cons_zero, List.setIfInBounds_toArray, List.set_cons_zero, List.set_cons_succ]
          refine wpAnyH_take (i := 9) (oi := _) (v := ?_) rfl (by kernel_rfl) (by kernel_rfl) (by kernel_rfl) (fun _ _ _ h => h) (Or.inl ⟨by rfl, ?_⟩) (by assumption) ?_
          rotate_left 1
          · intro w hSw
            try dsimp only at hSw
            go_simp
            try with_reducible rfl
          try simp only [Act.put, List.getElem_toArray, List.getElem_cons_succ, List.getElem_cons_zero, List.setIfInBounds_toArray, List.set_cons_zero, List.set_cons_succ]
          refine wpAnyH_take (i := 10) (oi := _) (v := ?_) rfl (by kernel_rfl) (by kernel_rfl) (by kernel_rfl) (fun _ _ _ h => h) (Or.inl ⟨by rfl, ?_⟩) (by assumption) ?_
          rotate_left 1
          · intro w hSw
            try dsimp only at hSw
            go_simp
            try with_reducible rfl
          try simp only [Act.put, List.getElem_toArray, List.getElem_cons_succ, List.getElem_cons_zero, List.setIfInBounds_toArray, List.set_cons_zero, List.set_cons_succ]
          refine wpAnyH_take (i := 11) (oi := _) (v := ?_) rfl (by kernel_rfl) (by kernel_rfl) (by kernel_rfl) (fun _ _ _ h => h) (Or.inl ⟨by rfl, ?_⟩) (by assumption) ?_
          rotate_left 1
          · intro w hSw
            try dsimp only at hSw
            go_simp
            try with_reducible rfl
          try simp only [Act.put, List.getElem_toArray, List.getElem_cons_succ, List.getElem_cons_zero, List.setIfInBounds_toArray, List.set_cons_zero, List.set_cons_succ]
          obtain ⟨p0, p1, p2⟩ := HX.out.at
          obtain ⟨f0, f1, f2⟩ := HX.out.free
          have hBk := hHeld3.2.2.2.2.2.2.2.2.2.2.2
          refine wpAnyH_ready (rs := [14]) (by kernel_rfl) (by simp) ?_
          refine AllReadyH.cons (o := _) rfl (fun K hK => ?_) AllReadyH.nil
          go_simp
          clear p0 p1 p2 f0 f1 f2
          have hbj : ∀ j : Nat, w4.heap.size ≤ (⟨u0.heap.size, j, none⟩ : Addr).block := fun j => by dsimp only; omega
          have hB4 := ((hBk.setCell (hbj 0) (.slice A5 (pass1 r t (letF r t V) (letK r V)).n c5)).setCell (hbj 1) (.int .i64 (pass1 r t (letF r t V) (letK r V)).v)).setCell (hbj 2) (.slice D5 (pass1 r t (letF r t V) (letK r V)).m d5)
          replace HO5 := vl (HO5.out.fill (g := u0.heap.size) (u0 := .slice A5 (pass1 r t (letF r t V) (letK r V)).n c5) (u1 := .int .i64 (pass1 r t (letF r t V) (letK r V)).v) (u2 := .slice D5 (pass1 r t (letF r t V) (letK r V)).m d5) (by omega))
          replace HO6 := vl (HO6.out.fill (g := u0.heap.size) (u0 := .slice A5 (pass1 r t (letF r t V) (letK r V)).n c5) (u1 := .int .i64 (pass1 r t (letF r t V) (letK r V)).v) (u2 := .slice D5 (pass1 r t (letF r t V) (letK r V)).m d5) (by omega))
          replace HY := vl (HY.out.touch (touch3 (g := u0.heap.size) (.slice A5 (pass1 r t (letF r t V) (letK r V)).n c5) (.int .i64 (pass1 r t (letF r t V) (letK r V)).v) (.slice D5 (pass1 r t (letF r t V) (letK r V)).m d5)) (by omega))
          replace HX := vl (HX.out.fill (u0 := .slice A5 (pass1 r t (letF r t V) (letK r V)).n c5) (u1 := .int .i64 (pass1 r t (letF r t V) (letK r V)).v) (u2 := .slice D5 (pass1 r t (letF r t V) (letK r V)).m d5))
          generalize hu : ((u3.setCell ⟨u0.heap.size, 0, none⟩ (.slice A5 (pass1 r t (letF r t V) (letK r V)).n c5)).setCell ⟨u0.heap.size, 1, none⟩ (.int .i64 (pass1 r t (letF r t V) (letK r V)).v)).setCell ⟨u0.heap.size, 2, none⟩ (.slice D5 (pass1 r t (letF r t V) (letK r V)).m d5) = u4 at *
          clear hu hbj hBk
          refine hK.out _ _ (HK.out _ hB4) (fun hHeld4 => ?_)
          clear hK K
          try dsimp only at hHeld4
          try simp only [Act.put, List.getElem_toArray, List.getElem_cons_succ, List.getElem_cons_zero, List.setIfInBounds_toArray, List.set_cons_zero, List.set_cons_succ]
          obtain ⟨p0, p1, p2⟩ := HY.out.at
          obtain ⟨f0, f1, f2⟩ := HY.out.free
          have hBk := hHeld4.2.2.2.2.2.2.2.2.2.2.2
          refine wpAnyH_ready (rs := [15]) (by kernel_rfl) (by simp) ?_
          refine AllReadyH.cons (o := _) rfl (fun K hK => ?_) AllReadyH.nil
          go_simp
          clear p0 p1 p2 f0 f1 f2
          have hbj : ∀ j : Nat, w4.heap.size ≤ (⟨u1.heap.size, j, none⟩ : Addr).block := fun j => by dsimp only; omega
          have hB5 := ((hBk.setCell (hbj 0) (.slice A6 (pass2 r t (letF r t V) (letK r V)).n c6)).setCell (hbj 1) (.int .i64 (pass2 r t (letF r t V) (letK r V)).v)).setCell (hbj 2) (.slice D6 (pass2 r t (letF r t V) (letK r V)).m d6)
          replace HO5 := vl (HO5.out.fill (g := u1.heap.size) (u0 := .slice A6 (pass2 r t (letF r t V) (letK r V)).n c6) (u1 := .int .i64 (pass2 r t (letF r t V) (letK r V)).v) (u2 := .slice D6 (pass2 r t (letF r t V) (letK r V)).m d6) (by omega))
          replace HO6 := vl (HO6.out.fill (g := u1.heap.size) (u0 := .slice A6 (pass2 r t (letF r t V) (letK r V)).n c6) (u1 := .int .i64 (pass2 r t (letF r t V) (letK r V)).v) (u2 := .slice D6 (pass2 r t (letF r t V) (letK r V)).m d6) (by omega))
          replace HX := vl (HX.out.touch (touch3 (g := u1.heap.size) (.slice A6 (pass2 r t (letF r t V) (letK r V)).n c6) (.int .i64 (pass2 r t (letF r t V) (letK r V)).v) (.slice D6 (pass2 r t (letF r t V) (letK r V)).m d6)) (by omega))
          replace HY := vl (HY.out.fill (u0 := .slice A6 (pass2 r t (letF r t V) (letK r V)).n c6) (u1 := .int .i64 (pass2 r t (letF r t V) (letK r V)).v) (u2 := .slice D6 (pass2 r t (letF r t V) (letK r V)).m d6))
          generalize hu : ((u4.setCell ⟨u1.heap.size, 0, none⟩ (.slice A6 (pass2 r t (letF r t V) (letK r V)).n c6)).setCell ⟨u1.heap.size, 1, none⟩ (.int .i64 (pass2 r t (letF r t V) (letK r V)).v)).setCell ⟨u1.heap.size, 2, none⟩ (.slice D6 (pass2 r t (letF r t V) (letK r V)).m d6) = u5 at *
          clear hu hbj hBk
          refine hK.out _ _ (HK.out _ hB5) (fun hHeld5 => ?_)
          clear hK K
          try dsimp only at hHeld5
          try simp only [Act.put, List.getElem_toArray, List.getElem_cons_succ, List.getElem_cons_zero, List.setIfInBounds_toArray, List.set_cons_zero, List.set_cons_succ]
          refine wpAnyH_take (i := 16) (oi := _) (v := ?_) rfl (by kernel_rfl) (by kernel_rfl) (by kernel_rfl) (fun _ _ _ h => h) (Or.inl ⟨by rfl, ?_⟩) (by assumption) ?_
          rotate_left 1
          · intro w hSw
            try dsimp only at hSw
            go_simp
            try with_reducible rfl
          try simp only [Act.put, List.getElem_toArray, List.getElem_cons_succ, List.getElem_cons_zero, List.setIfInBounds_toArray, List.set_cons_zero, List.set_cons_succ]
          refine wpAnyH_done (by kernel_rfl) ?_ _
          go_simp
          go_wp2_with fail
          go_meet
          exact ⟨_, _, rfl, rfl, rfl, vl ⟨A5, c5, D5, d5, A6, c6, D6, d6, HX.out, HY.out, HO5.out.pts, HO5.out.ints, HO6.out.pts, HO6.out.ints⟩, vl hHeld5.2.2.2.2.2.2.2.2.2.2.2⟩
    · have hBk := hHeld0.2.2.2.2.2.2.2.2.2.2.2
      go_simp
      have HY := vl (Box.new u0 (.slice none 0 0) (.int .i64 0) (.slice none 0 0) 29)
      have hb' := (Below.refl u0.heap.size u0).alloc (Nat.le_refl _) (.cells #[.slice none 0 0, .int .i64 0, .slice none 0 0] 29)
      generalize hu : u0.alloc (.cells #[.slice none 0 0, .int .i64 0, .slice none 0 0] 29) = u1 at *
      clear hu
      have lHY := HY.out.lt
      have hB1 := hBk.trans (hb'.mono hBk.size)
      have z1 := hb'.size
      clear hBk hb'
      refine hK.out _ _ (HK.out _ hB1) (fun hHeld1 => ?_)
      clear hK K
      try dsimp only at hHeld1
      try simp only [Act.put, List.getElem_toArray, List.getElem_cons_succ, List.getElem_cons_zero, List.setIfInBounds_toArray, List.set_cons_zero, List.set_cons_succ]
      refine wpAnyH_ready (rs := [7, 12]) (by kernel_rfl) (by simp) ?_
      refine AllReadyH.cons (o := _) rfl (fun K hK => ?_) (AllReadyH.cons (o := _) rfl (fun K hK => ?_) AllReadyH.nil)
      · have hBk := hHeld1.2.2.2.2.2.2.2.2.2.2.2
        go_simp
        go_at_call 15
        with_reducible refine (let_impl r t A0 D0 A1 D1 c0 d0 c1 d1 V _ (by omega) (by omega) (by omega) (by omega) (HP0.out.below hBk) (HI0.out.below hBk) (HP1.out.below hBk) (HI1.out.below hBk)).mono ?_
        rintro e u2 ⟨⟨A5, c5, D5, d5, g1, g2, A6, c6, D6, d6, g3, g4, M, rfl, _, _, ho5, ho6, hM1, hM2⟩, hb'⟩
        have HO5 := vl ho5
        have HO6 := vl ho6
        clear ho5 ho6
        rw [HNN.out]
        replace HY := vl (HY.out.below hb')
        have hB2 := hBk.trans (hb'.mono hBk.size)
        have z2 := hb'.size
        clear hBk hb'
        refine hK.out _ _ (HK.out _ hB2) (fun hHeld2 => ?_)
        clear hK K
        try dsimp only at hHeld2
        try simp only [Act.put, List.getElem_toArray, List.getElem_cons_succ, List.getElem_cons_zero, List.setIfInBounds_toArray, List.set_cons_zero, List.set_cons_succ]
        refine wpAnyH_take (i := 8) (oi := _) (v := ?_) rfl (by kernel_rfl) (by kernel_rfl) (by kernel_rfl) (fun _ _ _ h => h) (Or.inl ⟨by rfl, ?_⟩) (by assumption) ?_
        rotate_left 1
        · intro w hSw
          try dsimp only at hSw
          go_simp
          try with_reducible rfl
        try simp only [Act.put, List.getElem_toArray, List.getElem_cons_succ, List.getElem_cons_zero, List.setIfInBounds_toArray, List.set_cons_zero, List.set_cons_succ]
        refine wpAnyH_take (i := 9) (oi := _) (v := ?_) rfl (by kernel_rfl) (by kernel_rfl) (by kernel_rfl) (fun _ _ _ h => h) (Or.inl ⟨by rfl, ?_⟩) (by assumption) ?_
        rotate_left 1
        · intro w hSw
          try dsimp only at hSw
          go_simp
          try with_reducible rfl
        try simp only [Act.put, List.getElem_toArray, List.getElem_cons_succ, List.getElem_cons_zero, List.setIfInBounds_toArray, List.set_cons_zero, List.set_cons_succ]
        refine wpAnyH_take (i := 10) (oi := _) (v := ?_) rfl (by kernel_rfl) (by kernel_rfl) (by kernel_rfl) (fun _ _ _ h => h) (Or.inl ⟨by rfl, ?_⟩) (by assumption) ?_
        rotate_left 1
        · intro w hSw
          try dsimp only at hSw
          go_simp
          try with_reducible rfl
        try simp only [Act.put, List.getElem_toArray, List.getElem_cons_succ, List.getElem_cons_zero, List.setIfInBounds_toArray, List.set_cons_zero, List.set_cons_succ]
        refine wpAnyH_take (i := 11) (oi := _) (v := ?_) rfl (by kernel_rfl) (by kernel_rfl) (by kernel_rfl) (fun _ _ _ h => h) (Or.inl ⟨by rfl, ?_⟩) (by assumption) ?_
        rotate_left 1
        · intro w hSw
          try dsimp only at hSw
          go_simp
          try with_reducible rfl
        try simp only [Act.put, List.getElem_toArray, List.getElem_cons_succ, List.getElem_cons_zero, List.setIfInBounds_toArray, List.set_cons_zero, List.set_cons_succ]
        refine wpAnyH_ready (rs := [12]) (by kernel_rfl) (by simp) ?_
        refine AllReadyH.cons (o := _) rfl (fun K hK => ?_) AllReadyH.nil
        · have hBk := hHeld2.2.2.2.2.2.2.2.2.2.2.2
          go_simp
          have HX := vl (Box.new u2 (.slice none 0 0) (.int .i64 0) (.slice none 0 0) 29)
          have hb' := (Below.refl u2.heap.size u2).alloc (Nat.le_refl _) (.cells #[.slice none 0 0, .int .i64 0, .slice none 0 0] 29)
          generalize hu : u2.alloc (.cells #[.slice none 0 0, .int .i64 0, .slice none 0 0] 29) = u3 at *
          clear hu
          have lHX := HX.out.lt
          replace HY := vl (HY.out.below hb')
          replace HO5 := vl (HO5.out.below hb')
          replace HO6 := vl (HO6.out.below hb')
          have hB3 := hBk.trans (hb'.mono hBk.size)
          have z3 := hb'.size
          clear hBk hb'
          refine hK.out _ _ (HK.out _ hB3) (fun hHeld3 => ?_)
          clear hK K
          try dsimp only at hHeld3
          try simp only [Act.put, List.getElem_toArray, List.getElem_cons_succ, List.getElem_cons_zero, List.setIfInBounds_toArray, List.set_cons_zero, List.set_cons_succ]
          obtain ⟨p0, p1, p2⟩ := HX.out.at
          obtain ⟨f0, f1, f2⟩ := HX.out.free
          have hBk := hHeld3.2.2.2.2.2.2.2.2.2.2.2
          refine wpAnyH_ready (rs := [14]) (by kernel_rfl) (by simp) ?_
          refine AllReadyH.cons (o := _) rfl (fun K hK => ?_) AllReadyH.nil
          go_simp
          clear p0 p1 p2 f0 f1 f2
          have hbj : ∀ j : Nat, w4.heap.size ≤ (⟨u2.heap.size, j, none⟩ : Addr).block := fun j => by dsimp only; omega
          have hB4 := ((hBk.setCell (hbj 0) (.slice A5 (pass1 r t (letF r t V) (letK r V)).n c5)).setCell (hbj 1) (.int .i64 (pass1 r t (letF r t V) (letK r V)).v)).setCell (hbj 2) (.slice D5 (pass1 r t (letF r t V) (letK r V)).m d5)
          replace HO5 := vl (HO5.out.fill (g := u2.heap.size) (u0 := .slice A5 (pass1 r t (letF r t V) (letK r V)).n c5) (u1 := .int .i64 (pass1 r t (letF r t V) (letK r V)).v) (u2 := .slice D5 (pass1 r t (letF r t V) (letK r V)).m d5) (by omega))
          replace HO6 := vl (HO6.out.fill (g := u2.heap.size) (u0 := .slice A5 (pass1 r t (letF r t V) (letK r V)).n c5) (u1 := .int .i64 (pass1 r t (letF r t V) (letK r V)).v) (u2 := .slice D5 (pass1 r t (letF r t V) (letK r V)).m d5) (by omega))
          replace HY := vl (HY.out.touch (touch3 (g := u2.heap.size) (.slice A5 (pass1 r t (letF r t V) (letK r V)).n c5) (.int .i64 (pass1 r t (letF r t V) (letK r V)).v) (.slice D5 (pass1 r t (letF r t V) (letK r V)).m d5)) (by omega))
          replace HX := vl (HX.out.fill (u0 := .slice A5 (pass1 r t (letF r t V) (letK r V)).n c5) (u1 := .int .i64 (pass1 r t (letF r t V) (letK r V)).v) (u2 := .slice D5 (pass1 r t (letF r t V) (letK r V)).m d5))
          generalize hu : ((u3.setCell ⟨u2.heap.size, 0, none⟩ (.slice A5 (pass1 r t (letF r t V) (letK r V)).n c5)).setCell ⟨u2.heap.size, 1, none⟩ (.int .i64 (pass1 r t (letF r t V) (letK r V)).v)).setCell ⟨u2.heap.size, 2, none⟩ (.slice D5 (pass1 r t (letF r t V) (letK r V)).m d5) = u4 at *
          clear hu hbj hBk
          refine hK.out _ _ (HK.out _ hB4) (fun hHeld4 => ?_)
          clear hK K
          try dsimp only at hHeld4
          try simp only [Act.put, List.getElem_toArray, List.getElem_cons_succ, List.getElem_cons_zero, List.setIfInBounds_toArray, List.set_cons_zero, List.set_cons_succ]
          obtain ⟨p0, p1, p2⟩ := HY.out.at
          obtain ⟨f0, f1, f2⟩ := HY.out.free
          have hBk := hHeld4.2.2.2.2.2.2.2.2.2.2.2
          refine wpAnyH_ready (rs := [15]) (by kernel_rfl) (by simp) ?_
          refine AllReadyH.cons (o := _) rfl (fun K hK => ?_) AllReadyH.nil
          go_simp
          clear p0 p1 p2 f0 f1 f2
          have hbj : ∀ j : Nat, w4.heap.size ≤ (⟨u0.heap.size, j, none⟩ : Addr).block := fun j => by dsimp only; omega
          have hB5 := ((hBk.setCell (hbj 0) (.slice A6 (pass2 r t (letF r t V) (letK r V)).n c6)).setCell (hbj 1) (.int .i64 (pass2 r t (letF r t V) (letK r V)).v)).setCell (hbj 2) (.slice D6 (pass2 r t (letF r t V) (letK r V)).m d6)
          replace HO5 := vl (HO5.out.fill (g := u0.heap.size) (u0 := .slice A6 (pass2 r t (letF r t V) (letK r V)).n c6) (u1 := .int .i64 (pass2 r t (letF r t V) (letK r V)).v) (u2 := .slice D6 (pass2 r t (letF r t V) (letK r V)).m d6) (by omega))
          replace HO6 := vl (HO6.out.fill (g := u0.heap.size) (u0 := .slice A6 (pass2 r t (letF r t V) (letK r V)).n c6) (u1 := .int .i64 (pass2 r t (letF r t V) (letK r V)).v) (u2 := .slice D6 (pass2 r t (letF r t V) (letK r V)).m d6) (by omega))
          replace HX := vl (HX.out.touch (touch3 (g := u0.heap.size) (.slice A6 (pass2 r t (letF r t V) (letK r V)).n c6) (.int .i64 (pass2 r t (letF r t V) (letK r V)).v) (.slice D6 (pass2 r t (letF r t V) (letK r V)).m d6)) (by omega))
          replace HY := vl (HY.out.fill (u0 := .slice A6 (pass2 r t (letF r t V) (letK r V)).n c6) (u1 := .int .i64 (pass2 r t (letF r t V) (letK r V)).v) (u2 := .slice D6 (pass2 r t (letF r t V) (letK r V)).m d6))
          generalize hu : ((u4.setCell ⟨u0.heap.size, 0, none⟩ (.slice A6 (pass2 r t (letF r t V) (letK r V)).n c6)).setCell ⟨u0.heap.size, 1, none⟩ (.int .i64 (pass2 r t (letF r t V) (letK r V)).v)).setCell ⟨u0.heap.size, 2, none⟩ (.slice D6 (pass2 r t (letF r t V) (letK r V)).m d6) = u5 at *
          clear hu hbj hBk
          refine hK.out _ _ (HK.out _ hB5) (fun hHeld5 => ?_)
          clear hK K
          try dsimp only at hHeld5
          try simp only [Act.put, List.getElem_toArray, List.getElem_cons_succ, List.getElem_cons_zero, List.setIfInBounds_toArray, List.set_cons_zero, List.set_cons_succ]
          refine wpAnyH_take (i := 16) (oi := _) (v := ?_) rfl (by kernel_rfl) (by kernel_rfl) (by kernel_rfl) (fun _ _ _ h => h) (Or.inl ⟨by rfl, ?_⟩) (by assumption) ?_
          rotate_left 1
          · intro w hSw
            try dsimp only at hSw
            go_simp
            try with_reducible rfl
          try simp only [Act.put, List.getElem_toArray, List.getElem_cons_succ, List.getElem_cons_zero, List.setIfInBounds_toArray, List.set_cons_zero, List.set_cons_succ]
          refine wpAnyH_done (by kernel_rfl) ?_ _
          go_simp
          go_wp2_with fail
          go_meet
          exact ⟨_, _, rfl, rfl, rfl, vl ⟨A5, c5, D5, d5, A6, c6, D6, d6, HX.out, HY.out, HO5.out.pts, HO5.out.ints, HO6.out.pts, HO6.out.ints⟩, vl hHeld5.2.2.2.2.2.2.2.2.2.2.2⟩
      · have hBk := hHeld1.2.2.2.2.2.2.2.2.2.2.2
        go_simp
        have HX := vl (Box.new u1 (.slice none 0 0) (.int .i64 0) (.slice none 0 0) 29)
        have hb' := (Below.refl u1.heap.size u1).alloc (Nat.le_refl _) (.cells #[.slice none 0 0, .int .i64 0, .slice none 0 0] 29)
        generalize hu : u1.alloc (.cells #[.slice none 0 0, .int .i64 0, .slice none 0 0] 29) = u2 at *
        clear hu
        have lHX := HX.out.lt
        replace HY := vl (HY.out.below hb')
        have hB2 := hBk.trans (hb'.mono hBk.size)
        have z2 := hb'.size
        clear hBk hb'
        refine hK.out _ _ (HK.out _ hB2) (fun hHeld2 => ?_)
        clear hK K
        try dsimp only at hHeld2
        try simp only [Act.put, List.getElem_toArray, List.getElem_cons_succ, List.getElem_cons_zero, List.setIfInBounds_toArray, List.set_cons_zero, List.set_cons_succ]
        refine wpAnyH_ready (rs := [7]) (by kernel_rfl) (by simp) ?_
        refine AllReadyH.cons (o := _) rfl (fun K hK => ?_) AllReadyH.nil
        · have hBk := hHeld2.2.2.2.2.2.2.2.2.2.2.2
          go_simp
          go_at_call 15
          with_reducible refine (let_impl r t A0 D0 A1 D1 c0 d0 c1 d1 V _ (by omega) (by omega) (by omega) (by omega) (HP0.out.below hBk) (HI0.out.below hBk) (HP1.out.below hBk) (HI1.out.below hBk)).mono ?_
          rintro e u3 ⟨⟨A5, c5, D5, d5, g1, g2, A6, c6, D6, d6, g3, g4, M, rfl, _, _, ho5, ho6, hM1, hM2⟩, hb'⟩
          have HO5 := vl ho5
          have HO6 := vl ho6
          clear ho5 ho6
          rw [HNN.out]
          replace HX := vl (HX.out.below hb')
          replace HY := vl (HY.out.below hb')
          have hB3 := hBk.trans (hb'.mono hBk.size)
          have z3 := hb'.size
          clear hBk hb'
          refine hK.out _ _ (HK.out _ hB3) (fun hHeld3 => ?_)
          clear hK K
          try dsimp only at hHeld3
          try simp only [Act.put, List.getElem_toArray, List.getElem_cons_succ, List.getElem_cons_zero, List.setIfInBounds_toArray, List.set_cons_zero, List.set_cons_succ]
          refine wpAnyH_take (i := 8) (oi := _) (v := ?_) rfl (by kernel_rfl) (by kernel_rfl) (by kernel_rfl) (fun _ _ _ h => h) (Or.inl ⟨by rfl, ?_⟩) (by assumption) ?_
          rotate_left 1
          · intro w hSw
            try dsimp only at hSw
            go_simp
            try with_reducible rfl
          try simp only [Act.put, List.getElem_toArray, List.getElem_cons_succ, List.getElem_cons_zero, List.setIfInBounds_toArray, List.set_cons_zero, List.set_cons_succ]
          refine wpAnyH_take (i := 9) (oi := _) (v := ?_) rfl (by kernel_rfl) (by kernel_rfl) (by kernel_rfl) (fun _ _ _ h => h) (Or.inl ⟨by rfl, ?_⟩) (by assumption) ?_
          rotate_left 1
          · intro w hSw
            try dsimp only at hSw
            go_simp
            try with_reducible rfl
          try simp only [Act.put, List.getElem_toArray, List.getElem_cons_succ, List.getElem_cons_zero, List.setIfInBounds_toArray, List.set_cons_zero, List.set_cons_succ]
          refine wpAnyH_take (i := 10) (oi := _) (v := ?_) rfl (by kernel_rfl) (by kernel_rfl) (by kernel_rfl) (fun _ _ _ h => h) (Or.inl ⟨by rfl, ?_⟩) (by assumption) ?_
          rotate_left 1
          · intro w hSw
            try dsimp only at hSw
            go_simp
            try with_reducible rfl
          try simp only [Act.put, List.getElem_toArray, List.getElem_cons_succ, List.getElem_cons_zero, List.setIfInBounds_toArray, List.set_cons_zero, List.set_cons_succ]
          refine wpAnyH_take (i := 11) (oi := _) (v := ?_) rfl (by kernel_rfl) (by kernel_rfl) (by kernel_rfl) (fun _ _ _ h => h) (Or.inl ⟨by rfl, ?_⟩) (by assumption) ?_
          rotate_left 1
          · intro w hSw
            try dsimp only at hSw
            go_simp
            try with_reducible rfl
          try simp only [Act.put, List.getElem_toArray, List.getElem_cons_succ, List.getElem_cons_zero, List.setIfInBounds_toArray, List.set_cons_zero, List.set_cons_succ]
          obtain ⟨p0, p1, p2⟩ := HX.out.at
          obtain ⟨f0, f1, f2⟩ := HX.out.free
          have hBk := hHeld3.2.2.2.2.2.2.2.2.2.2.2
          refine wpAnyH_ready (rs := [14]) (by kernel_rfl) (by simp) ?_
          refine AllReadyH.cons (o := _) rfl (fun K hK => ?_) AllReadyH.nil
          go_simp
          clear p0 p1 p2 f0 f1 f2
          have hbj : ∀ j : Nat, w4.heap.size ≤ (⟨u1.heap.size, j, none⟩ : Addr).block := fun j => by dsimp only; omega
          have hB4 := ((hBk.setCell (hbj 0) (.slice A5 (pass1 r t (letF r t V) (letK r V)).n c5)).setCell (hbj 1) (.int .i64 (pass1 r t (letF r t V) (letK r V)).v)).setCell (hbj 2) (.slice D5 (pass1 r t (letF r t V) (letK r V)).m d5)
          replace HO5 := vl (HO5.out.fill (g := u1.heap.size) (u0 := .slice A5 (pass1 r t (letF r t V) (letK r V)).n c5) (u1 := .int .i64 (pass1 r t (letF r t V) (letK r V)).v) (u2 := .slice D5 (pass1 r t (letF r t V) (letK r V)).m d5) (by omega))
          replace HO6 := vl (HO6.out.fill (g := u1.heap.size) (u0 := .slice A5 (pass1 r t (letF r t V) (letK r V)).n c5) (u1 := .int .i64 (pass1 r t (letF r t V) (letK r V)).v) (u2 := .slice D5 (pass1 r t (letF r t V) (letK r V)).m d5) (by omega))
          replace HY := vl (HY.out.touch (touch3 (g := u1.heap.size) (.slice A5 (pass1 r t (letF r t V) (letK r V)).n c5) (.int .i64 (pass1 r t (letF r t V) (letK r V)).v) (.slice D5 (pass1 r t (letF r t V) (letK r V)).m d5)) (by omega))
          replace HX := vl (HX.out.fill (u0 := .slice A5 (pass1 r t (letF r t V) (letK r V)).n c5) (u1 := .int .i64 (pass1 r t (letF r t V) (letK r V)).v) (u2 := .slice D5 (pass1 r t (letF r t V) (letK r V)).m d5))
          generalize hu : ((u3.setCell ⟨u1.heap.size, 0, none⟩ (.slice A5 (pass1 r t (letF r t V) (letK r V)).n c5)).setCell ⟨u1.heap.size, 1, none⟩ (.int .i64 (pass1 r t (letF r t V) (letK r V)).v)).setCell ⟨u1.heap.size, 2, none⟩ (.slice D5 (pass1 r t (letF r t V) (letK r V)).m d5) = u4 at *
          clear hu hbj hBk
          refine hK.out _ _ (HK.out _ hB4) (fun hHeld4 => ?_)
          clear hK K
          try dsimp only at hHeld4
          try simp only [Act.put, List.getElem_toArray, List.getElem_cons_succ, List.getElem_cons_zero, List.setIfInBounds_toArray, List.set_cons_zero, List.set_cons_succ]
          obtain ⟨p0, p1, p2⟩ := HY.out.at
          obtain ⟨f0, f1, f2⟩ := HY.out.free
          have hBk := hHeld4.2.2.2.2.2.2.2.2.2.2.2
          refine wpAnyH_ready (rs := [15]) (by kernel_rfl) (by simp) ?_
          refine AllReadyH.cons (o := _) rfl (fun K hK => ?_) AllReadyH.nil
          go_simp
          clear p0 p1 p2 f0 f1 f2
          have hbj : ∀ j : Nat, w4.heap.size ≤ (⟨u0.heap.size, j, none⟩ : Addr).block := fun j => by dsimp only; omega
          have hB5 := ((hBk.setCell (hbj 0) (.slice A6 (pass2 r t (letF r t V) (letK r V)).n c6)).setCell (hbj 1) (.int .i64 (pass2 r t (letF r t V) (letK r V)).v)).setCell (hbj 2) (.slice D6 (pass2 r t (letF r t V) (letK r V)).m d6)
          replace HO5 := vl (HO5.out.fill (g := u0.heap.size) (u0 := .slice A6 (pass2 r t (letF r t V) (letK r V)).n c6) (u1 := .int .i64 (pass2 r t (letF r t V) (letK r V)).v) (u2 := .slice D6 (pass2 r t (letF r t V) (letK r V)).m d6) (by omega))
          replace HO6 := vl (HO6.out.fill (g := u0.heap.size) (u0 := .slice A6 (pass2 r t (letF r t V) (letK r V)).n c6) (u1 := .int .i64 (pass2 r t (letF r t V) (letK r V)).v) (u2 := .slice D6 (pass2 r t (letF r t V) (letK r V)).m d6) (by omega))
          replace HX := vl (HX.out.touch (touch3 (g := u0.heap.size) (.slice A6 (pass2 r t (letF r t V) (letK r V)).n c6) (.int .i64 (pass2 r t (letF r t V) (letK r V)).v) (.slice D6 (pass2 r t (letF r t V) (letK r V)).m d6)) (by omega))
          replace HY := vl (HY.out.fill (u0 := .slice A6 (pass2 r t (letF r t V) (letK r V)).n c6) (u1 := .int .i64 (pass2 r t (letF r t V) (letK r V)).v) (u2 := .slice D6 (pass2 r t (letF r t V) (letK r V)).m d6))
          generalize hu : ((u4.setCell ⟨u0.heap.size, 0, none⟩ (.slice A6 (pass2 r t (letF r t V) (letK r V)).n c6)).setCell ⟨u0.heap.size, 1, none⟩ (.int .i64 (pass2 r t (letF r t V) (letK r V)).v)).setCell ⟨u0.heap.size, 2, none⟩ (.slice D6 (pass2 r t (letF r t V) (letK r V)).m d6) = u5 at *
          clear hu hbj hBk
          refine hK.out _ _ (HK.out _ hB5) (fun hHeld5 => ?_)
          clear hK K
          try dsimp only at hHeld5
          try simp only [Act.put, List.getElem_toArray, List.getElem_cons_succ, List.getElem_cons_zero, List.setIfInBounds_toArray, List.set_cons_zero, List.set_cons_succ]
          refine wpAnyH_take (i := 16) (oi := _) (v := ?_) rfl (by kernel_rfl) (by kernel_rfl) (by kernel_rfl) (fun _ _ _ h => h) (Or.inl ⟨by rfl, ?_⟩) (by assumption) ?_
          rotate_left 1
          · intro w hSw
            try dsimp only at hSw
            go_simp
            try with_reducible rfl
          try simp only [Act.put, List.getElem_toArray, List.getElem_cons_succ, List.getElem_cons_zero, List.setIfInBounds_toArray, List.set_cons_zero, List.set_cons_succ]
          refine wpAnyH_done (by kernel_rfl) ?_ _
          go_simp
          go_wp2_with fail
          go_meet
          exact ⟨_, _, rfl, rfl, rfl, vl ⟨A5, c5, D5, d5, A6, c6, D6, d6, HX.out, HY.out, HO5.out.pts, HO5.out.ints, HO6.out.pts, HO6.out.ints⟩, vl hHeld5.2.2.2.2.2.2.2.2.2.2.2⟩
  case rest =>
    obtain ⟨a, b, rfl, rfl, rfl, HT2, HBc⟩ := hcut
    have HFF := vl HF.out
    have an : (pass1 r t (letF r t V) (letK r V)).n ≤ 1048576 := by rw [(pass1_n r t _ _).1]; omega
    have am : (pass1 r t (letF r t V) (letK r V)).m ≤ 1048576 := by rw [(pass1_n r t _ _).2]; omega
    have bn : (pass2 r t (letF r t V) (letK r V)).n ≤ 1048576 := by rw [(pass2_n r t _ _).1]; omega
    have bm : (pass2 r t (letF r t V) (letK r V)).m ≤ 1048576 := by rw [(pass2_n r t _ _).2]; omega
    generalize pass1 r t (letF r t V) (letK r V) = Ra at *
    generalize pass2 r t (letF r t V) (letK r V) = Rb at *
    obtain ⟨A5, c5, D5, d5, A6, c6, D6, d6, HX, HY, HPa, HIa, HPb, HIb⟩ := HT2.out
    clear HT2 HF HK
    replace HPa := vl HPa
    replace HIa := vl HIa
    replace HPb := vl HPb
    replace HIb := vl HIb
    replace HP0 := vl (HP0.out.below HBc.out)
    replace HI0 := vl (HI0.out.below HBc.out)
    replace HP1 := vl (HP1.out.below HBc.out)
    replace HI1 := vl (HI1.out.below HBc.out)
    have HBz := vl (HB4.out.trans (HBc.out.mono HB4.out.size))
    obtain ⟨k0, k1, k2⟩ := HX.at
    obtain ⟨k3, k4, k5⟩ := HY.at
    replace x0 := (HBc.out.cell (cell_lt' x0)).trans x0
    replace x1 := (HBc.out.cell (cell_lt' x1)).trans x1
    replace x2 := (HBc.out.cell (cell_lt' x2)).trans x2
    replace y0 := (HBc.out.cell (cell_lt' y0)).trans y0
    replace y1 := (HBc.out.cell (cell_lt' y1)).trans y1
    replace y2 := (HBc.out.cell (cell_lt' y2)).trans y2
    replace v0 := (HBc.out.cell (cell_lt' v0)).trans v0
    replace v1 := (HBc.out.cell (cell_lt' v1)).trans v1
    replace v2 := (HBc.out.cell (cell_lt' v2)).trans v2
    replace v3 := (HBc.out.cell (cell_lt' v3)).trans v3
    replace v4 := (HBc.out.cell (cell_lt' v4)).trans v4
    clear HBc HX HY HB4
    have HK := vl (fun (w' : World) (hb' : Below wc.heap.size wc w') => (show w'.cell? ⟨g, 0, none⟩ = some (.slice A0 r.n c0) ∧ w'.cell? ⟨g, 1, none⟩ = some (.int .i64 r.v) ∧ w'.cell? ⟨g, 2, none⟩ = some (.slice D0 r.m d0) ∧ w'.cell? ⟨g, 3, none⟩ = some (.slice A1 t.n c1) ∧ w'.cell? ⟨g, 4, none⟩ = some (.int .i64 t.v) ∧ w'.cell? ⟨g, 5, none⟩ = some (.slice D1 t.m d1) ∧ w'.cell? ⟨bw, 0, none⟩ = some (.int .i64 V.g) ∧ w'.cell? ⟨bw, 1, none⟩ = some (.int .i64 V.o) ∧ w'.cell? ⟨bw, 2, none⟩ = some (.int .i64 V.s) ∧ w'.cell? ⟨bw, 3, none⟩ = some (.int .i64 V.k) ∧ w'.cell? ⟨bw, 4, none⟩ = some (.int .i64 V.w) ∧ w'.cell? ⟨a, 0, none⟩ = some (.slice A5 Ra.n c5) ∧ w'.cell? ⟨a, 1, none⟩ = some (.int .i64 Ra.v) ∧ w'.cell? ⟨a, 2, none⟩ = some (.slice D5 Ra.m d5) ∧ w'.cell? ⟨b, 0, none⟩ = some (.slice A6 Rb.n c6) ∧ w'.cell? ⟨b, 1, none⟩ = some (.int .i64 Rb.v) ∧ w'.cell? ⟨b, 2, none⟩ = some (.slice D6 Rb.m d6) ∧ Below wc.heap.size wc w' from ⟨(hb'.cell (cell_lt' x0)).trans x0, (hb'.cell (cell_lt' x1)).trans x1, (hb'.cell (cell_lt' x2)).trans x2, (hb'.cell (cell_lt' y0)).trans y0, (hb'.cell (cell_lt' y1)).trans y1, (hb'.cell (cell_lt' y2)).trans y2, (hb'.cell (cell_lt' v0)).trans v0, (hb'.cell (cell_lt' v1)).trans v1, (hb'.cell (cell_lt' v2)).trans v2, (hb'.cell (cell_lt' v3)).trans v3, (hb'.cell (cell_lt' v4)).trans v4, (hb'.cell (cell_lt' k0)).trans k0, (hb'.cell (cell_lt' k1)).trans k1, (hb'.cell (cell_lt' k2)).trans k2, (hb'.cell (cell_lt' k3)).trans k3, (hb'.cell (cell_lt' k4)).trans k4, (hb'.cell (cell_lt' k5)).trans k5, hb'⟩))
    clear x0 x1 x2 y0 y1 y2 v0 v1 v2 v3 v4 k0 k1 k2 k3 k4 k5
    obtain ⟨f0, f1, f2, f3, f4, f5, f6, f7⟩ := HFF.out
    clear HFF
    obtain ⟨TR, hTR⟩ : ∃ x, totR r = x := ⟨_, rfl⟩
    obtain ⟨TT, hTT⟩ : ∃ x, totR t = x := ⟨_, rfl⟩
    obtain ⟨TA, hTA⟩ : ∃ x, totR Ra = x := ⟨_, rfl⟩
    obtain ⟨TB, hTB⟩ : ∃ x, totR Rb = x := ⟨_, rfl⟩
    obtain ⟨l1, hl1⟩ : ∃ x, levelR r = x := ⟨_, rfl⟩
    obtain ⟨l2, hl2⟩ : ∃ x, levelR t = x := ⟨_, rfl⟩
    obtain ⟨fl, hfl⟩ : ∃ x, flowW V l1 l2 = x := ⟨_, rfl⟩
    obtain ⟨kp, hkp⟩ : ∃ x, valZ r.n r.X r.Y V.k = x := ⟨_, rfl⟩
    have hF2 : letF r t V = fl := by unfold letF; rw [hl1, hl2]; exact hfl
    have hK2 : letK r V = kp := by unfold letK; exact hkp
    have hnn := HNN.out
    rw [hnn] at f0 f1 f2 f5 f6 f7
    rw [hF2] at f1
    rw [hK2] at f2
    have g1 := totR_of HOr.out
    have g2 := totR_of HOt.out
    have g3 := totR_of f3
    have g4 := totR_of f4
    rw [hTR] at g1
    rw [hTT] at g2
    rw [hTA] at g3
    rw [hTB] at g4
    have b1 := (rOk_iff.1 HOr.out).t0.2
    have b2 := (rOk_iff.1 HOt.out).t0.2
    have b3 := (rOk_iff.1 f3).t0.2
    have b4 := (rOk_iff.1 f4).t0.2
    have m1 := HTr.out
    have m2 := HTt.out
    have bv := (rOk_iff.1 HOr.out).v0
    have bvv := (rOk_iff.1 HOr.out).v1
    have HTR := vl hTR
    have HTT := vl hTT
    have HTA := vl hTA
    have HTB := vl hTB
    have HL1 := vl hl1
    have HL2 := vl hl2
    have HFL := vl hfl
    have HKP := vl hkp
    have ew1 : IntKind.i64.wrap (r.v - nn) = r.v - nn := IntWalk.i64_in _ (by omega)
    have ew2 : IntKind.i64.wrap (TA + TB) = TA + TB := IntWalk.i64_in _ (by omega)
    have ew3 : IntKind.i64.wrap (TR + TT) = TR + TT := IntWalk.i64_in _ (by omega)
    have ew4 : IntKind.i64.wrap (TR - nn) = TR - nn := IntWalk.i64_in _ (by omega)
    have eq0 : decide (0 ≤ nn) = true := decide_eq_true f0
    have eq1 : (Ra.v == r.v - nn) = true := beq_iff_eq.2 f7
    have eq2 : (TA + TB == TR + TT) = true := beq_iff_eq.2 (by omega)
    have eq3 : (TA == TR - nn) = true := beq_iff_eq.2 (by omega)
    have eq6 : decide (nn ≤ fl) = true := decide_eq_true f1
    have f8 : nn = 0 ∨ kp ≤ Ra.v := by omega
    have HF8 := vl f8
    clear hTR hTT hTA hTB hl1 hl2 hfl hkp hF2 hK2 hnn f0 f1 f2 f3 f4 f5 f6 f7 f8 g1 g2 g3 g4 b1 b2 b3 b4 m1 m2 bv bvv HNN HOr HOt HTr HTt
    go_wp2_with fail
    refine wp_region_held_drew (S := fun w' => w'.cell? ⟨g, 0, none⟩ = some (.slice A0 r.n c0) ∧ w'.cell? ⟨g, 1, none⟩ = some (.int .i64 r.v) ∧ w'.cell? ⟨g, 2, none⟩ = some (.slice D0 r.m d0) ∧ w'.cell? ⟨g, 3, none⟩ = some (.slice A1 t.n c1) ∧ w'.cell? ⟨g, 4, none⟩ = some (.int .i64 t.v) ∧ w'.cell? ⟨g, 5, none⟩ = some (.slice D1 t.m d1) ∧ w'.cell? ⟨bw, 0, none⟩ = some (.int .i64 V.g) ∧ w'.cell? ⟨bw, 1, none⟩ = some (.int .i64 V.o) ∧ w'.cell? ⟨bw, 2, none⟩ = some (.int .i64 V.s) ∧ w'.cell? ⟨bw, 3, none⟩ = some (.int .i64 V.k) ∧ w'.cell? ⟨bw, 4, none⟩ = some (.int .i64 V.w) ∧ w'.cell? ⟨a, 0, none⟩ = some (.slice A5 Ra.n c5) ∧ w'.cell? ⟨a, 1, none⟩ = some (.int .i64 Ra.v) ∧ w'.cell? ⟨a, 2, none⟩ = some (.slice D5 Ra.m d5) ∧ w'.cell? ⟨b, 0, none⟩ = some (.slice A6 Rb.n c6) ∧ w'.cell? ⟨b, 1, none⟩ = some (.int .i64 Rb.v) ∧ w'.cell? ⟨b, 2, none⟩ = some (.slice D6 Rb.m d6) ∧ Below wc.heap.size wc w') (by kernel_rfl) (HK.out _ (Below.refl _ _).drew) (fun hHeld0 => ?_)
    try dsimp only at hHeld0
    refine wpAnyH_take (i := 0) (oi := _) (v := ?_) rfl (by kernel_rfl) (by kernel_rfl) (by kernel_rfl) (fun _ _ _ h => h) (Or.inl ⟨by rfl, ?_⟩) (by assumption) ?_
    rotate_left 1
    · intro w hSw
      try dsimp only at hSw
      go_simp
      try with_reducible rfl
    try simp only [Act.put, List.getElem_toArray, List.getElem_cons_succ, List.getElem_cons_zero, List.setIfInBounds_toArray, List.set_cons_zero, List.set_cons_succ]
    refine wpAnyH_take (i := 1) (oi := _) (v := ?_) rfl (by kernel_rfl) (by kernel_rfl) (by kernel_rfl) (fun _ _ _ h => h) (Or.inl ⟨by rfl, ?_⟩) (by assumption) ?_
    rotate_left 1
    · intro w hSw
      try dsimp only at hSw
      go_simp
      try with_reducible rfl
    try simp only [Act.put, List.getElem_toArray, List.getElem_cons_succ, List.getElem_cons_zero, List.setIfInBounds_toArray, List.set_cons_zero, List.set_cons_succ]
    refine wpAnyH_take (i := 2) (oi := _) (v := ?_) rfl (by kernel_rfl) (by kernel_rfl) (by kernel_rfl) (fun _ _ _ h => h) (Or.inl ⟨by rfl, ?_⟩) (by assumption) ?_
    rotate_left 1
    · intro w hSw
      try dsimp only at hSw
      go_simp
      try with_reducible rfl
    try simp only [Act.put, List.getElem_toArray, List.getElem_cons_succ, List.getElem_cons_zero, List.setIfInBounds_toArray, List.set_cons_zero, List.set_cons_succ]
    refine wpAnyH_take (i := 3) (oi := _) (v := ?_) rfl (by kernel_rfl) (by kernel_rfl) (by kernel_rfl) (fun _ _ _ h => h) (Or.inl ⟨by rfl, ?_⟩) (by assumption) ?_
    rotate_left 1
    · intro w hSw
      try dsimp only at hSw
      go_simp
      try with_reducible rfl
    try simp only [Act.put, List.getElem_toArray, List.getElem_cons_succ, List.getElem_cons_zero, List.setIfInBounds_toArray, List.set_cons_zero, List.set_cons_succ]
    refine wpAnyH_take (i := 4) (oi := _) (v := ?_) rfl (by kernel_rfl) (by kernel_rfl) (by kernel_rfl) (fun _ _ _ h => h) (Or.inl ⟨by rfl, ?_⟩) (by assumption) ?_
    rotate_left 1
    · intro w hSw
      try dsimp only at hSw
      go_simp
      try with_reducible rfl
    try simp only [Act.put, List.getElem_toArray, List.getElem_cons_succ, List.getElem_cons_zero, List.setIfInBounds_toArray, List.set_cons_zero, List.set_cons_succ]
    refine wpAnyH_take (i := 5) (oi := _) (v := ?_) rfl (by kernel_rfl) (by kernel_rfl) (by kernel_rfl) (fun _ _ _ h => h) (Or.inl ⟨by rfl, ?_⟩) (by assumption) ?_
    rotate_left 1
    · intro w hSw
      try dsimp only at hSw
      go_simp
      try with_reducible rfl
    try simp only [Act.put, List.getElem_toArray, List.getElem_cons_succ, List.getElem_cons_zero, List.setIfInBounds_toArray, List.set_cons_zero, List.set_cons_succ]
    refine wpAnyH_ready (rs := [6]) (by kernel_rfl) (by simp) ?_
    refine AllReadyH.cons (o := _) rfl (fun K hK => ?_) AllReadyH.nil
    go_simp
    go_at_call 10
    have hBk := hHeld0.2.2.2.2.2.2.2.2.2.2.2.2.2.2.2.2.2
    with_reducible refine (val_spec A0 r.n c0 V.k _ (by omega) r.X r.Y (HP0.out.below hBk)).mono ?_
    rintro en z1 ⟨rfl, hb'⟩
    rw [HKP.out]
    try go_simp
    have hB := hBk.trans (hb'.mono hBk.size)
    refine hK.out _ _ (HK.out _ hB) (fun hHeld1 => ?_)
    clear hK K hb' hBk hB hHeld0
    try dsimp only at hHeld1
    try simp only [Act.put, List.getElem_toArray, List.getElem_cons_succ, List.getElem_cons_zero, List.setIfInBounds_toArray, List.set_cons_zero, List.set_cons_succ]
    refine wpAnyH_take (i := 7) (oi := _) (v := ?_) rfl (by kernel_rfl) (by kernel_rfl) (by kernel_rfl) (fun _ _ _ h => h) (Or.inl ⟨by rfl, ?_⟩) (by assumption) ?_
    rotate_left 1
    · intro w hSw
      try dsimp only at hSw
      go_simp
      try with_reducible rfl
    try simp only [Act.put, List.getElem_toArray, List.getElem_cons_succ, List.getElem_cons_zero, List.setIfInBounds_toArray, List.set_cons_zero, List.set_cons_succ]
    refine wpAnyH_done (by kernel_rfl) ?_ _
    go_simp
    have hBn := hHeld1.2.2.2.2.2.2.2.2.2.2.2.2.2.2.2.2.2
    clear hHeld1
    go_wp2_with fail
    by_cases h0 : nn = 0
    · have eq4 : (nn == 0) = true := beq_iff_eq.2 h0
      clear h0
      simp only [List.append_eq, List.cons_append, List.nil_append]
      refine wp_region_held_drew (S := fun w' => w'.cell? ⟨g, 0, none⟩ = some (.slice A0 r.n c0) ∧ w'.cell? ⟨g, 1, none⟩ = some (.int .i64 r.v) ∧ w'.cell? ⟨g, 2, none⟩ = some (.slice D0 r.m d0) ∧ w'.cell? ⟨g, 3, none⟩ = some (.slice A1 t.n c1) ∧ w'.cell? ⟨g, 4, none⟩ = some (.int .i64 t.v) ∧ w'.cell? ⟨g, 5, none⟩ = some (.slice D1 t.m d1) ∧ w'.cell? ⟨bw, 0, none⟩ = some (.int .i64 V.g) ∧ w'.cell? ⟨bw, 1, none⟩ = some (.int .i64 V.o) ∧ w'.cell? ⟨bw, 2, none⟩ = some (.int .i64 V.s) ∧ w'.cell? ⟨bw, 3, none⟩ = some (.int .i64 V.k) ∧ w'.cell? ⟨bw, 4, none⟩ = some (.int .i64 V.w) ∧ w'.cell? ⟨a, 0, none⟩ = some (.slice A5 Ra.n c5) ∧ w'.cell? ⟨a, 1, none⟩ = some (.int .i64 Ra.v) ∧ w'.cell? ⟨a, 2, none⟩ = some (.slice D5 Ra.m d5) ∧ w'.cell? ⟨b, 0, none⟩ = some (.slice A6 Rb.n c6) ∧ w'.cell? ⟨b, 1, none⟩ = some (.int .i64 Rb.v) ∧ w'.cell? ⟨b, 2, none⟩ = some (.slice D6 Rb.m d6) ∧ Below wc.heap.size wc w') (by kernel_rfl) (HK.out _ hBn.drew) (fun hHeld0 => ?_)
      try dsimp only at hHeld0
      refine wpAnyH_take (i := 0) (oi := _) (v := ?_) rfl (by kernel_rfl) (by kernel_rfl) (by kernel_rfl) (fun _ _ _ h => h) (Or.inl ⟨by rfl, ?_⟩) (by assumption) ?_
      rotate_left 1
      · intro w hSw
        try dsimp only at hSw
        go_simp
        try with_reducible rfl
      try simp only [Act.put, List.getElem_toArray, List.getElem_cons_succ, List.getElem_cons_zero, List.setIfInBounds_toArray, List.set_cons_zero, List.set_cons_succ]
      refine wpAnyH_take (i := 1) (oi := _) (v := ?_) rfl (by kernel_rfl) (by kernel_rfl) (by kernel_rfl) (fun _ _ _ h => h) (Or.inl ⟨by rfl, ?_⟩) (by assumption) ?_
      rotate_left 1
      · intro w hSw
        try dsimp only at hSw
        go_simp
        try with_reducible rfl
      try simp only [Act.put, List.getElem_toArray, List.getElem_cons_succ, List.getElem_cons_zero, List.setIfInBounds_toArray, List.set_cons_zero, List.set_cons_succ]
      refine wpAnyH_take (i := 2) (oi := _) (v := ?_) rfl (by kernel_rfl) (by kernel_rfl) (by kernel_rfl) (fun _ _ _ h => h) (Or.inl ⟨by rfl, ?_⟩) (by assumption) ?_
      rotate_left 1
      · intro w hSw
        try dsimp only at hSw
        go_simp
        try with_reducible rfl
      try simp only [Act.put, List.getElem_toArray, List.getElem_cons_succ, List.getElem_cons_zero, List.setIfInBounds_toArray, List.set_cons_zero, List.set_cons_succ]
      refine wpAnyH_take (i := 3) (oi := _) (v := ?_) rfl (by kernel_rfl) (by kernel_rfl) (by kernel_rfl) (fun _ _ _ h => h) (Or.inl ⟨by rfl, ?_⟩) (by assumption) ?_
      rotate_left 1
      · intro w hSw
        try dsimp only at hSw
        go_simp
        try with_reducible rfl
      try simp only [Act.put, List.getElem_toArray, List.getElem_cons_succ, List.getElem_cons_zero, List.setIfInBounds_toArray, List.set_cons_zero, List.set_cons_succ]
      refine wpAnyH_take (i := 4) (oi := _) (v := ?_) rfl (by kernel_rfl) (by kernel_rfl) (by kernel_rfl) (fun _ _ _ h => h) (Or.inl ⟨by rfl, ?_⟩) (by assumption) ?_
      rotate_left 1
      · intro w hSw
        try dsimp only at hSw
        go_simp
        try with_reducible rfl
      try simp only [Act.put, List.getElem_toArray, List.getElem_cons_succ, List.getElem_cons_zero, List.setIfInBounds_toArray, List.set_cons_zero, List.set_cons_succ]
      refine wpAnyH_take (i := 5) (oi := _) (v := ?_) rfl (by kernel_rfl) (by kernel_rfl) (by kernel_rfl) (fun _ _ _ h => h) (Or.inl ⟨by rfl, ?_⟩) (by assumption) ?_
      rotate_left 1
      · intro w hSw
        try dsimp only at hSw
        go_simp
        try with_reducible rfl
      try simp only [Act.put, List.getElem_toArray, List.getElem_cons_succ, List.getElem_cons_zero, List.setIfInBounds_toArray, List.set_cons_zero, List.set_cons_succ]
      refine wpAnyH_take (i := 6) (oi := _) (v := ?_) rfl (by kernel_rfl) (by kernel_rfl) (by kernel_rfl) (fun _ _ _ h => h) (Or.inl ⟨by rfl, ?_⟩) (by assumption) ?_
      rotate_left 1
      · intro w hSw
        try dsimp only at hSw
        go_simp
        try with_reducible rfl
      try simp only [Act.put, List.getElem_toArray, List.getElem_cons_succ, List.getElem_cons_zero, List.setIfInBounds_toArray, List.set_cons_zero, List.set_cons_succ]
      refine wpAnyH_take (i := 7) (oi := _) (v := ?_) rfl (by kernel_rfl) (by kernel_rfl) (by kernel_rfl) (fun _ _ _ h => h) (Or.inl ⟨by rfl, ?_⟩) (by assumption) ?_
      rotate_left 1
      · intro w hSw
        try dsimp only at hSw
        go_simp
        try with_reducible rfl
      try simp only [Act.put, List.getElem_toArray, List.getElem_cons_succ, List.getElem_cons_zero, List.setIfInBounds_toArray, List.set_cons_zero, List.set_cons_succ]
      refine wpAnyH_take (i := 8) (oi := _) (v := ?_) rfl (by kernel_rfl) (by kernel_rfl) (by kernel_rfl) (fun _ _ _ h => h) (Or.inl ⟨by rfl, ?_⟩) (by assumption) ?_
      rotate_left 1
      · intro w hSw
        try dsimp only at hSw
        go_simp
        try with_reducible rfl
      try simp only [Act.put, List.getElem_toArray, List.getElem_cons_succ, List.getElem_cons_zero, List.setIfInBounds_toArray, List.set_cons_zero, List.set_cons_succ]
      refine wpAnyH_take (i := 9) (oi := _) (v := ?_) rfl (by kernel_rfl) (by kernel_rfl) (by kernel_rfl) (fun _ _ _ h => h) (Or.inl ⟨by rfl, ?_⟩) (by assumption) ?_
      rotate_left 1
      · intro w hSw
        try dsimp only at hSw
        go_simp
        try with_reducible rfl
      try simp only [Act.put, List.getElem_toArray, List.getElem_cons_succ, List.getElem_cons_zero, List.setIfInBounds_toArray, List.set_cons_zero, List.set_cons_succ]
      refine wpAnyH_take (i := 10) (oi := _) (v := ?_) rfl (by kernel_rfl) (by kernel_rfl) (by kernel_rfl) (fun _ _ _ h => h) (Or.inl ⟨by rfl, ?_⟩) (by assumption) ?_
      rotate_left 1
      · intro w hSw
        try dsimp only at hSw
        go_simp
        try with_reducible rfl
      try simp only [Act.put, List.getElem_toArray, List.getElem_cons_succ, List.getElem_cons_zero, List.setIfInBounds_toArray, List.set_cons_zero, List.set_cons_succ]
      refine wpAnyH_take (i := 11) (oi := _) (v := ?_) rfl (by kernel_rfl) (by kernel_rfl) (by kernel_rfl) (fun _ _ _ h => h) (Or.inl ⟨by rfl, ?_⟩) (by assumption) ?_
      rotate_left 1
      · intro w hSw
        try dsimp only at hSw
        go_simp
        try with_reducible rfl
      try simp only [Act.put, List.getElem_toArray, List.getElem_cons_succ, List.getElem_cons_zero, List.setIfInBounds_toArray, List.set_cons_zero, List.set_cons_succ]
      refine wpAnyH_take (i := 12) (oi := _) (v := ?_) rfl (by kernel_rfl) (by kernel_rfl) (by kernel_rfl) (fun _ _ _ h => h) (Or.inl ⟨by rfl, ?_⟩) (by assumption) ?_
      rotate_left 1
      · intro w hSw
        try dsimp only at hSw
        go_simp
        try with_reducible rfl
      try simp only [Act.put, List.getElem_toArray, List.getElem_cons_succ, List.getElem_cons_zero, List.setIfInBounds_toArray, List.set_cons_zero, List.set_cons_succ]
      refine wpAnyH_take (i := 13) (oi := _) (v := ?_) rfl (by kernel_rfl) (by kernel_rfl) (by kernel_rfl) (fun _ _ _ h => h) (Or.inl ⟨by rfl, ?_⟩) (by assumption) ?_
      rotate_left 1
      · intro w hSw
        try dsimp only at hSw
        go_simp
        try with_reducible rfl
      try simp only [Act.put, List.getElem_toArray, List.getElem_cons_succ, List.getElem_cons_zero, List.setIfInBounds_toArray, List.set_cons_zero, List.set_cons_succ]
      refine wpAnyH_take (i := 14) (oi := _) (v := ?_) rfl (by kernel_rfl) (by kernel_rfl) (by kernel_rfl) (fun _ _ _ h => h) (Or.inl ⟨by rfl, ?_⟩) (by assumption) ?_
      rotate_left 1
      · intro w hSw
        try dsimp only at hSw
        go_simp
        try with_reducible rfl
      try simp only [Act.put, List.getElem_toArray, List.getElem_cons_succ, List.getElem_cons_zero, List.setIfInBounds_toArray, List.set_cons_zero, List.set_cons_succ]
      refine wpAnyH_take (i := 16) (oi := _) (v := ?_) rfl (by kernel_rfl) (by kernel_rfl) (by kernel_rfl) (fun _ _ _ h => h) (Or.inl ⟨by rfl, ?_⟩) (by assumption) ?_
      rotate_left 1
      · intro w hSw
        try dsimp only at hSw
        go_simp
        try with_reducible rfl
      try simp only [Act.put, List.getElem_toArray, List.getElem_cons_succ, List.getElem_cons_zero, List.setIfInBounds_toArray, List.set_cons_zero, List.set_cons_succ]
      refine wpAnyH_take (i := 19) (oi := _) (v := ?_) rfl (by kernel_rfl) (by kernel_rfl) (by kernel_rfl) (fun _ _ _ h => h) (Or.inl ⟨by rfl, ?_⟩) (by assumption) ?_
      rotate_left 1
      · intro w hSw
        try dsimp only at hSw
        go_simp
        try with_reducible rfl
      try simp only [Act.put, List.getElem_toArray, List.getElem_cons_succ, List.getElem_cons_zero, List.setIfInBounds_toArray, List.set_cons_zero, List.set_cons_succ]
      refine wpAnyH_take (i := 20) (oi := _) (v := ?_) rfl (by kernel_rfl) (by kernel_rfl) (by kernel_rfl) (fun _ _ _ h => h) (Or.inl ⟨by rfl, ?_⟩) (by assumption) ?_
      rotate_left 1
      · intro w hSw
        try dsimp only at hSw
        go_simp
        try with_reducible rfl
      try simp only [Act.put, List.getElem_toArray, List.getElem_cons_succ, List.getElem_cons_zero, List.setIfInBounds_toArray, List.set_cons_zero, List.set_cons_succ]
      refine wpAnyH_take (i := 21) (oi := _) (v := ?_) rfl (by kernel_rfl) (by kernel_rfl) (by kernel_rfl) (fun _ _ _ h => h) (Or.inl ⟨by rfl, ?_⟩) (by assumption) ?_
      rotate_left 1
      · intro w hSw
        try dsimp only at hSw
        go_simp
        try with_reducible rfl
      try simp only [Act.put, List.getElem_toArray, List.getElem_cons_succ, List.getElem_cons_zero, List.setIfInBounds_toArray, List.set_cons_zero, List.set_cons_succ]
      refine wpAnyH_take (i := 23) (oi := _) (v := ?_) rfl (by kernel_rfl) (by kernel_rfl) (by kernel_rfl) (fun _ _ _ h => h) (Or.inl ⟨by rfl, ?_⟩) (by assumption) ?_
      rotate_left 1
      · intro w hSw
        try dsimp only at hSw
        go_simp
        try with_reducible rfl
      try simp only [Act.put, List.getElem_toArray, List.getElem_cons_succ, List.getElem_cons_zero, List.setIfInBounds_toArray, List.set_cons_zero, List.set_cons_succ]
      refine wpAnyH_take (i := 24) (oi := _) (v := ?_) rfl (by kernel_rfl) (by kernel_rfl) (by kernel_rfl) (fun _ _ _ h => h) (Or.inl ⟨by rfl, ?_⟩) (by assumption) ?_
      rotate_left 1
      · intro w hSw
        try dsimp only at hSw
        go_simp
        try with_reducible rfl
      try simp only [Act.put, List.getElem_toArray, List.getElem_cons_succ, List.getElem_cons_zero, List.setIfInBounds_toArray, List.set_cons_zero, List.set_cons_succ]
      refine wpAnyH_take (i := 25) (oi := _) (v := ?_) rfl (by kernel_rfl) (by kernel_rfl) (by kernel_rfl) (fun _ _ _ h => h) (Or.inl ⟨by rfl, ?_⟩) (by assumption) ?_
      rotate_left 1
      · intro w hSw
        try dsimp only at hSw
        go_simp
        try with_reducible rfl
      try simp only [Act.put, List.getElem_toArray, List.getElem_cons_succ, List.getElem_cons_zero, List.setIfInBounds_toArray, List.set_cons_zero, List.set_cons_succ]
      refine wpAnyH_ready (rs := [15]) (by kernel_rfl) (by simp) ?_
      refine AllReadyH.cons (o := _) rfl (fun K hK => ?_) AllReadyH.nil
      go_simp
      go_at_call 16
      have hBk := hHeld0.2.2.2.2.2.2.2.2.2.2.2.2.2.2.2.2.2
      with_reducible refine (tot_impl Ra A5 D5 c5 d5 _ an am (HPa.out.below hBk) (HIa.out.below hBk)).mono ?_
      rintro en z1 ⟨rfl, hb'⟩
      rw [HTA.out]
      try go_simp
      have hB := hBk.trans (hb'.mono hBk.size)
      refine hK.out _ _ (HK.out _ hB) (fun hHeld1 => ?_)
      clear hK K hb' hBk hB hHeld0
      try dsimp only at hHeld1
      try simp only [Act.put, List.getElem_toArray, List.getElem_cons_succ, List.getElem_cons_zero, List.setIfInBounds_toArray, List.set_cons_zero, List.set_cons_succ]
      refine wpAnyH_ready (rs := [17]) (by kernel_rfl) (by simp) ?_
      refine AllReadyH.cons (o := _) rfl (fun K hK => ?_) AllReadyH.nil
      go_simp
      go_at_call 16
      have hBk := hHeld1.2.2.2.2.2.2.2.2.2.2.2.2.2.2.2.2.2
      with_reducible refine (tot_impl Rb A6 D6 c6 d6 _ bn bm (HPb.out.below hBk) (HIb.out.below hBk)).mono ?_
      rintro en z2 ⟨rfl, hb'⟩
      rw [HTB.out]
      try go_simp
      have hB := hBk.trans (hb'.mono hBk.size)
      refine hK.out _ _ (HK.out _ hB) (fun hHeld2 => ?_)
      clear hK K hb' hBk hB hHeld1
      try dsimp only at hHeld2
      try simp only [Act.put, List.getElem_toArray, List.getElem_cons_succ, List.getElem_cons_zero, List.setIfInBounds_toArray, List.set_cons_zero, List.set_cons_succ]
      refine wpAnyH_take (i := 18) (oi := _) (v := ?_) rfl (by kernel_rfl) (by kernel_rfl) (by kernel_rfl) (fun _ _ _ h => h) (Or.inl ⟨by rfl, ?_⟩) (by assumption) ?_
      rotate_left 1
      · intro w hSw
        try dsimp only at hSw
        go_simp
        try with_reducible rfl
      try simp only [Act.put, List.getElem_toArray, List.getElem_cons_succ, List.getElem_cons_zero, List.setIfInBounds_toArray, List.set_cons_zero, List.set_cons_succ]
      refine wpAnyH_ready (rs := [22]) (by kernel_rfl) (by simp) ?_
      refine AllReadyH.cons (o := _) rfl (fun K hK => ?_) AllReadyH.nil
      go_simp
      go_at_call 16
      have hBk := hHeld2.2.2.2.2.2.2.2.2.2.2.2.2.2.2.2.2.2
      with_reducible refine (tot_impl r A0 D0 c0 d0 _ (by omega) (by omega) (HP0.out.below hBk) (HI0.out.below hBk)).mono ?_
      rintro en z3 ⟨rfl, hb'⟩
      rw [HTR.out]
      try go_simp
      have hB := hBk.trans (hb'.mono hBk.size)
      refine hK.out _ _ (HK.out _ hB) (fun hHeld3 => ?_)
      clear hK K hb' hBk hB hHeld2
      try dsimp only at hHeld3
      try simp only [Act.put, List.getElem_toArray, List.getElem_cons_succ, List.getElem_cons_zero, List.setIfInBounds_toArray, List.set_cons_zero, List.set_cons_succ]
      refine wpAnyH_ready (rs := [26]) (by kernel_rfl) (by simp) ?_
      refine AllReadyH.cons (o := _) rfl (fun K hK => ?_) AllReadyH.nil
      go_simp
      go_at_call 16
      have hBk := hHeld3.2.2.2.2.2.2.2.2.2.2.2.2.2.2.2.2.2
      with_reducible refine (tot_impl t A1 D1 c1 d1 _ (by omega) (by omega) (HP1.out.below hBk) (HI1.out.below hBk)).mono ?_
      rintro en z4 ⟨rfl, hb'⟩
      rw [HTT.out]
      try go_simp
      have hB := hBk.trans (hb'.mono hBk.size)
      refine hK.out _ _ (HK.out _ hB) (fun hHeld4 => ?_)
      clear hK K hb' hBk hB hHeld3
      try dsimp only at hHeld4
      try simp only [Act.put, List.getElem_toArray, List.getElem_cons_succ, List.getElem_cons_zero, List.setIfInBounds_toArray, List.set_cons_zero, List.set_cons_succ]
      refine wpAnyH_take (i := 27) (oi := _) (v := ?_) rfl (by kernel_rfl) (by kernel_rfl) (by kernel_rfl) (fun _ _ _ h => h) (Or.inl ⟨by rfl, ?_⟩) (by assumption) ?_
      rotate_left 1
      · intro w hSw
        try dsimp only at hSw
        go_simp
        try with_reducible rfl
      try simp only [Act.put, List.getElem_toArray, List.getElem_cons_succ, List.getElem_cons_zero, List.setIfInBounds_toArray, List.set_cons_zero, List.set_cons_succ]
      refine wpAnyH_take (i := 28) (oi := _) (v := ?_) rfl (by kernel_rfl) (by kernel_rfl) (by kernel_rfl) (fun _ _ _ h => h) (Or.inl ⟨by rfl, ?_⟩) (by assumption) ?_
      rotate_left 1
      · intro w hSw
        try dsimp only at hSw
        go_simp
        try with_reducible rfl
      try simp only [Act.put, List.getElem_toArray, List.getElem_cons_succ, List.getElem_cons_zero, List.setIfInBounds_toArray, List.set_cons_zero, List.set_cons_succ]
      refine wpAnyH_take (i := 29) (oi := _) (v := ?_) rfl (by kernel_rfl) (by kernel_rfl) (by kernel_rfl) (fun _ _ _ h => h) (Or.inl ⟨by rfl, ?_⟩) (by assumption) ?_
      rotate_left 1
      · intro w hSw
        try dsimp only at hSw
        go_simp
        try with_reducible rfl
      try simp only [Act.put, List.getElem_toArray, List.getElem_cons_succ, List.getElem_cons_zero, List.setIfInBounds_toArray, List.set_cons_zero, List.set_cons_succ]
      refine wpAnyH_take (i := 30) (oi := _) (v := ?_) rfl (by kernel_rfl) (by kernel_rfl) (by kernel_rfl) (fun _ _ _ h => h) (Or.inl ⟨by rfl, ?_⟩) (by assumption) ?_
      rotate_left 1
      · intro w hSw
        try dsimp only at hSw
        go_simp
        try with_reducible rfl
      try simp only [Act.put, List.getElem_toArray, List.getElem_cons_succ, List.getElem_cons_zero, List.setIfInBounds_toArray, List.set_cons_zero, List.set_cons_succ]
      refine wpAnyH_take (i := 31) (oi := _) (v := ?_) rfl (by kernel_rfl) (by kernel_rfl) (by kernel_rfl) (fun _ _ _ h => h) (Or.inl ⟨by rfl, ?_⟩) (by assumption) ?_
      rotate_left 1
      · intro w hSw
        try dsimp only at hSw
        go_simp
        try with_reducible rfl
      try simp only [Act.put, List.getElem_toArray, List.getElem_cons_succ, List.getElem_cons_zero, List.setIfInBounds_toArray, List.set_cons_zero, List.set_cons_succ]
      refine wpAnyH_take (i := 33) (oi := _) (v := ?_) rfl (by kernel_rfl) (by kernel_rfl) (by kernel_rfl) (fun _ _ _ h => h) (Or.inl ⟨by rfl, ?_⟩) (by assumption) ?_
      rotate_left 1
      · intro w hSw
        try dsimp only at hSw
        go_simp
        try with_reducible rfl
      try simp only [Act.put, List.getElem_toArray, List.getElem_cons_succ, List.getElem_cons_zero, List.setIfInBounds_toArray, List.set_cons_zero, List.set_cons_succ]
      refine wpAnyH_take (i := 34) (oi := _) (v := ?_) rfl (by kernel_rfl) (by kernel_rfl) (by kernel_rfl) (fun _ _ _ h => h) (Or.inl ⟨by rfl, ?_⟩) (by assumption) ?_
      rotate_left 1
      · intro w hSw
        try dsimp only at hSw
        go_simp
        try with_reducible rfl
      try simp only [Act.put, List.getElem_toArray, List.getElem_cons_succ, List.getElem_cons_zero, List.setIfInBounds_toArray, List.set_cons_zero, List.set_cons_succ]
      refine wpAnyH_take (i := 35) (oi := _) (v := ?_) rfl (by kernel_rfl) (by kernel_rfl) (by kernel_rfl) (fun _ _ _ h => h) (Or.inl ⟨by rfl, ?_⟩) (by assumption) ?_
      rotate_left 1
      · intro w hSw
        try dsimp only at hSw
        go_simp
        try with_reducible rfl
      try simp only [Act.put, List.getElem_toArray, List.getElem_cons_succ, List.getElem_cons_zero, List.setIfInBounds_toArray, List.set_cons_zero, List.set_cons_succ]
      refine wpAnyH_take (i := 37) (oi := _) (v := ?_) rfl (by kernel_rfl) (by kernel_rfl) (by kernel_rfl) (fun _ _ _ h => h) (Or.inl ⟨by rfl, ?_⟩) (by assumption) ?_
      rotate_left 1
      · intro w hSw
        try dsimp only at hSw
        go_simp
        try with_reducible rfl
      try simp only [Act.put, List.getElem_toArray, List.getElem_cons_succ, List.getElem_cons_zero, List.setIfInBounds_toArray, List.set_cons_zero, List.set_cons_succ]
      refine wpAnyH_ready (rs := [32]) (by kernel_rfl) (by simp) ?_
      refine AllReadyH.cons (o := _) rfl (fun K hK => ?_) AllReadyH.nil
      go_simp
      go_at_call 16
      have hBk := hHeld4.2.2.2.2.2.2.2.2.2.2.2.2.2.2.2.2.2
      with_reducible refine (tot_impl Ra A5 D5 c5 d5 _ an am (HPa.out.below hBk) (HIa.out.below hBk)).mono ?_
      rintro en z5 ⟨rfl, hb'⟩
      rw [HTA.out]
      try go_simp
      have hB := hBk.trans (hb'.mono hBk.size)
      refine hK.out _ _ (HK.out _ hB) (fun hHeld5 => ?_)
      clear hK K hb' hBk hB hHeld4
      try dsimp only at hHeld5
      try simp only [Act.put, List.getElem_toArray, List.getElem_cons_succ, List.getElem_cons_zero, List.setIfInBounds_toArray, List.set_cons_zero, List.set_cons_succ]
      refine wpAnyH_ready (rs := [36]) (by kernel_rfl) (by simp) ?_
      refine AllReadyH.cons (o := _) rfl (fun K hK => ?_) AllReadyH.nil
      go_simp
      go_at_call 16
      have hBk := hHeld5.2.2.2.2.2.2.2.2.2.2.2.2.2.2.2.2.2
      with_reducible refine (tot_impl r A0 D0 c0 d0 _ (by omega) (by omega) (HP0.out.below hBk) (HI0.out.below hBk)).mono ?_
      rintro en z6 ⟨rfl, hb'⟩
      rw [HTR.out]
      try go_simp
      have hB := hBk.trans (hb'.mono hBk.size)
      refine hK.out _ _ (HK.out _ hB) (fun hHeld6 => ?_)
      clear hK K hb' hBk hB hHeld5
      try dsimp only at hHeld6
      try simp only [Act.put, List.getElem_toArray, List.getElem_cons_succ, List.getElem_cons_zero, List.setIfInBounds_toArray, List.set_cons_zero, List.set_cons_succ]
      refine wpAnyH_take (i := 38) (oi := _) (v := ?_) rfl (by kernel_rfl) (by kernel_rfl) (by kernel_rfl) (fun _ _ _ h => h) (Or.inl ⟨by rfl, ?_⟩) (by assumption) ?_
      rotate_left 1
      · intro w hSw
        try dsimp only at hSw
        go_simp
        try with_reducible rfl
      try simp only [Act.put, List.getElem_toArray, List.getElem_cons_succ, List.getElem_cons_zero, List.setIfInBounds_toArray, List.set_cons_zero, List.set_cons_succ]
      refine wpAnyH_take (i := 39) (oi := _) (v := ?_) rfl (by kernel_rfl) (by kernel_rfl) (by kernel_rfl) (fun _ _ _ h => h) (Or.inl ⟨by rfl, ?_⟩) (by assumption) ?_
      rotate_left 1
      · intro w hSw
        try dsimp only at hSw
        go_simp
        try with_reducible rfl
      try simp only [Act.put, List.getElem_toArray, List.getElem_cons_succ, List.getElem_cons_zero, List.setIfInBounds_toArray, List.set_cons_zero, List.set_cons_succ]
      refine wpAnyH_take (i := 40) (oi := _) (v := ?_) rfl (by kernel_rfl) (by kernel_rfl) (by kernel_rfl) (fun _ _ _ h => h) (Or.inl ⟨by rfl, ?_⟩) (by assumption) ?_
      rotate_left 1
      · intro w hSw
        try dsimp only at hSw
        go_simp
        try with_reducible rfl
      try simp only [Act.put, List.getElem_toArray, List.getElem_cons_succ, List.getElem_cons_zero, List.setIfInBounds_toArray, List.set_cons_zero, List.set_cons_succ]
      refine wpAnyH_take (i := 41) (oi := _) (v := ?_) rfl (by kernel_rfl) (by kernel_rfl) (by kernel_rfl) (fun _ _ _ h => h) (Or.inl ⟨by rfl, ?_⟩) (by assumption) ?_
      rotate_left 1
      · intro w hSw
        try dsimp only at hSw
        go_simp
        try with_reducible rfl
      try simp only [Act.put, List.getElem_toArray, List.getElem_cons_succ, List.getElem_cons_zero, List.setIfInBounds_toArray, List.set_cons_zero, List.set_cons_succ]
      refine wpAnyH_take (i := 42) (oi := _) (v := ?_) rfl (by kernel_rfl) (by kernel_rfl) (by kernel_rfl) (fun _ _ _ h => h) (Or.inl ⟨by rfl, ?_⟩) (by assumption) ?_
      rotate_left 1
      · intro w hSw
        try dsimp only at hSw
        go_simp
        try with_reducible rfl
      try simp only [Act.put, List.getElem_toArray, List.getElem_cons_succ, List.getElem_cons_zero, List.setIfInBounds_toArray, List.set_cons_zero, List.set_cons_succ]
      refine wpAnyH_take (i := 43) (oi := _) (v := ?_) rfl (by kernel_rfl) (by kernel_rfl) (by kernel_rfl) (fun _ _ _ h => h) (Or.inl ⟨by rfl, ?_⟩) (by assumption) ?_
      rotate_left 1
      · intro w hSw
        try dsimp only at hSw
        go_simp
        try with_reducible rfl
      try simp only [Act.put, List.getElem_toArray, List.getElem_cons_succ, List.getElem_cons_zero, List.setIfInBounds_toArray, List.set_cons_zero, List.set_cons_succ]
      refine wpAnyH_take (i := 44) (oi := _) (v := ?_) rfl (by kernel_rfl) (by kernel_rfl) (by kernel_rfl) (fun _ _ _ h => h) (Or.inl ⟨by rfl, ?_⟩) (by assumption) ?_
      rotate_left 1
      · intro w hSw
        try dsimp only at hSw
        go_simp
        try with_reducible rfl
      try simp only [Act.put, List.getElem_toArray, List.getElem_cons_succ, List.getElem_cons_zero, List.setIfInBounds_toArray, List.set_cons_zero, List.set_cons_succ]
      refine wpAnyH_take (i := 45) (oi := _) (v := undef) rfl (by kernel_rfl) (by kernel_rfl) (by kernel_rfl) (fun _ _ _ h => h) (Or.inr ⟨by rfl, rfl⟩) (by assumption) ?_
      try simp only [Act.put, List.getElem_toArray, List.getElem_cons_succ, List.getElem_cons_zero, List.setIfInBounds_toArray, List.set_cons_zero, List.set_cons_succ]
      refine wpAnyH_take (i := 46) (oi := _) (v := undef) rfl (by kernel_rfl) (by kernel_rfl) (by kernel_rfl) (fun _ _ _ h => h) (Or.inr ⟨by rfl, rfl⟩) (by assumption) ?_
      try simp only [Act.put, List.getElem_toArray, List.getElem_cons_succ, List.getElem_cons_zero, List.setIfInBounds_toArray, List.set_cons_zero, List.set_cons_succ]
      refine wpAnyH_take (i := 47) (oi := _) (v := undef) rfl (by kernel_rfl) (by kernel_rfl) (by kernel_rfl) (fun _ _ _ h => h) (Or.inr ⟨by rfl, rfl⟩) (by assumption) ?_
      try simp only [Act.put, List.getElem_toArray, List.getElem_cons_succ, List.getElem_cons_zero, List.setIfInBounds_toArray, List.set_cons_zero, List.set_cons_succ]
      refine wpAnyH_take (i := 48) (oi := _) (v := undef) rfl (by kernel_rfl) (by kernel_rfl) (by kernel_rfl) (fun _ _ _ h => h) (Or.inr ⟨by rfl, rfl⟩) (by assumption) ?_
      try simp only [Act.put, List.getElem_toArray, List.getElem_cons_succ, List.getElem_cons_zero, List.setIfInBounds_toArray, List.set_cons_zero, List.set_cons_succ]
      refine wpAnyH_take (i := 49) (oi := _) (v := ?_) rfl (by kernel_rfl) (by kernel_rfl) (by kernel_rfl) (fun _ _ _ h => h) (Or.inl ⟨by rfl, ?_⟩) (by assumption) ?_
      rotate_left 1
      · intro w hSw
        try dsimp only at hSw
        go_simp
        try with_reducible rfl
      try simp only [Act.put, List.getElem_toArray, List.getElem_cons_succ, List.getElem_cons_zero, List.setIfInBounds_toArray, List.set_cons_zero, List.set_cons_succ]
      refine wpAnyH_take (i := 50) (oi := _) (v := ?_) rfl (by kernel_rfl) (by kernel_rfl) (by kernel_rfl) (fun _ _ _ h => h) (Or.inl ⟨by rfl, ?_⟩) (by assumption) ?_
      rotate_left 1
      · intro w hSw
        try dsimp only at hSw
        go_simp
        try with_reducible rfl
      try simp only [Act.put, List.getElem_toArray, List.getElem_cons_succ, List.getElem_cons_zero, List.setIfInBounds_toArray, List.set_cons_zero, List.set_cons_succ]
      refine wpAnyH_take (i := 51) (oi := _) (v := ?_) rfl (by kernel_rfl) (by kernel_rfl) (by kernel_rfl) (fun _ _ _ h => h) (Or.inl ⟨by rfl, ?_⟩) (by assumption) ?_
      rotate_left 1
      · intro w hSw
        try dsimp only at hSw
        go_simp
        try with_reducible rfl
      try simp only [Act.put, List.getElem_toArray, List.getElem_cons_succ, List.getElem_cons_zero, List.setIfInBounds_toArray, List.set_cons_zero, List.set_cons_succ]
      refine wpAnyH_take (i := 52) (oi := _) (v := ?_) rfl (by kernel_rfl) (by kernel_rfl) (by kernel_rfl) (fun _ _ _ h => h) (Or.inl ⟨by rfl, ?_⟩) (by assumption) ?_
      rotate_left 1
      · intro w hSw
        try dsimp only at hSw
        go_simp
        try with_reducible rfl
      try simp only [Act.put, List.getElem_toArray, List.getElem_cons_succ, List.getElem_cons_zero, List.setIfInBounds_toArray, List.set_cons_zero, List.set_cons_succ]
      refine wpAnyH_take (i := 53) (oi := _) (v := ?_) rfl (by kernel_rfl) (by kernel_rfl) (by kernel_rfl) (fun _ _ _ h => h) (Or.inl ⟨by rfl, ?_⟩) (by assumption) ?_
      rotate_left 1
      · intro w hSw
        try dsimp only at hSw
        go_simp
        try with_reducible rfl
      try simp only [Act.put, List.getElem_toArray, List.getElem_cons_succ, List.getElem_cons_zero, List.setIfInBounds_toArray, List.set_cons_zero, List.set_cons_succ]
      refine wpAnyH_take (i := 54) (oi := _) (v := ?_) rfl (by kernel_rfl) (by kernel_rfl) (by kernel_rfl) (fun _ _ _ h => h) (Or.inl ⟨by rfl, ?_⟩) (by assumption) ?_
      rotate_left 1
      · intro w hSw
        try dsimp only at hSw
        go_simp
        try with_reducible rfl
      try simp only [Act.put, List.getElem_toArray, List.getElem_cons_succ, List.getElem_cons_zero, List.setIfInBounds_toArray, List.set_cons_zero, List.set_cons_succ]
      refine wpAnyH_take (i := 55) (oi := _) (v := ?_) rfl (by kernel_rfl) (by kernel_rfl) (by kernel_rfl) (fun _ _ _ h => h) (Or.inl ⟨by rfl, ?_⟩) (by assumption) ?_
      rotate_left 1
      · intro w hSw
        try dsimp only at hSw
        go_simp
        try with_reducible rfl
      try simp only [Act.put, List.getElem_toArray, List.getElem_cons_succ, List.getElem_cons_zero, List.setIfInBounds_toArray, List.set_cons_zero, List.set_cons_succ]
      refine wpAnyH_take (i := 56) (oi := _) (v := ?_) rfl (by kernel_rfl) (by kernel_rfl) (by kernel_rfl) (fun _ _ _ h => h) (Or.inl ⟨by rfl, ?_⟩) (by assumption) ?_
      rotate_left 1
      · intro w hSw
        try dsimp only at hSw
        go_simp
        try with_reducible rfl
      try simp only [Act.put, List.getElem_toArray, List.getElem_cons_succ, List.getElem_cons_zero, List.setIfInBounds_toArray, List.set_cons_zero, List.set_cons_succ]
      refine wpAnyH_take (i := 58) (oi := _) (v := ?_) rfl (by kernel_rfl) (by kernel_rfl) (by kernel_rfl) (fun _ _ _ h => h) (Or.inl ⟨by rfl, ?_⟩) (by assumption) ?_
      rotate_left 1
      · intro w hSw
        try dsimp only at hSw
        go_simp
        try with_reducible rfl
      try simp only [Act.put, List.getElem_toArray, List.getElem_cons_succ, List.getElem_cons_zero, List.setIfInBounds_toArray, List.set_cons_zero, List.set_cons_succ]
      refine wpAnyH_take (i := 59) (oi := _) (v := ?_) rfl (by kernel_rfl) (by kernel_rfl) (by kernel_rfl) (fun _ _ _ h => h) (Or.inl ⟨by rfl, ?_⟩) (by assumption) ?_
      rotate_left 1
      · intro w hSw
        try dsimp only at hSw
        go_simp
        try with_reducible rfl
      try simp only [Act.put, List.getElem_toArray, List.getElem_cons_succ, List.getElem_cons_zero, List.setIfInBounds_toArray, List.set_cons_zero, List.set_cons_succ]
      refine wpAnyH_take (i := 60) (oi := _) (v := ?_) rfl (by kernel_rfl) (by kernel_rfl) (by kernel_rfl) (fun _ _ _ h => h) (Or.inl ⟨by rfl, ?_⟩) (by assumption) ?_
      rotate_left 1
      · intro w hSw
        try dsimp only at hSw
        go_simp
        try with_reducible rfl
      try simp only [Act.put, List.getElem_toArray, List.getElem_cons_succ, List.getElem_cons_zero, List.setIfInBounds_toArray, List.set_cons_zero, List.set_cons_succ]
      refine wpAnyH_ready (rs := [57]) (by kernel_rfl) (by simp) ?_
      refine AllReadyH.cons (o := _) rfl (fun K hK => ?_) AllReadyH.nil
      go_simp
      go_at_call 18
      have hBk := hHeld6.2.2.2.2.2.2.2.2.2.2.2.2.2.2.2.2.2
      with_reducible refine (level_spec r A0 D0 c0 d0 _ (by omega) (by omega) (HP0.out.below hBk) (HI0.out.below hBk)).mono ?_
      rintro en z7 ⟨rfl, hb'⟩
      rw [HL1.out]
      try go_simp
      have hB := hBk.trans (hb'.mono hBk.size)
      refine hK.out _ _ (HK.out _ hB) (fun hHeld7 => ?_)
      clear hK K hb' hBk hB hHeld6
      try dsimp only at hHeld7
      try simp only [Act.put, List.getElem_toArray, List.getElem_cons_succ, List.getElem_cons_zero, List.setIfInBounds_toArray, List.set_cons_zero, List.set_cons_succ]
      refine wpAnyH_ready (rs := [61]) (by kernel_rfl) (by simp) ?_
      refine AllReadyH.cons (o := _) rfl (fun K hK => ?_) AllReadyH.nil
      go_simp
      go_at_call 18
      have hBk := hHeld7.2.2.2.2.2.2.2.2.2.2.2.2.2.2.2.2.2
      with_reducible refine (level_spec t A1 D1 c1 d1 _ (by omega) (by omega) (HP1.out.below hBk) (HI1.out.below hBk)).mono ?_
      rintro en z8 ⟨rfl, hb'⟩
      rw [HL2.out]
      try go_simp
      have hB := hBk.trans (hb'.mono hBk.size)
      refine hK.out _ _ (HK.out _ hB) (fun hHeld8 => ?_)
      clear hK K hb' hBk hB hHeld7
      try dsimp only at hHeld8
      try simp only [Act.put, List.getElem_toArray, List.getElem_cons_succ, List.getElem_cons_zero, List.setIfInBounds_toArray, List.set_cons_zero, List.set_cons_succ]
      refine wpAnyH_ready (rs := [62]) (by kernel_rfl) (by simp) ?_
      refine AllReadyH.cons (o := _) rfl (fun K hK => ?_) AllReadyH.nil
      go_simp
      go_at_call 17
      have hBk := hHeld8.2.2.2.2.2.2.2.2.2.2.2.2.2.2.2.2.2
      with_reducible refine (gflow_impl V l1 l2 _).mono ?_
      rintro en z9 ⟨rfl, hb'⟩
      rw [HFL.out]
      try go_simp
      have hB := hBk.trans (hb'.mono hBk.size)
      refine hK.out _ _ (HK.out _ hB) (fun hHeld9 => ?_)
      clear hK K hb' hBk hB hHeld8
      try dsimp only at hHeld9
      try simp only [Act.put, List.getElem_toArray, List.getElem_cons_succ, List.getElem_cons_zero, List.setIfInBounds_toArray, List.set_cons_zero, List.set_cons_succ]
      refine wpAnyH_take (i := 63) (oi := _) (v := ?_) rfl (by kernel_rfl) (by kernel_rfl) (by kernel_rfl) (fun _ _ _ h => h) (Or.inl ⟨by rfl, ?_⟩) (by assumption) ?_
      rotate_left 1
      · intro w hSw
        try dsimp only at hSw
        go_simp
        try with_reducible rfl
      try simp only [Act.put, List.getElem_toArray, List.getElem_cons_succ, List.getElem_cons_zero, List.setIfInBounds_toArray, List.set_cons_zero, List.set_cons_succ]
      refine wpAnyH_take (i := 64) (oi := _) (v := ?_) rfl (by kernel_rfl) (by kernel_rfl) (by kernel_rfl) (fun _ _ _ h => h) (Or.inl ⟨by rfl, ?_⟩) (by assumption) ?_
      rotate_left 1
      · intro w hSw
        try dsimp only at hSw
        go_simp
        try with_reducible rfl
      try simp only [Act.put, List.getElem_toArray, List.getElem_cons_succ, List.getElem_cons_zero, List.setIfInBounds_toArray, List.set_cons_zero, List.set_cons_succ]
      refine wpAnyH_take (i := 65) (oi := _) (v := ?_) rfl (by kernel_rfl) (by kernel_rfl) (by kernel_rfl) (fun _ _ _ h => h) (Or.inl ⟨by rfl, ?_⟩) (by assumption) ?_
      rotate_left 1
      · intro w hSw
        try dsimp only at hSw
        go_simp
        try with_reducible rfl
      try simp only [Act.put, List.getElem_toArray, List.getElem_cons_succ, List.getElem_cons_zero, List.setIfInBounds_toArray, List.set_cons_zero, List.set_cons_succ]
      refine wpAnyH_done (by kernel_rfl) ?_ _
      go_simp
      have hb9 := hHeld9.2.2.2.2.2.2.2.2.2.2.2.2.2.2.2.2.2
      clear hHeld9
      go_wp2
      go_ret
      exact ⟨rfl, HBz.out.trans (hb9.mono HBz.out.size)⟩
    · have eq4 : (nn == 0) = false := beq_eq_false_iff_ne.2 h0
      have eq5 : decide (kp ≤ Ra.v) = true := decide_eq_true (HF8.out.resolve_left h0)
      clear h0
      simp only [List.append_eq, List.cons_append, List.nil_append]
      refine wp_region_held_drew (S := fun w' => w'.cell? ⟨g, 0, none⟩ = some (.slice A0 r.n c0) ∧ w'.cell? ⟨g, 1, none⟩ = some (.int .i64 r.v) ∧ w'.cell? ⟨g, 2, none⟩ = some (.slice D0 r.m d0) ∧ w'.cell? ⟨g, 3, none⟩ = some (.slice A1 t.n c1) ∧ w'.cell? ⟨g, 4, none⟩ = some (.int .i64 t.v) ∧ w'.cell? ⟨g, 5, none⟩ = some (.slice D1 t.m d1) ∧ w'.cell? ⟨bw, 0, none⟩ = some (.int .i64 V.g) ∧ w'.cell? ⟨bw, 1, none⟩ = some (.int .i64 V.o) ∧ w'.cell? ⟨bw, 2, none⟩ = some (.int .i64 V.s) ∧ w'.cell? ⟨bw, 3, none⟩ = some (.int .i64 V.k) ∧ w'.cell? ⟨bw, 4, none⟩ = some (.int .i64 V.w) ∧ w'.cell? ⟨a, 0, none⟩ = some (.slice A5 Ra.n c5) ∧ w'.cell? ⟨a, 1, none⟩ = some (.int .i64 Ra.v) ∧ w'.cell? ⟨a, 2, none⟩ = some (.slice D5 Ra.m d5) ∧ w'.cell? ⟨b, 0, none⟩ = some (.slice A6 Rb.n c6) ∧ w'.cell? ⟨b, 1, none⟩ = some (.int .i64 Rb.v) ∧ w'.cell? ⟨b, 2, none⟩ = some (.slice D6 Rb.m d6) ∧ Below wc.heap.size wc w') (by kernel_rfl) (HK.out _ hBn.drew) (fun hHeld0 => ?_)
      try dsimp only at hHeld0
      refine wpAnyH_take (i := 0) (oi := _) (v := ?_) rfl (by kernel_rfl) (by kernel_rfl) (by kernel_rfl) (fun _ _ _ h => h) (Or.inl ⟨by rfl, ?_⟩) (by assumption) ?_
      rotate_left 1
      · intro w hSw
        try dsimp only at hSw
        go_simp
        try with_reducible rfl
      try simp only [Act.put, List.getElem_toArray, List.getElem_cons_succ, List.getElem_cons_zero, List.setIfInBounds_toArray, List.set_cons_zero, List.set_cons_succ]
      refine wpAnyH_take (i := 1) (oi := _) (v := ?_) rfl (by kernel_rfl) (by kernel_rfl) (by kernel_rfl) (fun _ _ _ h => h) (Or.inl ⟨by rfl, ?_⟩) (by assumption) ?_
      rotate_left 1
      · intro w hSw
        try dsimp only at hSw
        go_simp
        try with_reducible rfl
      try simp only [Act.put, List.getElem_toArray, List.getElem_cons_succ, List.getElem_cons_zero, List.setIfInBounds_toArray, List.set_cons_zero, List.set_cons_succ]
      refine wpAnyH_take (i := 2) (oi := _) (v := ?_) rfl (by kernel_rfl) (by kernel_rfl) (by kernel_rfl) (fun _ _ _ h => h) (Or.inl ⟨by rfl, ?_⟩) (by assumption) ?_
      rotate_left 1
      · intro w hSw
        try dsimp only at hSw
        go_simp
        try with_reducible rfl
      try simp only [Act.put, List.getElem_toArray, List.getElem_cons_succ, List.getElem_cons_zero, List.setIfInBounds_toArray, List.set_cons_zero, List.set_cons_succ]
      refine wpAnyH_take (i := 3) (oi := _) (v := ?_) rfl (by kernel_rfl) (by kernel_rfl) (by kernel_rfl) (fun _ _ _ h => h) (Or.inl ⟨by rfl, ?_⟩) (by assumption) ?_
      rotate_left 1
      · intro w hSw
        try dsimp only at hSw
        go_simp
        try with_reducible rfl
      try simp only [Act.put, List.getElem_toArray, List.getElem_cons_succ, List.getElem_cons_zero, List.setIfInBounds_toArray, List.set_cons_zero, List.set_cons_succ]
      refine wpAnyH_take (i := 4) (oi := _) (v := ?_) rfl (by kernel_rfl) (by kernel_rfl) (by kernel_rfl) (fun _ _ _ h => h) (Or.inl ⟨by rfl, ?_⟩) (by assumption) ?_
      rotate_left 1
      · intro w hSw
        try dsimp only at hSw
        go_simp
        try with_reducible rfl
      try simp only [Act.put, List.getElem_toArray, List.getElem_cons_succ, List.getElem_cons_zero, List.setIfInBounds_toArray, List.set_cons_zero, List.set_cons_succ]
      refine wpAnyH_take (i := 5) (oi := _) (v := ?_) rfl (by kernel_rfl) (by kernel_rfl) (by kernel_rfl) (fun _ _ _ h => h) (Or.inl ⟨by rfl, ?_⟩) (by assumption) ?_
      rotate_left 1
      · intro w hSw
        try dsimp only at hSw
        go_simp
        try with_reducible rfl
      try simp only [Act.put, List.getElem_toArray, List.getElem_cons_succ, List.getElem_cons_zero, List.setIfInBounds_toArray, List.set_cons_zero, List.set_cons_succ]
      refine wpAnyH_take (i := 6) (oi := _) (v := ?_) rfl (by kernel_rfl) (by kernel_rfl) (by kernel_rfl) (fun _ _ _ h => h) (Or.inl ⟨by rfl, ?_⟩) (by assumption) ?_
      rotate_left 1
      · intro w hSw
        try dsimp only at hSw
        go_simp
        try with_reducible rfl
      try simp only [Act.put, List.getElem_toArray, List.getElem_cons_succ, List.getElem_cons_zero, List.setIfInBounds_toArray, List.set_cons_zero, List.set_cons_succ]
      refine wpAnyH_take (i := 7) (oi := _) (v := ?_) rfl (by kernel_rfl) (by kernel_rfl) (by kernel_rfl) (fun _ _ _ h => h) (Or.inl ⟨by rfl, ?_⟩) (by assumption) ?_
      rotate_left 1
      · intro w hSw
        try dsimp only at hSw
        go_simp
        try with_reducible rfl
      try simp only [Act.put, List.getElem_toArray, List.getElem_cons_succ, List.getElem_cons_zero, List.setIfInBounds_toArray, List.set_cons_zero, List.set_cons_succ]
      refine wpAnyH_take (i := 8) (oi := _) (v := ?_) rfl (by kernel_rfl) (by kernel_rfl) (by kernel_rfl) (fun _ _ _ h => h) (Or.inl ⟨by rfl, ?_⟩) (by assumption) ?_
      rotate_left 1
      · intro w hSw
        try dsimp only at hSw
        go_simp
        try with_reducible rfl
      try simp only [Act.put, List.getElem_toArray, List.getElem_cons_succ, List.getElem_cons_zero, List.setIfInBounds_toArray, List.set_cons_zero, List.set_cons_succ]
      refine wpAnyH_take (i := 9) (oi := _) (v := ?_) rfl (by kernel_rfl) (by kernel_rfl) (by kernel_rfl) (fun _ _ _ h => h) (Or.inl ⟨by rfl, ?_⟩) (by assumption) ?_
      rotate_left 1
      · intro w hSw
        try dsimp only at hSw
        go_simp
        try with_reducible rfl
      try simp only [Act.put, List.getElem_toArray, List.getElem_cons_succ, List.getElem_cons_zero, List.setIfInBounds_toArray, List.set_cons_zero, List.set_cons_succ]
      refine wpAnyH_take (i := 10) (oi := _) (v := ?_) rfl (by kernel_rfl) (by kernel_rfl) (by kernel_rfl) (fun _ _ _ h => h) (Or.inl ⟨by rfl, ?_⟩) (by assumption) ?_
      rotate_left 1
      · intro w hSw
        try dsimp only at hSw
        go_simp
        try with_reducible rfl
      try simp only [Act.put, List.getElem_toArray, List.getElem_cons_succ, List.getElem_cons_zero, List.setIfInBounds_toArray, List.set_cons_zero, List.set_cons_succ]
      refine wpAnyH_take (i := 11) (oi := _) (v := ?_) rfl (by kernel_rfl) (by kernel_rfl) (by kernel_rfl) (fun _ _ _ h => h) (Or.inl ⟨by rfl, ?_⟩) (by assumption) ?_
      rotate_left 1
      · intro w hSw
        try dsimp only at hSw
        go_simp
        try with_reducible rfl
      try simp only [Act.put, List.getElem_toArray, List.getElem_cons_succ, List.getElem_cons_zero, List.setIfInBounds_toArray, List.set_cons_zero, List.set_cons_succ]
      refine wpAnyH_take (i := 12) (oi := _) (v := ?_) rfl (by kernel_rfl) (by kernel_rfl) (by kernel_rfl) (fun _ _ _ h => h) (Or.inl ⟨by rfl, ?_⟩) (by assumption) ?_
      rotate_left 1
      · intro w hSw
        try dsimp only at hSw
        go_simp
        try with_reducible rfl
      try simp only [Act.put, List.getElem_toArray, List.getElem_cons_succ, List.getElem_cons_zero, List.setIfInBounds_toArray, List.set_cons_zero, List.set_cons_succ]
      refine wpAnyH_take (i := 13) (oi := _) (v := ?_) rfl (by kernel_rfl) (by kernel_rfl) (by kernel_rfl) (fun _ _ _ h => h) (Or.inl ⟨by rfl, ?_⟩) (by assumption) ?_
      rotate_left 1
      · intro w hSw
        try dsimp only at hSw
        go_simp
        try with_reducible rfl
      try simp only [Act.put, List.getElem_toArray, List.getElem_cons_succ, List.getElem_cons_zero, List.setIfInBounds_toArray, List.set_cons_zero, List.set_cons_succ]
      refine wpAnyH_take (i := 14) (oi := _) (v := ?_) rfl (by kernel_rfl) (by kernel_rfl) (by kernel_rfl) (fun _ _ _ h => h) (Or.inl ⟨by rfl, ?_⟩) (by assumption) ?_
      rotate_left 1
      · intro w hSw
        try dsimp only at hSw
        go_simp
        try with_reducible rfl
      try simp only [Act.put, List.getElem_toArray, List.getElem_cons_succ, List.getElem_cons_zero, List.setIfInBounds_toArray, List.set_cons_zero, List.set_cons_succ]
      refine wpAnyH_take (i := 16) (oi := _) (v := ?_) rfl (by kernel_rfl) (by kernel_rfl) (by kernel_rfl) (fun _ _ _ h => h) (Or.inl ⟨by rfl, ?_⟩) (by assumption) ?_
      rotate_left 1
      · intro w hSw
        try dsimp only at hSw
        go_simp
        try with_reducible rfl
      try simp only [Act.put, List.getElem_toArray, List.getElem_cons_succ, List.getElem_cons_zero, List.setIfInBounds_toArray, List.set_cons_zero, List.set_cons_succ]
      refine wpAnyH_take (i := 19) (oi := _) (v := ?_) rfl (by kernel_rfl) (by kernel_rfl) (by kernel_rfl) (fun _ _ _ h => h) (Or.inl ⟨by rfl, ?_⟩) (by assumption) ?_
      rotate_left 1
      · intro w hSw
        try dsimp only at hSw
        go_simp
        try with_reducible rfl
      try simp only [Act.put, List.getElem_toArray, List.getElem_cons_succ, List.getElem_cons_zero, List.setIfInBounds_toArray, List.set_cons_zero, List.set_cons_succ]
      refine wpAnyH_take (i := 20) (oi := _) (v := ?_) rfl (by kernel_rfl) (by kernel_rfl) (by kernel_rfl) (fun _ _ _ h => h) (Or.inl ⟨by rfl, ?_⟩) (by assumption) ?_
      rotate_left 1
      · intro w hSw
        try dsimp only at hSw
        go_simp
        try with_reducible rfl
      try simp only [Act.put, List.getElem_toArray, List.getElem_cons_succ, List.getElem_cons_zero, List.setIfInBounds_toArray, List.set_cons_zero, List.set_cons_succ]
      refine wpAnyH_take (i := 21) (oi := _) (v := ?_) rfl (by kernel_rfl) (by kernel_rfl) (by kernel_rfl) (fun _ _ _ h => h) (Or.inl ⟨by rfl, ?_⟩) (by assumption) ?_
      rotate_left 1
      · intro w hSw
        try dsimp only at hSw
        go_simp
        try with_reducible rfl
      try simp only [Act.put, List.getElem_toArray, List.getElem_cons_succ, List.getElem_cons_zero, List.setIfInBounds_toArray, List.set_cons_zero, List.set_cons_succ]
      refine wpAnyH_take (i := 23) (oi := _) (v := ?_) rfl (by kernel_rfl) (by kernel_rfl) (by kernel_rfl) (fun _ _ _ h => h) (Or.inl ⟨by rfl, ?_⟩) (by assumption) ?_
      rotate_left 1
      · intro w hSw
        try dsimp only at hSw
        go_simp
        try with_reducible rfl
      try simp only [Act.put, List.getElem_toArray, List.getElem_cons_succ, List.getElem_cons_zero, List.setIfInBounds_toArray, List.set_cons_zero, List.set_cons_succ]
      refine wpAnyH_take (i := 24) (oi := _) (v := ?_) rfl (by kernel_rfl) (by kernel_rfl) (by kernel_rfl) (fun _ _ _ h => h) (Or.inl ⟨by rfl, ?_⟩) (by assumption) ?_
      rotate_left 1
      · intro w hSw
        try dsimp only at hSw
        go_simp
        try with_reducible rfl
      try simp only [Act.put, List.getElem_toArray, List.getElem_cons_succ, List.getElem_cons_zero, List.setIfInBounds_toArray, List.set_cons_zero, List.set_cons_succ]
      refine wpAnyH_take (i := 25) (oi := _) (v := ?_) rfl (by kernel_rfl) (by kernel_rfl) (by kernel_rfl) (fun _ _ _ h => h) (Or.inl ⟨by rfl, ?_⟩) (by assumption) ?_
      rotate_left 1
      · intro w hSw
        try dsimp only at hSw
        go_simp
        try with_reducible rfl
      try simp only [Act.put, List.getElem_toArray, List.getElem_cons_succ, List.getElem_cons_zero, List.setIfInBounds_toArray, List.set_cons_zero, List.set_cons_succ]
      refine wpAnyH_ready (rs := [15]) (by kernel_rfl) (by simp) ?_
      refine AllReadyH.cons (o := _) rfl (fun K hK => ?_) AllReadyH.nil
      go_simp
      go_at_call 16
      have hBk := hHeld0.2.2.2.2.2.2.2.2.2.2.2.2.2.2.2.2.2
      with_reducible refine (tot_impl Ra A5 D5 c5 d5 _ an am (HPa.out.below hBk) (HIa.out.below hBk)).mono ?_
      rintro en z1 ⟨rfl, hb'⟩
      rw [HTA.out]
      try go_simp
      have hB := hBk.trans (hb'.mono hBk.size)
      refine hK.out _ _ (HK.out _ hB) (fun hHeld1 => ?_)
      clear hK K hb' hBk hB hHeld0
      try dsimp only at hHeld1
      try simp only [Act.put, List.getElem_toArray, List.getElem_cons_succ, List.getElem_cons_zero, List.setIfInBounds_toArray, List.set_cons_zero, List.set_cons_succ]
      refine wpAnyH_ready (rs := [17]) (by kernel_rfl) (by simp) ?_
      refine AllReadyH.cons (o := _) rfl (fun K hK => ?_) AllReadyH.nil
      go_simp
      go_at_call 16
      have hBk := hHeld1.2.2.2.2.2.2.2.2.2.2.2.2.2.2.2.2.2
      with_reducible refine (tot_impl Rb A6 D6 c6 d6 _ bn bm (HPb.out.below hBk) (HIb.out.below hBk)).mono ?_
      rintro en z2 ⟨rfl, hb'⟩
      rw [HTB.out]
      try go_simp
      have hB := hBk.trans (hb'.mono hBk.size)
      refine hK.out _ _ (HK.out _ hB) (fun hHeld2 => ?_)
      clear hK K hb' hBk hB hHeld1
      try dsimp only at hHeld2
      try simp only [Act.put, List.getElem_toArray, List.getElem_cons_succ, List.getElem_cons_zero, List.setIfInBounds_toArray, List.set_cons_zero, List.set_cons_succ]
      refine wpAnyH_take (i := 18) (oi := _) (v := ?_) rfl (by kernel_rfl) (by kernel_rfl) (by kernel_rfl) (fun _ _ _ h => h) (Or.inl ⟨by rfl, ?_⟩) (by assumption) ?_
      rotate_left 1
      · intro w hSw
        try dsimp only at hSw
        go_simp
        try with_reducible rfl
      try simp only [Act.put, List.getElem_toArray, List.getElem_cons_succ, List.getElem_cons_zero, List.setIfInBounds_toArray, List.set_cons_zero, List.set_cons_succ]
      refine wpAnyH_ready (rs := [22]) (by kernel_rfl) (by simp) ?_
      refine AllReadyH.cons (o := _) rfl (fun K hK => ?_) AllReadyH.nil
      go_simp
      go_at_call 16
      have hBk := hHeld2.2.2.2.2.2.2.2.2.2.2.2.2.2.2.2.2.2
      with_reducible refine (tot_impl r A0 D0 c0 d0 _ (by omega) (by omega) (HP0.out.below hBk) (HI0.out.below hBk)).mono ?_
      rintro en z3 ⟨rfl, hb'⟩
      rw [HTR.out]
      try go_simp
      have hB := hBk.trans (hb'.mono hBk.size)
      refine hK.out _ _ (HK.out _ hB) (fun hHeld3 => ?_)
      clear hK K hb' hBk hB hHeld2
      try dsimp only at hHeld3
      try simp only [Act.put, List.getElem_toArray, List.getElem_cons_succ, List.getElem_cons_zero, List.setIfInBounds_toArray, List.set_cons_zero, List.set_cons_succ]
      refine wpAnyH_ready (rs := [26]) (by kernel_rfl) (by simp) ?_
      refine AllReadyH.cons (o := _) rfl (fun K hK => ?_) AllReadyH.nil
      go_simp
      go_at_call 16
      have hBk := hHeld3.2.2.2.2.2.2.2.2.2.2.2.2.2.2.2.2.2
      with_reducible refine (tot_impl t A1 D1 c1 d1 _ (by omega) (by omega) (HP1.out.below hBk) (HI1.out.below hBk)).mono ?_
      rintro en z4 ⟨rfl, hb'⟩
      rw [HTT.out]
      try go_simp
      have hB := hBk.trans (hb'.mono hBk.size)
      refine hK.out _ _ (HK.out _ hB) (fun hHeld4 => ?_)
      clear hK K hb' hBk hB hHeld3
      try dsimp only at hHeld4
      try simp only [Act.put, List.getElem_toArray, List.getElem_cons_succ, List.getElem_cons_zero, List.setIfInBounds_toArray, List.set_cons_zero, List.set_cons_succ]
      refine wpAnyH_take (i := 27) (oi := _) (v := ?_) rfl (by kernel_rfl) (by kernel_rfl) (by kernel_rfl) (fun _ _ _ h => h) (Or.inl ⟨by rfl, ?_⟩) (by assumption) ?_
      rotate_left 1
      · intro w hSw
        try dsimp only at hSw
        go_simp
        try with_reducible rfl
      try simp only [Act.put, List.getElem_toArray, List.getElem_cons_succ, List.getElem_cons_zero, List.setIfInBounds_toArray, List.set_cons_zero, List.set_cons_succ]
      refine wpAnyH_take (i := 28) (oi := _) (v := ?_) rfl (by kernel_rfl) (by kernel_rfl) (by kernel_rfl) (fun _ _ _ h => h) (Or.inl ⟨by rfl, ?_⟩) (by assumption) ?_
      rotate_left 1
      · intro w hSw
        try dsimp only at hSw
        go_simp
        try with_reducible rfl
      try simp only [Act.put, List.getElem_toArray, List.getElem_cons_succ, List.getElem_cons_zero, List.setIfInBounds_toArray, List.set_cons_zero, List.set_cons_succ]
      refine wpAnyH_take (i := 29) (oi := _) (v := ?_) rfl (by kernel_rfl) (by kernel_rfl) (by kernel_rfl) (fun _ _ _ h => h) (Or.inl ⟨by rfl, ?_⟩) (by assumption) ?_
      rotate_left 1
      · intro w hSw
        try dsimp only at hSw
        go_simp
        try with_reducible rfl
      try simp only [Act.put, List.getElem_toArray, List.getElem_cons_succ, List.getElem_cons_zero, List.setIfInBounds_toArray, List.set_cons_zero, List.set_cons_succ]
      refine wpAnyH_take (i := 30) (oi := _) (v := ?_) rfl (by kernel_rfl) (by kernel_rfl) (by kernel_rfl) (fun _ _ _ h => h) (Or.inl ⟨by rfl, ?_⟩) (by assumption) ?_
      rotate_left 1
      · intro w hSw
        try dsimp only at hSw
        go_simp
        try with_reducible rfl
      try simp only [Act.put, List.getElem_toArray, List.getElem_cons_succ, List.getElem_cons_zero, List.setIfInBounds_toArray, List.set_cons_zero, List.set_cons_succ]
      refine wpAnyH_take (i := 31) (oi := _) (v := ?_) rfl (by kernel_rfl) (by kernel_rfl) (by kernel_rfl) (fun _ _ _ h => h) (Or.inl ⟨by rfl, ?_⟩) (by assumption) ?_
      rotate_left 1
      · intro w hSw
        try dsimp only at hSw
        go_simp
        try with_reducible rfl
      try simp only [Act.put, List.getElem_toArray, List.getElem_cons_succ, List.getElem_cons_zero, List.setIfInBounds_toArray, List.set_cons_zero, List.set_cons_succ]
      refine wpAnyH_take (i := 33) (oi := _) (v := ?_) rfl (by kernel_rfl) (by kernel_rfl) (by kernel_rfl) (fun _ _ _ h => h) (Or.inl ⟨by rfl, ?_⟩) (by assumption) ?_
      rotate_left 1
      · intro w hSw
        try dsimp only at hSw
        go_simp
        try with_reducible rfl
      try simp only [Act.put, List.getElem_toArray, List.getElem_cons_succ, List.getElem_cons_zero, List.setIfInBounds_toArray, List.set_cons_zero, List.set_cons_succ]
      refine wpAnyH_take (i := 34) (oi := _) (v := ?_) rfl (by kernel_rfl) (by kernel_rfl) (by kernel_rfl) (fun _ _ _ h => h) (Or.inl ⟨by rfl, ?_⟩) (by assumption) ?_
      rotate_left 1
      · intro w hSw
        try dsimp only at hSw
        go_simp
        try with_reducible rfl
      try simp only [Act.put, List.getElem_toArray, List.getElem_cons_succ, List.getElem_cons_zero, List.setIfInBounds_toArray, List.set_cons_zero, List.set_cons_succ]
      refine wpAnyH_take (i := 35) (oi := _) (v := ?_) rfl (by kernel_rfl) (by kernel_rfl) (by kernel_rfl) (fun _ _ _ h => h) (Or.inl ⟨by rfl, ?_⟩) (by assumption) ?_
      rotate_left 1
      · intro w hSw
        try dsimp only at hSw
        go_simp
        try with_reducible rfl
      try simp only [Act.put, List.getElem_toArray, List.getElem_cons_succ, List.getElem_cons_zero, List.setIfInBounds_toArray, List.set_cons_zero, List.set_cons_succ]
      refine wpAnyH_take (i := 37) (oi := _) (v := ?_) rfl (by kernel_rfl) (by kernel_rfl) (by kernel_rfl) (fun _ _ _ h => h) (Or.inl ⟨by rfl, ?_⟩) (by assumption) ?_
      rotate_left 1
      · intro w hSw
        try dsimp only at hSw
        go_simp
        try with_reducible rfl
      try simp only [Act.put, List.getElem_toArray, List.getElem_cons_succ, List.getElem_cons_zero, List.setIfInBounds_toArray, List.set_cons_zero, List.set_cons_succ]
      refine wpAnyH_ready (rs := [32]) (by kernel_rfl) (by simp) ?_
      refine AllReadyH.cons (o := _) rfl (fun K hK => ?_) AllReadyH.nil
      go_simp
      go_at_call 16
      have hBk := hHeld4.2.2.2.2.2.2.2.2.2.2.2.2.2.2.2.2.2
      with_reducible refine (tot_impl Ra A5 D5 c5 d5 _ an am (HPa.out.below hBk) (HIa.out.below hBk)).mono ?_
      rintro en z5 ⟨rfl, hb'⟩
      rw [HTA.out]
      try go_simp
      have hB := hBk.trans (hb'.mono hBk.size)
      refine hK.out _ _ (HK.out _ hB) (fun hHeld5 => ?_)
      clear hK K hb' hBk hB hHeld4
      try dsimp only at hHeld5
      try simp only [Act.put, List.getElem_toArray, List.getElem_cons_succ, List.getElem_cons_zero, List.setIfInBounds_toArray, List.set_cons_zero, List.set_cons_succ]
      refine wpAnyH_ready (rs := [36]) (by kernel_rfl) (by simp) ?_
      refine AllReadyH.cons (o := _) rfl (fun K hK => ?_) AllReadyH.nil
      go_simp
      go_at_call 16
      have hBk := hHeld5.2.2.2.2.2.2.2.2.2.2.2.2.2.2.2.2.2
      with_reducible refine (tot_impl r A0 D0 c0 d0 _ (by omega) (by omega) (HP0.out.below hBk) (HI0.out.below hBk)).mono ?_
      rintro en z6 ⟨rfl, hb'⟩
      rw [HTR.out]
      try go_simp
      have hB := hBk.trans (hb'.mono hBk.size)
      refine hK.out _ _ (HK.out _ hB) (fun hHeld6 => ?_)
      clear hK K hb' hBk hB hHeld5
      try dsimp only at hHeld6
      try simp only [Act.put, List.getElem_toArray, List.getElem_cons_succ, List.getElem_cons_zero, List.setIfInBounds_toArray, List.set_cons_zero, List.set_cons_succ]
      refine wpAnyH_take (i := 38) (oi := _) (v := ?_) rfl (by kernel_rfl) (by kernel_rfl) (by kernel_rfl) (fun _ _ _ h => h) (Or.inl ⟨by rfl, ?_⟩) (by assumption) ?_
      rotate_left 1
      · intro w hSw
        try dsimp only at hSw
        go_simp
        try with_reducible rfl
      try simp only [Act.put, List.getElem_toArray, List.getElem_cons_succ, List.getElem_cons_zero, List.setIfInBounds_toArray, List.set_cons_zero, List.set_cons_succ]
      refine wpAnyH_take (i := 39) (oi := _) (v := ?_) rfl (by kernel_rfl) (by kernel_rfl) (by kernel_rfl) (fun _ _ _ h => h) (Or.inl ⟨by rfl, ?_⟩) (by assumption) ?_
      rotate_left 1
      · intro w hSw
        try dsimp only at hSw
        go_simp
        try with_reducible rfl
      try simp only [Act.put, List.getElem_toArray, List.getElem_cons_succ, List.getElem_cons_zero, List.setIfInBounds_toArray, List.set_cons_zero, List.set_cons_succ]
      refine wpAnyH_take (i := 40) (oi := _) (v := ?_) rfl (by kernel_rfl) (by kernel_rfl) (by kernel_rfl) (fun _ _ _ h => h) (Or.inl ⟨by rfl, ?_⟩) (by assumption) ?_
      rotate_left 1
      · intro w hSw
        try dsimp only at hSw
        go_simp
        try with_reducible rfl
      try simp only [Act.put, List.getElem_toArray, List.getElem_cons_succ, List.getElem_cons_zero, List.setIfInBounds_toArray, List.set_cons_zero, List.set_cons_succ]
      refine wpAnyH_take (i := 41) (oi := _) (v := ?_) rfl (by kernel_rfl) (by kernel_rfl) (by kernel_rfl) (fun _ _ _ h => h) (Or.inl ⟨by rfl, ?_⟩) (by assumption) ?_
      rotate_left 1
      · intro w hSw
        try dsimp only at hSw
        go_simp
        try with_reducible rfl
      try simp only [Act.put, List.getElem_toArray, List.getElem_cons_succ, List.getElem_cons_zero, List.setIfInBounds_toArray, List.set_cons_zero, List.set_cons_succ]
      refine wpAnyH_take (i := 42) (oi := _) (v := ?_) rfl (by kernel_rfl) (by kernel_rfl) (by kernel_rfl) (fun _ _ _ h => h) (Or.inl ⟨by rfl, ?_⟩) (by assumption) ?_
      rotate_left 1
      · intro w hSw
        try dsimp only at hSw
        go_simp
        try with_reducible rfl
      try simp only [Act.put, List.getElem_toArray, List.getElem_cons_succ, List.getElem_cons_zero, List.setIfInBounds_toArray, List.set_cons_zero, List.set_cons_succ]
      refine wpAnyH_take (i := 43) (oi := _) (v := ?_) rfl (by kernel_rfl) (by kernel_rfl) (by kernel_rfl) (fun _ _ _ h => h) (Or.inl ⟨by rfl, ?_⟩) (by assumption) ?_
      rotate_left 1
      · intro w hSw
        try dsimp only at hSw
        go_simp
        try with_reducible rfl
      try simp only [Act.put, List.getElem_toArray, List.getElem_cons_succ, List.getElem_cons_zero, List.setIfInBounds_toArray, List.set_cons_zero, List.set_cons_succ]
      refine wpAnyH_take (i := 44) (oi := _) (v := ?_) rfl (by kernel_rfl) (by kernel_rfl) (by kernel_rfl) (fun _ _ _ h => h) (Or.inl ⟨by rfl, ?_⟩) (by assumption) ?_
      rotate_left 1
      · intro w hSw
        try dsimp only at hSw
        go_simp
        try with_reducible rfl
      try simp only [Act.put, List.getElem_toArray, List.getElem_cons_succ, List.getElem_cons_zero, List.setIfInBounds_toArray, List.set_cons_zero, List.set_cons_succ]
      refine wpAnyH_take (i := 45) (oi := _) (v := ?_) rfl (by kernel_rfl) (by kernel_rfl) (by kernel_rfl) (fun _ _ _ h => h) (Or.inl ⟨by rfl, ?_⟩) (by assumption) ?_
      rotate_left 1
      · intro w hSw
        try dsimp only at hSw
        go_simp
        try with_reducible rfl
      try simp only [Act.put, List.getElem_toArray, List.getElem_cons_succ, List.getElem_cons_zero, List.setIfInBounds_toArray, List.set_cons_zero, List.set_cons_succ]
      refine wpAnyH_take (i := 46) (oi := _) (v := ?_) rfl (by kernel_rfl) (by kernel_rfl) (by kernel_rfl) (fun _ _ _ h => h) (Or.inl ⟨by rfl, ?_⟩) (by assumption) ?_
      rotate_left 1
      · intro w hSw
        try dsimp only at hSw
        go_simp
        try with_reducible rfl
      try simp only [Act.put, List.getElem_toArray, List.getElem_cons_succ, List.getElem_cons_zero, List.setIfInBounds_toArray, List.set_cons_zero, List.set_cons_succ]
      refine wpAnyH_take (i := 47) (oi := _) (v := ?_) rfl (by kernel_rfl) (by kernel_rfl) (by kernel_rfl) (fun _ _ _ h => h) (Or.inl ⟨by rfl, ?_⟩) (by assumption) ?_
      rotate_left 1
      · intro w hSw
        try dsimp only at hSw
        go_simp
        try with_reducible rfl
      try simp only [Act.put, List.getElem_toArray, List.getElem_cons_succ, List.getElem_cons_zero, List.setIfInBounds_toArray, List.set_cons_zero, List.set_cons_succ]
      refine wpAnyH_take (i := 48) (oi := _) (v := ?_) rfl (by kernel_rfl) (by kernel_rfl) (by kernel_rfl) (fun _ _ _ h => h) (Or.inl ⟨by rfl, ?_⟩) (by assumption) ?_
      rotate_left 1
      · intro w hSw
        try dsimp only at hSw
        go_simp
        try with_reducible rfl
      try simp only [Act.put, List.getElem_toArray, List.getElem_cons_succ, List.getElem_cons_zero, List.setIfInBounds_toArray, List.set_cons_zero, List.set_cons_succ]
      refine wpAnyH_take (i := 49) (oi := _) (v := ?_) rfl (by kernel_rfl) (by kernel_rfl) (by kernel_rfl) (fun _ _ _ h => h) (Or.inl ⟨by rfl, ?_⟩) (by assumption) ?_
      rotate_left 1
      · intro w hSw
        try dsimp only at hSw
        go_simp
        try with_reducible rfl
      try simp only [Act.put, List.getElem_toArray, List.getElem_cons_succ, List.getElem_cons_zero, List.setIfInBounds_toArray, List.set_cons_zero, List.set_cons_succ]
      refine wpAnyH_take (i := 50) (oi := _) (v := ?_) rfl (by kernel_rfl) (by kernel_rfl) (by kernel_rfl) (fun _ _ _ h => h) (Or.inl ⟨by rfl, ?_⟩) (by assumption) ?_
      rotate_left 1
      · intro w hSw
        try dsimp only at hSw
        go_simp
        try with_reducible rfl
      try simp only [Act.put, List.getElem_toArray, List.getElem_cons_succ, List.getElem_cons_zero, List.setIfInBounds_toArray, List.set_cons_zero, List.set_cons_succ]
      refine wpAnyH_take (i := 51) (oi := _) (v := ?_) rfl (by kernel_rfl) (by kernel_rfl) (by kernel_rfl) (fun _ _ _ h => h) (Or.inl ⟨by rfl, ?_⟩) (by assumption) ?_
      rotate_left 1
      · intro w hSw
        try dsimp only at hSw
        go_simp
        try with_reducible rfl
      try simp only [Act.put, List.getElem_toArray, List.getElem_cons_succ, List.getElem_cons_zero, List.setIfInBounds_toArray, List.set_cons_zero, List.set_cons_succ]
      refine wpAnyH_take (i := 52) (oi := _) (v := ?_) rfl (by kernel_rfl) (by kernel_rfl) (by kernel_rfl) (fun _ _ _ h => h) (Or.inl ⟨by rfl, ?_⟩) (by assumption) ?_
      rotate_left 1
      · intro w hSw
        try dsimp only at hSw
        go_simp
        try with_reducible rfl
      try simp only [Act.put, List.getElem_toArray, List.getElem_cons_succ, List.getElem_cons_zero, List.setIfInBounds_toArray, List.set_cons_zero, List.set_cons_succ]
      refine wpAnyH_take (i := 53) (oi := _) (v := ?_) rfl (by kernel_rfl) (by kernel_rfl) (by kernel_rfl) (fun _ _ _ h => h) (Or.inl ⟨by rfl, ?_⟩) (by assumption) ?_
      rotate_left 1
      · intro w hSw
        try dsimp only at hSw
        go_simp
        try with_reducible rfl
      try simp only [Act.put, List.getElem_toArray, List.getElem_cons_succ, List.getElem_cons_zero, List.setIfInBounds_toArray, List.set_cons_zero, List.set_cons_succ]
      refine wpAnyH_take (i := 54) (oi := _) (v := ?_) rfl (by kernel_rfl) (by kernel_rfl) (by kernel_rfl) (fun _ _ _ h => h) (Or.inl ⟨by rfl, ?_⟩) (by assumption) ?_
      rotate_left 1
      · intro w hSw
        try dsimp only at hSw
        go_simp
        try with_reducible rfl
      try simp only [Act.put, List.getElem_toArray, List.getElem_cons_succ, List.getElem_cons_zero, List.setIfInBounds_toArray, List.set_cons_zero, List.set_cons_succ]
      refine wpAnyH_take (i := 55) (oi := _) (v := ?_) rfl (by kernel_rfl) (by kernel_rfl) (by kernel_rfl) (fun _ _ _ h => h) (Or.inl ⟨by rfl, ?_⟩) (by assumption) ?_
      rotate_left 1
      · intro w hSw
        try dsimp only at hSw
        go_simp
        try with_reducible rfl
      try simp only [Act.put, List.getElem_toArray, List.getElem_cons_succ, List.getElem_cons_zero, List.setIfInBounds_toArray, List.set_cons_zero, List.set_cons_succ]
      refine wpAnyH_take (i := 56) (oi := _) (v := ?_) rfl (by kernel_rfl) (by kernel_rfl) (by kernel_rfl) (fun _ _ _ h => h) (Or.inl ⟨by rfl, ?_⟩) (by assumption) ?_
      rotate_left 1
      · intro w hSw
        try dsimp only at hSw
        go_simp
        try with_reducible rfl
      try simp only [Act.put, List.getElem_toArray, List.getElem_cons_succ, List.getElem_cons_zero, List.setIfInBounds_toArray, List.set_cons_zero, List.set_cons_succ]
      refine wpAnyH_take (i := 58) (oi := _) (v := ?_) rfl (by kernel_rfl) (by kernel_rfl) (by kernel_rfl) (fun _ _ _ h => h) (Or.inl ⟨by rfl, ?_⟩) (by assumption) ?_
      rotate_left 1
      · intro w hSw
        try dsimp only at hSw
        go_simp
        try with_reducible rfl
      try simp only [Act.put, List.getElem_toArray, List.getElem_cons_succ, List.getElem_cons_zero, List.setIfInBounds_toArray, List.set_cons_zero, List.set_cons_succ]
      refine wpAnyH_take (i := 59) (oi := _) (v := ?_) rfl (by kernel_rfl) (by kernel_rfl) (by kernel_rfl) (fun _ _ _ h => h) (Or.inl ⟨by rfl, ?_⟩) (by assumption) ?_
      rotate_left 1
      · intro w hSw
        try dsimp only at hSw
        go_simp
        try with_reducible rfl
      try simp only [Act.put, List.getElem_toArray, List.getElem_cons_succ, List.getElem_cons_zero, List.setIfInBounds_toArray, List.set_cons_zero, List.set_cons_succ]
      refine wpAnyH_take (i := 60) (oi := _) (v := ?_) rfl (by kernel_rfl) (by kernel_rfl) (by kernel_rfl) (fun _ _ _ h => h) (Or.inl ⟨by rfl, ?_⟩) (by assumption) ?_
      rotate_left 1
      · intro w hSw
        try dsimp only at hSw
        go_simp
        try with_reducible rfl
      try simp only [Act.put, List.getElem_toArray, List.getElem_cons_succ, List.getElem_cons_zero, List.setIfInBounds_toArray, List.set_cons_zero, List.set_cons_succ]
      refine wpAnyH_ready (rs := [57]) (by kernel_rfl) (by simp) ?_
      refine AllReadyH.cons (o := _) rfl (fun K hK => ?_) AllReadyH.nil
      go_simp
      go_at_call 18
      have hBk := hHeld6.2.2.2.2.2.2.2.2.2.2.2.2.2.2.2.2.2
      with_reducible refine (level_spec r A0 D0 c0 d0 _ (by omega) (by omega) (HP0.out.below hBk) (HI0.out.below hBk)).mono ?_
      rintro en z7 ⟨rfl, hb'⟩
      rw [HL1.out]
      try go_simp
      have hB := hBk.trans (hb'.mono hBk.size)
      refine hK.out _ _ (HK.out _ hB) (fun hHeld7 => ?_)
      clear hK K hb' hBk hB hHeld6
      try dsimp only at hHeld7
      try simp only [Act.put, List.getElem_toArray, List.getElem_cons_succ, List.getElem_cons_zero, List.setIfInBounds_toArray, List.set_cons_zero, List.set_cons_succ]
      refine wpAnyH_ready (rs := [61]) (by kernel_rfl) (by simp) ?_
      refine AllReadyH.cons (o := _) rfl (fun K hK => ?_) AllReadyH.nil
      go_simp
      go_at_call 18
      have hBk := hHeld7.2.2.2.2.2.2.2.2.2.2.2.2.2.2.2.2.2
      with_reducible refine (level_spec t A1 D1 c1 d1 _ (by omega) (by omega) (HP1.out.below hBk) (HI1.out.below hBk)).mono ?_
      rintro en z8 ⟨rfl, hb'⟩
      rw [HL2.out]
      try go_simp
      have hB := hBk.trans (hb'.mono hBk.size)
      refine hK.out _ _ (HK.out _ hB) (fun hHeld8 => ?_)
      clear hK K hb' hBk hB hHeld7
      try dsimp only at hHeld8
      try simp only [Act.put, List.getElem_toArray, List.getElem_cons_succ, List.getElem_cons_zero, List.setIfInBounds_toArray, List.set_cons_zero, List.set_cons_succ]
      refine wpAnyH_ready (rs := [62]) (by kernel_rfl) (by simp) ?_
      refine AllReadyH.cons (o := _) rfl (fun K hK => ?_) AllReadyH.nil
      go_simp
      go_at_call 17
      have hBk := hHeld8.2.2.2.2.2.2.2.2.2.2.2.2.2.2.2.2.2
      with_reducible refine (gflow_impl V l1 l2 _).mono ?_
      rintro en z9 ⟨rfl, hb'⟩
      rw [HFL.out]
      try go_simp
      have hB := hBk.trans (hb'.mono hBk.size)
      refine hK.out _ _ (HK.out _ hB) (fun hHeld9 => ?_)
      clear hK K hb' hBk hB hHeld8
      try dsimp only at hHeld9
      try simp only [Act.put, List.getElem_toArray, List.getElem_cons_succ, List.getElem_cons_zero, List.setIfInBounds_toArray, List.set_cons_zero, List.set_cons_succ]
      refine wpAnyH_take (i := 63) (oi := _) (v := ?_) rfl (by kernel_rfl) (by kernel_rfl) (by kernel_rfl) (fun _ _ _ h => h) (Or.inl ⟨by rfl, ?_⟩) (by assumption) ?_
      rotate_left 1
      · intro w hSw
        try dsimp only at hSw
        go_simp
        try with_reducible rfl
      try simp only [Act.put, List.getElem_toArray, List.getElem_cons_succ, List.getElem_cons_zero, List.setIfInBounds_toArray, List.set_cons_zero, List.set_cons_succ]
      refine wpAnyH_take (i := 64) (oi := _) (v := ?_) rfl (by kernel_rfl) (by kernel_rfl) (by kernel_rfl) (fun _ _ _ h => h) (Or.inl ⟨by rfl, ?_⟩) (by assumption) ?_
      rotate_left 1
      · intro w hSw
        try dsimp only at hSw
        go_simp
        try with_reducible rfl
      try simp only [Act.put, List.getElem_toArray, List.getElem_cons_succ, List.getElem_cons_zero, List.setIfInBounds_toArray, List.set_cons_zero, List.set_cons_succ]
      refine wpAnyH_take (i := 65) (oi := _) (v := ?_) rfl (by kernel_rfl) (by kernel_rfl) (by kernel_rfl) (fun _ _ _ h => h) (Or.inl ⟨by rfl, ?_⟩) (by assumption) ?_
      rotate_left 1
      · intro w hSw
        try dsimp only at hSw
        go_simp
        try with_reducible rfl
      try simp only [Act.put, List.getElem_toArray, List.getElem_cons_succ, List.getElem_cons_zero, List.setIfInBounds_toArray, List.set_cons_zero, List.set_cons_succ]
      refine wpAnyH_done (by kernel_rfl) ?_ _
      go_simp
      have hb9 := hHeld9.2.2.2.2.2.2.2.2.2.2.2.2.2.2.2.2.2
      clear hHeld9
      go_wp2
      go_ret
      exact ⟨rfl, HBz.out.trans (hb9.mono HBz.out.size)⟩

theorem parOk : Try.f4.params.toList.all (fun t => Try.prog.readableRec t && decide (t < Try.prog.types.size)) = true := by kernel_rfl
set_option maxRecDepth 100000 in
theorem lifted (os : Os) (started : os.Started) (H : Type) (enc : TypeId × Value → H) :
    ReturnsInHanded {} Try.checked os 4 .any (Rows.fnLetThroughSpec.pre6 enc Try.prog Try.f4 Rows.fnLetThroughRow.domain false) (Rows.fnLetThroughSpec.post enc Try.prog Try.f4 false true false false) := by
  refine law_lifted (C := Try.checked) own started (by kernel_rfl) Try.func4 laid (fun t ht => by
      have h := List.all_eq_true.1 parOk t ht
      rw [Bool.and_eq_true] at h
      exact ⟨h.1, of_decide_eq_true h.2⟩) rfl Try.underlying4 rfl
    (fun xs hx => by
      rw [show Try.f4.params.toList.length = 1 from by rw [Try.params4]; rfl] at hx
      match xs, hx with
      | [d0], _ => rfl)
    (ChangeSpec.witness6 (enc := enc) (C := Try.checked) false ⟨#[], #[.slice none 0 0], []⟩ 8 (by kernel_rfl) (by kernel_rfl) (by kernel_rfl) (by kernel_rfl)) ?_
  intro W base args ds p hval0 hA0 _
  have hval : ∀ (j : Nat) t v, Try.f4.params[j]? = some t → args[j]? = some v → Value.okWide Try.prog W .any base t v := hval0
  have hA : DataW.TrodAll enc Try.prog W 0 (fun _ => true) true Try.f4.params.toList args.toList ds p := hA0
  clear hA0 hval0
  rw [Try.params4] at hA hval
  obtain ⟨v0, vs0, d0, ds0, p0, q0, hargs, rfl, rfl, h0, r0⟩ := trodAll_cons hA
  obtain ⟨rfl, rfl, rfl⟩ := trodAll_nil r0
  obtain rfl : args = #[v0] := by cases args; simp_all
  obtain ⟨A0, n0, c0, f0, rfl, x0, y0⟩ := slice_bytes Try.underlying22 (by kernel_rfl) Try.underlying5 (hval 0 22 _ rfl rfl) h0
  exact walk A0 n0 c0 f0 W x0 y0

/-- The statement. -/
theorem proved : Rows.FnLetThroughSaid :=
  OpenClaim.holds_of_wide 4 Try.f4 rfl rfl rfl rfl rfl rfl rfl ⟨rfl, rfl, rfl, rfl, rfl⟩ rfl rfl rfl rfl rfl (by kernel_rfl) Try.func4 (by kernel_rfl)
    (of_decide_eq_true (by kernel_rfl)) (by unfold Func.isWrapper; first | (rw [if_pos (by decide +kernel)]; kernel_rfl) | (rw [if_neg (by decide +kernel)]; exact ⟨rfl, rfl⟩))
    (fun os started H enc _ => lifted os started H enc)
#print axioms proved
end Go.Proofs.Ytabdbpkolmlpeaa.fnLetThrough
