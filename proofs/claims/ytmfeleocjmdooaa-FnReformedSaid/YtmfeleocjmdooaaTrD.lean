/- Trains coupled: of the model and of the program. -/
import Derived.Test.YtmfeleocjmdooaaTrCo
import Derived.Test.YtmfeleocjmdooaaTrDv
import Derived.Test.YtmfeleocjmdooaaTrLw
import Derived.Deep.RegionLaw
namespace Go.Proofs.Ytmfeleocjmdooaa.C1
open Go.ChangeShapes Go.WideShapes Go.ChangeAt Go.RowKit
set_option linter.unusedVariables false

/-- What coupling gives. -/
def couB (u1 u2 : Bool) (T1 T2 : List (List Bt)) : Bool := tOk T1 && (tOk T2 && (tOk (T1 ++ T2) && (u1 == u2)))
def couT (u1 u2 : Bool) (T1 T2 : List (List Bt)) : List (List Bt) := if couB u1 u2 T1 T2 = true then T1 ++ T2 else []
def couU (u1 u2 : Bool) (T1 T2 : List (List Bt)) : Bool := if couB u1 u2 T1 T2 = true then u1 else false
/-- What a function that gives a train and a bool leaves. -/
def GivesTB (w : World) (up : Bool) (T : List (List Bt)) (ok : Bool) (e : Ending) (w' : World) : Prop :=
  (∃ A c g G, e = .returned (.tuple #[.agg #[.bool up, .slice A T.length c], .bool ok]) ∧ T.length ≤ c ∧ OwnT w' w.heap.size w'.heap.size A T g G) ∧ Below w.heap.size w w'
theorem OwnRows.ones {w : World} {B : Nat} {v : Value} {T : List (List Bt)} {xs : List Value} (h : OwnRows w B v T xs) : ∀ u ∈ xs, u.oneCell' = true := fun u hu => by
  obtain ⟨i, hi⟩ := List.getElem?_of_mem hu
  obtain ⟨r, hr⟩ := get_of (L := T) (k := i) (by have := len_of hi; have := h.len; omega)
  obtain ⟨x, h1, h2⟩ := h.row i r hr
  rw [hi] at h1
  injection h1 with h1
  subst h1
  exact own_one h2
theorem OwnRows.setOther {w : World} {B : Nat} {v : Value} {T : List (List Bt)} {xs : List Value} (h : OwnRows w B v T xs) {p j : Nat} {u : Value} {cs : Array Value} {t : TypeId} {fr : Nat × Nat} (hp : w.heap[p]? = some (.cells cs t fr))
    (h1 : (29 : TypeId) ≠ t) (h2 : (30 : TypeId) ≠ t) : OwnRows (w.setCell ⟨p, j, none⟩ u) B v T xs := by
  have hk : ∀ {e : TypeId} {s n : Nat} {x : Value} {ys : List Value}, e ≠ t → w.ownsRow B e s x n ys → (w.setCell ⟨p, j, none⟩ u).ownsRow B e s x n ys := fun {e s n x ys} he ho => ho.kept (grown_set (World.grownBy.refl _ (some p))) (by
    rcases ho.2 with ⟨rfl, _⟩ | ⟨g, cap, cur, rfl, _, hg, _⟩
    · exact Or.inl rfl
    · refine Or.inr fun e' => ?_
      simp only [Value.ownBlock, Option.some.injEq] at e'
      subst e'
      rw [hg] at hp
      injection hp with hp
      injection hp with _ h3
      exact he h3)
  exact ⟨hk h2 h.own, fun i r hi => by
    obtain ⟨x, h3, h4⟩ := h.row i r hi
    exact ⟨x, h3, hk h1 h4⟩, h.ne⟩
theorem cou_yes {u1 u2 : Bool} {T1 T2 : List (List Bt)} (h : couB u1 u2 T1 T2 = true) {w w1 w' : World} {V : Option Addr} {d : Nat} {xs : List Value} (hb : Below w.heap.size w w1)
    (ho : OwnRows w1 (w.heap.size + 3) (.slice V (T1.length + T2.length) d) (T1 ++ T2) xs) (t : Touch w1 w' (w.heap.size + 2) (w.heap.size + 3)) :
    GivesTB w (couU u1 u2 T1 T2) (couT u1 u2 T1 T2) (couB u1 u2 T1 T2) (.returned (.tuple #[.agg #[.bool u1, .slice V (T1.length + T2.length) d], .bool true])) w' := by
  have e1 : couU u1 u2 T1 T2 = u1 := by unfold couU; rw [if_pos h]
  have e2 : couT u1 u2 T1 T2 = T1 ++ T2 := by unfold couT; rw [if_pos h]
  rw [h, e1, e2]
  have hq : w.heap.size + 3 ≤ w1.heap.size ∨ (T1 ++ T2).length = 0 := by
    rcases ho.own.2 with ⟨_, h0⟩ | ⟨g, _, _, _, hg, hh, _⟩
    · exact Or.inr h0
    · exact Or.inl (by have := (Array.getElem?_eq_some_iff.1 hh).1; omega)
  rcases hq with hq | hq
  · obtain ⟨A, c, g, G, e, hc, hT⟩ := ho.ownT hq
    injection e with e1' e2' e3'
    refine ⟨⟨A, c, g, G, by rw [e1', e2', e3'], hc, (hT.touch t (Or.inr (Nat.le_refl _))).wide (by omega) t.size⟩, t.below hb (by omega)⟩
  · have hn : T1 ++ T2 = [] := List.eq_nil_of_length_eq_zero hq
    rcases ho.own.2 with ⟨e, h0⟩ | ⟨g, c, cur, e, _, _, hc, _⟩
    · injection e with e1' e2' e3'
      rw [hn]
      exact ⟨⟨none, 0, 0, fun _ => 0, by rw [e1', e2', e3']; rfl, Nat.le_refl _, OwnT.nil _ _ _ _ _ _⟩, t.below hb (by omega)⟩
    · injection e with e1' e2' e3'
      rw [hn]
      rw [hn] at e2' hc
      exact ⟨⟨_, c, 0, fun _ => 0, by rw [e1', e2', e3'], Nat.zero_le _, OwnT.nil _ _ _ _ _ _⟩, t.below hb (by omega)⟩
theorem cou_no {u1 u2 : Bool} {T1 T2 : List (List Bt)} (h : couB u1 u2 T1 T2 = false) {w w' : World} (hb : Below w.heap.size w w') :
    GivesTB w (couU u1 u2 T1 T2) (couT u1 u2 T1 T2) (couB u1 u2 T1 T2) (.returned (.tuple #[.agg #[.bool false, .slice none 0 0], .bool false])) w' := by
  have e1 : couU u1 u2 T1 T2 = false := by unfold couU; rw [h]; rfl
  have e2 : couT u1 u2 T1 T2 = [] := by unfold couT; rw [h]; rfl
  rw [h, e1, e2]
  exact ⟨⟨none, 0, 0, fun _ => 0, rfl, Nat.le_refl _, OwnT.nil _ _ _ _ _ _⟩, hb⟩
theorem tok_join (up : Bool) (A : Option Addr) (c : Nat) (T1 T2 : List (List Bt)) (w : World) (hm : Mod (T1 ++ T2)) (hp : Trn w A (T1 ++ T2)) :
    Calls Try.prog 52 #[.agg #[.bool up, .slice A (T1.length + T2.length) c]] w fun e w' => e = .returned (.bool (tOk (T1 ++ T2))) ∧ Below w.heap.size w w' := by
  have h := tok_spec up A c (T1 ++ T2) w hm hp
  rwa [List.length_append] at h
set_option maxRecDepth 100000 in
set_option maxHeartbeats 2000000 in
theorem couple_spec (u1 u2 : Bool) (A1 A2 : Option Addr) (c1 c2 : Nat) (T1 T2 : List (List Bt)) (w : World) (hm1 : Mod T1) (hm2 : Mod T2) (hm12 : Mod (T1 ++ T2)) (hp1 : Trn w A1 T1) (hp2 : Trn w A2 T2) :
    Calls Try.prog 65 #[.agg #[.bool u1, .slice A1 T1.length c1], .agg #[.bool u2, .slice A2 T2.length c2]] w (GivesTB w (couU u1 u2 T1 T2) (couT u1 u2 T1 T2) (couB u1 u2 T1 T2)) := by
  have HM1 := vl hm1
  have HM2 := vl hm2
  have HB0 := vl ((((Below.refl w.heap.size w).alloc (Nat.le_refl _) (.cells #[.bool u1, .slice A1 T1.length c1] 26)).alloc (by simp) (.cells #[.bool u2, .slice A2 T2.length c2] 26)).alloc (by simp; omega) (.cells #[.bool false, .slice none 0 0] 26))
  have HP1 := vl (hp1.below HB0.out)
  have HP2 := vl (hp2.below HB0.out)
  have HXY := vl (show TBox (((w.alloc (.cells #[.bool u1, .slice A1 T1.length c1] 26)).alloc (.cells #[.bool u2, .slice A2 T2.length c2] 26)).alloc (.cells #[.bool false, .slice none 0 0] 26)) w.heap.size u1 A1 T1.length c1 ∧ TBox (((w.alloc (.cells #[.bool u1, .slice A1 T1.length c1] 26)).alloc (.cells #[.bool u2, .slice A2 T2.length c2] 26)).alloc (.cells #[.bool false, .slice none 0 0] 26)) (w.heap.size + 1) u2 A2 T2.length c2 ∧ TBoxF (((w.alloc (.cells #[.bool u1, .slice A1 T1.length c1] 26)).alloc (.cells #[.bool u2, .slice A2 T2.length c2] 26)).alloc (.cells #[.bool false, .slice none 0 0] 26)) (w.heap.size + 2) false (.slice none 0 0) from by
    have h1 := ((TBox.new w u1 A1 T1.length c1 26).below ((Below.refl _ _).alloc (Nat.le_refl _) (.cells #[.bool u2, .slice A2 T2.length c2] 26))).below ((Below.refl _ _).alloc (Nat.le_refl _) (.cells #[.bool false, .slice none 0 0] 26))
    have h2 := (TBox.new (w.alloc (.cells #[.bool u1, .slice A1 T1.length c1] 26)) u2 A2 T2.length c2 26).below ((Below.refl _ _).alloc (Nat.le_refl _) (.cells #[.bool false, .slice none 0 0] 26))
    have h3 := TBoxF.new ((w.alloc (.cells #[.bool u1, .slice A1 T1.length c1] 26)).alloc (.cells #[.bool u2, .slice A2 T2.length c2] 26)) false (.slice none 0 0) 26
    exact ⟨h1, by simpa using h2, by simpa using h3⟩)
  have HM12 := vl hm12
  have HPw := vl (And.intro hp1 hp2)
  have hq1 := hm1.rows; have hq2 := hm2.rows
  clear hm1 hm2 hm12 hp1 hp2
  go_enter Try.func65, Try.ntmps65
  go_wp2_with fail
  refine (copy_own u1 A1 c1 T1 _ HM1.out HP1.out).mono ?_
  rintro e w1 ⟨⟨v1, xs1, rfl, ho1⟩, hb1⟩
  obtain ⟨V1, d1, rfl, _⟩ := own_src ho1.own
  have h01 := hb1.size
  simp only [World.size_alloc] at h01
  have HB1 := vl (HB0.out.trans (hb1.mono HB0.out.size))
  have HX1 := vl (HXY.out.1.below hb1)
  have HY1 := vl (HXY.out.2.1.below hb1)
  have HR1 := vl (HXY.out.2.2.below hb1 (by simp))
  have HP1a := vl (HP1.out.below hb1)
  have HP2a := vl (HP2.out.below hb1)
  have HO1 := vl (ho1.wide (B' := w.heap.size + 3) (by simp))
  clear hb1 ho1 HB0 HXY HP1 HP2
  obtain ⟨j0, hj, hy0, hy1, hy2⟩ := info_parts infoR
  have hba := (Below.refl w1.heap.size w1).alloc (Nat.le_refl _) (.cells #[.bool u1, .slice V1 T1.length d1] 26)
  have HB1a := vl (HB1.out.alloc HB1.out.size (.cells #[.bool u1, .slice V1 T1.length d1] 26))
  have HX1a := vl (HX1.out.below hba)
  have HY1a := vl (HY1.out.below hba)
  have HR1a := vl (HR1.out.below hba (by omega))
  have HO1a := vl (HO1.out.below hba)
  have HZ1 := vl (TBoxF.new w1 u1 (.slice V1 T1.length d1) 26)
  clear hba
  generalize hW1 : w1.alloc (.cells #[.bool u1, .slice V1 T1.length d1] 26) = W1 at *
  have hs1 : W1.heap.size = w1.heap.size + 1 := by rw [← hW1]; simp
  have HZ2 : Veil (some w1.heap.size ≠ (Value.slice V1 T1.length d1).ownBlock) := vl fun e => by have := (HO1.out.own.lt _ e.symm).2; omega
  obtain ⟨y0, y1⟩ := HY1a.out
  have z1 := HZ1.out.c1
  clear HX1 HY1 HR1 HO1 HB1 HP1a
  have hfl : ∀ (b : Bool) (A : Option Addr) (n c : Nat) (W : World), (Instr.field 26 (.agg #[.bool b, .slice A n c]) 1).run Try.prog W = .ok (.slice A n c) W := fun _ _ _ _ _ => by kernel_rfl
  go_wp2
  have HT1 := vl (show W1.heap[w1.heap.size]? = some (.cells #[.bool u1, .slice V1 T1.length d1] 26 (0, 0)) by rw [← hW1]; exact heap_alloc_new w1 _)
  clear hW1
  go_region_law (first
      | (refine step_app (by rfl) _ _ 24 (by rfl) (w.heap.size + 3) 30 j0 _ 1 24 Try.underlying24 hj hy0 hy1 hy2 rfl (by decide) (.slice V1 T1.length d1) T1.length xs1 (by rfl) HO2a.out.own V2 T2.length d2 xs2 (by rfl) (by rw [HO2.out.len]; omega) HS2.out HO2.out.ones (by unfold maxLen; omega) (by omega) (by omega) ?_
         intro v3 w3 hown3 hgr3
         obtain ⟨V3, d3, rfl, _⟩ := own_src hown3
         have HO3 := vl (OwnRows.join HO1a.out (by omega) HB2.out HO2.out hown3 hgr3)
         have hb3 := below_app' HO2a.out.own hgr3 (by omega)
         have HB3 := vl (HB1a.out.trans ((HB2.out.mono HB1a.out.size).trans (hb3.mono (by omega))))
         have HX3 := vl (show TBox w3 w.heap.size u1 A1 T1.length c1 from ⟨(hb3.cell (p := ⟨w.heap.size, 0, none⟩) (by show w.heap.size < _; omega)).trans (HX1a.out.below HB2.out).1, (hb3.cell (p := ⟨w.heap.size, 1, none⟩) (by show w.heap.size < _; omega)).trans (HX1a.out.below HB2.out).2⟩)
         have HY3 := vl (show TBox w3 (w.heap.size + 1) u2 A2 T2.length c2 from ⟨(hb3.cell (p := ⟨w.heap.size + 1, 0, none⟩) (by show w.heap.size + 1 < _; omega)).trans (HY1a.out.below HB2.out).1, (hb3.cell (p := ⟨w.heap.size + 1, 1, none⟩) (by show w.heap.size + 1 < _; omega)).trans (HY1a.out.below HB2.out).2⟩)
         have HR3 := vl ((HR1a.out.below HB2.out (by omega)).below hb3 (by omega))
         have hz3 : w3.heap[w1.heap.size]? = w2.heap[w1.heap.size]? := hgr3.block _ (by omega) (HZ2.out)
         have HZ3 := vl ((HZ1.out.below HB2.out (by omega)).block hz3)
         have HT3 := vl (hz3.trans ((HB2.out.block _ (by omega)).trans HT1.out))
         have S3 := HZ3.out.c1
         have F3 := HZ3.out.f1
         clear hown3 hgr3 hb3 hz3)
      | (go_simp
         go_at_call 128
         refine (copy_own u2 A2 c2 T2 _ HM2.out (show Trn W1.drew A2 T2 from (HPw.out.2.below HB1a.out).drew)).mono ?_
         rintro e w2 ⟨⟨v2, xs2, rfl, ho2⟩, hb2⟩
         obtain ⟨V2, d2, rfl, hs2⟩ := own_src ho2.own
         have hb2' : Below W1.heap.size W1 w2 := (Below.refl W1.heap.size W1).drew.trans hb2
         have HB2 := vl hb2'
         have h12 := hb2'.size
         have HO2 := vl (show OwnRows w2 W1.heap.size (.slice V2 T2.length d2) T2 xs2 from ho2)
         have HS2 := vl hs2
         have HO2a := vl (HO1a.out.below hb2')
         have S1 := (hb2'.cell (p := ⟨w1.heap.size, 1, none⟩) (by show w1.heap.size < _; omega)).trans z1
         clear hb2 hb2' ho2 hs2))
  all_goals
    obtain ⟨W4, hW4⟩ : ∃ W4, W4 = w3.setCell ⟨w1.heap.size, 1, none⟩ (.slice V3 (T1.length + T2.length) d3) := ⟨_, rfl⟩
    have ht := (Touch.refl w3 w1.heap.size (w1.heap.size + 1)).set w1.heap.size 1 (.slice V3 (T1.length + T2.length) d3) (Nat.le_refl _) (Nat.lt_succ_self _)
    rw [← hW4] at ht ⊢
    have HB4 := vl (ht.below HB3.out (by omega))
    have HX4 := vl (HX3.out.touch ht (Or.inl (by omega)))
    have HY4 := vl (HY3.out.touch ht (Or.inl (by omega)))
    have HR4 := vl (show TBoxF W4 (w.heap.size + 2) false (.slice none 0 0) from by rw [hW4]; exact HR3.out.far _ (by omega))
    have hz4 : TBoxF W4 w1.heap.size u1 (.slice V3 (T1.length + T2.length) d3) := by rw [hW4]; exact HZ3.out.set _
    have HZ4 := vl (show TBox W4 w1.heap.size u1 V3 (T1.length + T2.length) d3 from ⟨hz4.c0, hz4.c1⟩)
    have HO4 := vl (show OwnRows W4 (w.heap.size + 3) (.slice V3 (T1.length + T2.length) d3) (T1 ++ T2) (xs1 ++ xs2) from by rw [hW4]; exact HO3.out.setOther HT3.out (by decide) (by decide))
    clear hW4 ht hz4 HB3 HX3 HY3 HR3 HZ3 HO3 HT3 S3 F3 HB2 HO2 HS2 HO2a S1 z1 y0 y1 HX1a HY1a HR1a HO1a HZ1 HT1 HZ2 HB1a
    obtain ⟨x0, x1⟩ := HX4.out
    go_wp2_with fail
    refine (tok_spec u1 A1 c1 T1 _ HM1.out (HPw.out.1.below HB4.out)).mono ?_
    rintro e w5 ⟨rfl, hb5⟩
    have HB5 := vl (HB4.out.trans (hb5.mono HB4.out.size))
    have HX5 := vl (HX4.out.below hb5)
    have HY5 := vl (HY4.out.below hb5)
    have HR5 := vl (HR4.out.below hb5 HR4.out.lt)
    have HZ5 := vl (HZ4.out.below hb5)
    have HO5 := vl (HO4.out.below hb5)
    clear hb5 x0 x1 HB4 HX4 HY4 HR4 HZ4 HO4
    have r0 := HR5.out.c0; have r1 := HR5.out.c1; have r2 := HR5.out.f0; have r3 := HR5.out.f1
    cases hok1 : tOk T1 with
    | false =>
      have HE := vl (show couB u1 u2 T1 T2 = false by unfold couB; rw [hok1]; rfl)
      go_wp2
      refine bodyPost_ret (v := .tuple #[.agg #[.bool false, .slice none 0 0], .bool false]) (by simp [results, Try.results65, go_sem, r0, r1]) rfl ?_
      exact cou_no HE.out (by (repeat' (first | (with_reducible exact Below.refl _ _) | (with_reducible refine Below.drew ?_) | (with_reducible refine Below.alloc ?_ ?_ _) | (with_reducible refine Below.setCell ?_ ?_ _) | (with_reducible refine Below.trans ?_ (HB5.out.mono ?_)) | (first | omega | (simp; omega) | (simp; done)))))
    | true =>
      have HK1 := vl hok1
      clear hok1 r0 r1 r2 r3
      obtain ⟨y0, y1⟩ := HY5.out
      go_wp2_with fail
      refine (tok_spec u2 A2 c2 T2 _ HM2.out (HPw.out.2.below HB5.out)).mono ?_
      rintro e w6 ⟨rfl, hb6⟩
      have HB6 := vl (HB5.out.trans (hb6.mono HB5.out.size))
      have HX6 := vl (HX5.out.below hb6)
      have HY6 := vl (HY5.out.below hb6)
      have HR6 := vl (HR5.out.below hb6 HR5.out.lt)
      have HZ6 := vl (HZ5.out.below hb6)
      have HO6 := vl (HO5.out.below hb6)
      clear hb6 y0 y1 HB5 HX5 HY5 HR5 HZ5 HO5
      have r0 := HR6.out.c0; have r1 := HR6.out.c1; have r2 := HR6.out.f0; have r3 := HR6.out.f1
      cases hok2 : tOk T2 with
      | false =>
        have HE := vl (show couB u1 u2 T1 T2 = false by unfold couB; rw [hok2, HK1.out]; rfl)
        go_wp2
        refine bodyPost_ret (v := .tuple #[.agg #[.bool false, .slice none 0 0], .bool false]) (by simp [results, Try.results65, go_sem, r0, r1]) rfl ?_
        exact cou_no HE.out (by (repeat' (first | (with_reducible exact Below.refl _ _) | (with_reducible refine Below.drew ?_) | (with_reducible refine Below.alloc ?_ ?_ _) | (with_reducible refine Below.setCell ?_ ?_ _) | (with_reducible refine Below.trans ?_ (HB6.out.mono ?_)) | (first | omega | (simp; omega) | (simp; done)))))
      | true =>
        have HK2 := vl hok2
        clear hok2 r0 r1 r2 r3
        obtain ⟨z0, z1⟩ := HZ6.out
        have HQ := vl (show Trn w6 V3 (T1 ++ T2) from by
          obtain ⟨A', c', g', G', e', _, ho⟩ := HO6.out.ownT (by have := HR6.out.lt; omega)
          injection e' with e' _ _
          rw [e']; exact ho.trn)
        go_wp2_with fail
        refine (tok_join u1 V3 d3 T1 T2 _ HM12.out HQ.out).mono ?_
        rintro e w7 ⟨rfl, hb7⟩
        have HB7 := vl (HB6.out.trans (hb7.mono HB6.out.size))
        have HX7 := vl (HX6.out.below hb7)
        have HY7 := vl (HY6.out.below hb7)
        have HR7 := vl (HR6.out.below hb7 HR6.out.lt)
        have HZ7 := vl (HZ6.out.below hb7)
        have HO7 := vl (HO6.out.below hb7)
        clear hb7 z0 z1 HB6 HX6 HY6 HR6 HZ6 HO6
        have r0 := HR7.out.c0; have r1 := HR7.out.c1; have r2 := HR7.out.f0; have r3 := HR7.out.f1
        obtain ⟨x0, x1⟩ := HX7.out
        obtain ⟨y0, y1⟩ := HY7.out
        obtain ⟨z0, z1⟩ := HZ7.out
        cases hok3 : tOk (T1 ++ T2) with
        | false =>
          have HE := vl (show couB u1 u2 T1 T2 = false by unfold couB; rw [hok3, HK1.out, HK2.out]; rfl)
          go_wp2
          refine bodyPost_ret (v := .tuple #[.agg #[.bool false, .slice none 0 0], .bool false]) (by simp [results, Try.results65, go_sem, r0, r1]) rfl ?_
          exact cou_no HE.out (by (repeat' (first | (with_reducible exact Below.refl _ _) | (with_reducible refine Below.drew ?_) | (with_reducible refine Below.alloc ?_ ?_ _) | (with_reducible refine Below.setCell ?_ ?_ _) | (with_reducible refine Below.trans ?_ (HB7.out.mono ?_)) | (first | omega | (simp; omega) | (simp; done)))))
        | true =>
          have HK3 := vl hok3
          clear hok3
          by_cases hu : u1 = u2
          · have HE := vl (show couB u1 u2 T1 T2 = true by unfold couB; rw [HK1.out, HK2.out, HK3.out, hu]; simp)
            have hu' : (u1 == u2) = true := by rw [hu]; simp
            clear hu
            go_wp2
            refine bodyPost_ret (v := .tuple #[.agg #[.bool u1, .slice V3 (T1.length + T2.length) d3], .bool true]) (by simp [results, Try.results65, go_sem, r0, r1]) rfl ?_
            have t := ((Touch.refl w7 (w.heap.size + 2) (w.heap.size + 3)).set (w.heap.size + 1 + 1) 0 (.bool u1) (by omega) (by omega)).set (w.heap.size + 1 + 1) 1 (.slice V3 (T1.length + T2.length) d3) (by omega) (by omega)
            exact cou_yes HE.out HB7.out HO7.out t
          · have HE := vl (show couB u1 u2 T1 T2 = false by unfold couB; rw [HK1.out, HK2.out, HK3.out]; simp [hu])
            have hu' : (u1 == u2) = false := by simp [hu]
            clear hu
            go_wp2
            refine bodyPost_ret (v := .tuple #[.agg #[.bool false, .slice none 0 0], .bool false]) (by simp [results, Try.results65, go_sem, r0, r1]) rfl ?_
            exact cou_no HE.out (by (repeat' (first | (with_reducible exact Below.refl _ _) | (with_reducible refine Below.drew ?_) | (with_reducible refine Below.alloc ?_ ?_ _) | (with_reducible refine Below.setCell ?_ ?_ _) | (with_reducible refine Below.trans ?_ (HB7.out.mono ?_)) | (first | omega | (simp; omega) | (simp; done)))))
end Go.Proofs.Ytmfeleocjmdooaa.C1
