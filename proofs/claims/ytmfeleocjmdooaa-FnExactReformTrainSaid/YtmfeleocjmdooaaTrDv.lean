/- Trains divided: of the model and of the program. -/
import Derived.Test.YtmfeleocjmdooaaTrC
import Derived.Deep.RegionHeld3
namespace Go.Proofs.Ytmfeleocjmdooaa.C1
open Go.ChangeShapes Go.WideShapes Go.ChangeAt Go.RowKit
set_option linter.unusedVariables false

/-- What dividing gives. -/
def divB (T : List (List Bt)) (k : Int) : Bool := tOk T && inB k 1 ((T.length : Int) - 1)
def divF (T : List (List Bt)) (k : Int) : List (List Bt) := if divB T k = true then T.take k.toNat else []
def divS (T : List (List Bt)) (k : Int) : List (List Bt) := if divB T k = true then T.drop k.toNat else []
def divU (up : Bool) (T : List (List Bt)) (k : Int) : Bool := if divB T k = true then up else false
/-- What a function that gives two trains and a bool leaves. -/
def GivesTTB (w : World) (up : Bool) (T S : List (List Bt)) (ok : Bool) (e : Ending) (w' : World) : Prop :=
  (∃ A c g G A' c' g' G' L, e = .returned (.tuple #[.agg #[.bool up, .slice A T.length c], .agg #[.bool up, .slice A' S.length c'], .bool ok]) ∧ w.heap.size ≤ L ∧ L ≤ w'.heap.size ∧ OwnT w' w.heap.size L A T g G ∧ OwnT w' L w'.heap.size A' S g' G') ∧ Below w.heap.size w w'
theorem OwnT.nil (w : World) (B L : Nat) (A : Option Addr) (g : Nat) (G : Nat → Nat) : OwnT w B L A [] g G := ⟨fun h => absurd h (by simp), fun h => absurd h (by simp), fun i r h => by simp at h, fun i r h => by simp at h, fun i j r s h => by simp at h⟩
theorem Trn.take {w : World} {A : Option Addr} {T : List (List Bt)} (h : Trn w A T) (k : Nat) : Trn w A (T.take k) := fun hn => by
  obtain ⟨g, o, e, hc⟩ := h (by have := List.length_take_le' k T; omega)
  exact ⟨g, o, e, fun i r hi => hc i r (by rw [List.getElem?_take] at hi; split at hi <;> first | exact hi | cases hi)⟩
theorem Trn.drop {w : World} {g o : Nat} {T : List (List Bt)} (h : ∀ (i : Nat) (r : List Bt), T[i]? = some r → ∃ Ai ci, w.cell? ⟨g, o + i, none⟩ = some (.slice Ai r.length ci) ∧ Veil (Bts w Ai r)) (k : Nat) : Trn w (some ⟨g, o + k, none⟩) (T.drop k) := fun hn =>
  ⟨g, o + k, rfl, fun i r hi => by
    rw [List.getElem?_drop] at hi
    obtain ⟨Ai, ci, h1, h2⟩ := h (k + i) r hi
    exact ⟨Ai, ci, by rw [Nat.add_assoc]; exact h1, h2⟩⟩
theorem Mod.take {T : List (List Bt)} (h : Mod T) (k : Nat) : Mod (T.take k) := ⟨Nat.le_trans (List.length_take_le' k T) h.rows, Nat.le_trans (take_le T k) h.all⟩
theorem Mod.drop {T : List (List Bt)} (h : Mod T) (k : Nat) : Mod (T.drop k) := by
  refine ⟨Nat.le_trans (by rw [List.length_drop]; omega) h.rows, Nat.le_trans ?_ h.all⟩
  conv => rhs; rw [← List.take_append_drop k T]
  simp only [bts, List.flatten_append, List.length_append]
  omega
theorem div_no {up : Bool} {T : List (List Bt)} {k : Int} (h : divB T k = false) : divU up T k = false ∧ divF T k = [] ∧ divS T k = [] := by
  unfold divU divF divS
  rw [h]
  exact ⟨rfl, rfl, rfl⟩
theorem gttb_none {w w' : World} {up : Bool} {T : List (List Bt)} {k : Int} (h : divB T k = false) (hb : Below w.heap.size w w') :
    GivesTTB w (divU up T k) (divF T k) (divS T k) (divB T k) (.returned (.tuple #[.agg #[.bool false, .slice none 0 0], .agg #[.bool false, .slice none 0 0], .bool false])) w' := by
  obtain ⟨h1, h2, h3⟩ := div_no (up := up) h
  rw [h, h1, h2, h3]
  exact ⟨⟨none, 0, 0, fun _ => 0, none, 0, 0, fun _ => 0, w.heap.size, rfl, Nat.le_refl _, hb.size, OwnT.nil _ _ _ _ _ _, OwnT.nil _ _ _ _ _ _⟩, hb⟩
theorem trainOf_take (up : Bool) (A : Option Addr) (c m : Nat) (T : List (List Bt)) (w : World) (hm : Mod T) (hk : m ≤ T.length) (hp : Trn w A T) : Calls Try.prog 98 #[.bool up, .slice A m c] w (GivesT w up (T.take m)) := by
  have h := trainOf_impl up A c (T.take m) w (hm.take m) (hp.take m)
  rwa [List.length_take, Nat.min_eq_left hk] at h
theorem trainOf_drop (up : Bool) (g o c m : Nat) (T : List (List Bt)) (w : World) (hm : Mod T) (hp : ∀ (i : Nat) (r : List Bt), T[i]? = some r → ∃ Ai ci, w.cell? ⟨g, o + i, none⟩ = some (.slice Ai r.length ci) ∧ Veil (Bts w Ai r)) :
    Calls Try.prog 98 #[.bool up, .slice (some ⟨g, o + m, none⟩) (T.length - m) c] w (GivesT w up (T.drop m)) := by
  have h := trainOf_impl up (some ⟨g, o + m, none⟩) c (T.drop m) w (hm.drop m) (Trn.drop hp m)
  rwa [List.length_drop] at h
theorem rows_below {w w' : World} {g o : Nat} {T : List (List Bt)} (h : ∀ (i : Nat) (r : List Bt), T[i]? = some r → ∃ Ai ci, w.cell? ⟨g, o + i, none⟩ = some (.slice Ai r.length ci) ∧ Veil (Bts w Ai r)) (hb : Below w.heap.size w w') :
    ∀ (i : Nat) (r : List Bt), T[i]? = some r → ∃ Ai ci, w'.cell? ⟨g, o + i, none⟩ = some (.slice Ai r.length ci) ∧ Veil (Bts w' Ai r) := fun i r hi => by
  obtain ⟨Ai, ci, h1, h2⟩ := h i r hi
  exact ⟨Ai, ci, (hb.cell (cell_lt' h1)).trans h1, vl (h2.out.below hb)⟩
theorem gttb_end {w w1 w2 w3 : World} {up : Bool} {T S : List (List Bt)} {A A' : Option Addr} {c c' g g' : Nat} {G G' : Nat → Nat} (hB1 : Below w.heap.size w w1) (h12 : Below w1.heap.size w1 w2) (h23 : Below w2.heap.size w2 w3) (hq : w.heap.size + 3 ≤ w1.heap.size)
    (ho : OwnT w2 w1.heap.size w2.heap.size A T g G) (ho' : OwnT w3 w2.heap.size w3.heap.size A' S g' G') {w' : World} (t : Touch w3 w' (w.heap.size + 1) (w.heap.size + 3)) :
    GivesTTB w up T S true (.returned (.tuple #[.agg #[.bool up, .slice A T.length c], .agg #[.bool up, .slice A' S.length c'], .bool true])) w' := by
  have h1 := h12.size
  have h2 := h23.size
  have h3 := t.size
  refine ⟨⟨A, c, g, G, A', c', g', G', w2.heap.size, rfl, by have := hB1.size; omega, by omega, ?_, ?_⟩, t.below (hB1.trans ((h12.mono hB1.size).trans (h23.mono (by have := hB1.size; omega)))) (by omega)⟩
  · exact ((ho.below h23).touch t (Or.inr (by omega))).wide hB1.size (Nat.le_refl _)
  · exact (ho'.touch t (Or.inr (by omega))).wide (Nat.le_refl _) h3
set_option maxRecDepth 100000 in
set_option maxHeartbeats 2000000 in
theorem divide_impl (up : Bool) (A : Option Addr) (c : Nat) (T : List (List Bt)) (k : Int) (w : World) (hm : Mod T) (hc : T.length ≤ c) (hp : Trn w A T) :
    Calls Try.prog 29 #[.agg #[.bool up, .slice A T.length c], .int .i64 k] w (GivesTTB w (divU up T k) (divF T k) (divS T k) (divB T k)) := by
  have HM := vl hm
  have hn := hm.rows
  have HB0 := vl ((((Below.refl w.heap.size w).alloc (Nat.le_refl _) (.cells #[.bool up, .slice A T.length c] 26)).alloc (by simp) (.cells #[.bool false, .slice none 0 0] 26)).alloc (by simp; omega) (.cells #[.bool false, .slice none 0 0] 26))
  have HP0 := vl (hp.below HB0.out)
  clear hp hm
  go_enter Try.func29, Try.ntmps29
  go_wp2_with fail
  refine (tok_impl up A c T _ HM.out HP0.out).mono ?_
  rintro e w1 ⟨rfl, hb1⟩
  have q1 : w.heap.size + 1 + 1 + 1 ≤ w1.heap.size := by have := hb1.size; simpa using this
  have HB1 := vl (HB0.out.trans (hb1.mono HB0.out.size))
  have HP1 := vl (HP0.out.below hb1)
  have HX1 := vl (show TBox w1 w.heap.size up A T.length c from by
    have hb := ((Below.refl (w.alloc (.cells #[.bool up, .slice A T.length c] 26)).heap.size (w.alloc (.cells #[.bool up, .slice A T.length c] 26))).alloc (Nat.le_refl _) (.cells #[.bool false, .slice none 0 0] 26)).alloc (by simp) (.cells #[.bool false, .slice none 0 0] 26)
    exact ((TBox.new w up A T.length c 26).below hb).below hb1)
  have HY1 := vl (show TBoxF w1 (w.heap.size + 1) false (.slice none 0 0) ∧ TBoxF w1 (w.heap.size + 1 + 1) false (.slice none 0 0) from by
    have h1 := TBoxF.new (w.alloc (.cells #[.bool up, .slice A T.length c] 26)) false (.slice none 0 0) 26
    have h2 := TBoxF.new ((w.alloc (.cells #[.bool up, .slice A T.length c] 26)).alloc (.cells #[.bool false, .slice none 0 0] 26)) false (.slice none 0 0) 26
    have h1' : TBoxF ((w.alloc (.cells #[.bool up, .slice A T.length c] 26)).alloc (.cells #[.bool false, .slice none 0 0] 26)) (w.heap.size + 1) false (.slice none 0 0) := by simpa using h1
    refine ⟨(h1'.block (Below.heap_alloc ((w.alloc (.cells #[.bool up, .slice A T.length c] 26)).alloc (.cells #[.bool false, .slice none 0 0] 26)) (.cells #[.bool false, .slice none 0 0] 26) (w.heap.size + 1) (by simp))).below hb1 (by simp), ?_⟩
    exact (show TBoxF (((w.alloc (.cells #[.bool up, .slice A T.length c] 26)).alloc (.cells #[.bool false, .slice none 0 0] 26)).alloc (.cells #[.bool false, .slice none 0 0] 26)) (w.heap.size + 1 + 1) false (.slice none 0 0) from by simpa using h2).below hb1 (by simp))
  clear hb1 HP0
  obtain ⟨x0, x1⟩ := HX1.out
  have y0 := HY1.out.1.c0; have y1 := HY1.out.1.c1; have y2 := HY1.out.1.f0; have y3 := HY1.out.1.f1
  have z0 := HY1.out.2.c0; have z1 := HY1.out.2.c1; have z2 := HY1.out.2.f0; have z3 := HY1.out.2.f1
  cases hok : tOk T with
  | false =>
    have HE := vl (show divB T k = false by unfold divB; rw [hok]; rfl)
    clear hok
    go_wp2
    refine bodyPost_ret (v := .tuple #[.agg #[.bool false, .slice none 0 0], .agg #[.bool false, .slice none 0 0], .bool false]) (by simp [results, Try.results29, go_sem, y0, y1, z0, z1]) rfl ?_
    exact gttb_none HE.out (by (repeat' (first | (with_reducible exact Below.refl _ _) | (with_reducible refine Below.drew ?_) | (with_reducible refine Below.alloc ?_ ?_ _) | (with_reducible refine Below.setCell ?_ ?_ _) | (with_reducible refine Below.trans ?_ (HB1.out.mono ?_)) | (first | omega | (simp; omega) | (simp; done)))))
  | true =>
    have HI := vl (in_tOk hok)
    have hr := HI.out.rows
    have HO := vl hok
    clear hok
    by_cases hk : 1 ≤ k ∧ k < (T.length : Int)
    · have HE := vl (show divB T k = true by unfold divB; rw [HO.out, inB_yes hk.1 (by omega)]; rfl)
      obtain ⟨k1, k2⟩ := hk
      obtain ⟨m, rfl⟩ : ∃ m : Nat, k = (m : Int) := ⟨k.toNat, by omega⟩
      have hmc : m ≤ c := by omega
      obtain ⟨g, o, rfl, hc1⟩ := HP1.out (by omega)
      have HC1 := vl hc1
      have hml : m ≤ T.length := by omega
      have b1 : (0 : Int) ≤ (m : Int) := by omega
      have b2 : (m : Int) ≤ (c : Int) := by omega
      have b3 : (m : Int) ≤ (T.length : Int) := by omega
      have b4 : (T.length : Int) ≤ (c : Int) := by omega
      have HQ := vl (show divU up T (m : Int) = up ∧ divF T (m : Int) = T.take m ∧ divS T (m : Int) = T.drop m from by
        unfold divU divF divS
        rw [if_pos HE.out, if_pos HE.out, if_pos HE.out, Int.toNat_natCast]
        exact ⟨rfl, rfl, rfl⟩)
      rw [HE.out, HQ.out.1, HQ.out.2.1, HQ.out.2.2]
      clear hc1
      go_wp2
      go_region_held3 (fun w' => w'.cell? ⟨w.heap.size, 0, none⟩ = some (.bool up) ∧ w'.cell? ⟨w.heap.size, 1, none⟩ = some (.slice (some ⟨g, o, none⟩) T.length c))
        (first | exact ⟨x0, x1⟩ | assumption | (refine ⟨?_, ?_⟩ <;> (repeat (rw [World.cell?_setCell_other _ _ _ _ (by intro e; injection e with e; omega)])) <;> assumption))
        (first
          | (go_at_call 98
             refine (trainOf_drop up g o (c - m) m T _ HM.out HC2.out).mono ?_
             rintro e w3 ⟨⟨A3, c3, g3, G3, rfl, hc3, ho3⟩, hb3⟩
             have HB3 := vl hb3
             have HO3 := vl ho3
             have hb13 := HB2.out.trans (hb3.mono HB2.out.size)
             have HY3 := vl (And.intro (HY1.out.1.below hb13 (by omega)) (HY1.out.2.below hb13 (by omega)))
             have hx3 := HX1.out.below hb13
             have S1 := And.intro hx3.1 hx3.2
             have k0 := hx3.1
             have k1 := hx3.2
             have y0 := HY3.out.1.c0; have y1 := HY3.out.1.c1; have y2 := HY3.out.1.f0; have y3 := HY3.out.1.f1
             have z0 := HY3.out.2.c0; have z1 := HY3.out.2.c1; have z2 := HY3.out.2.f0; have z3 := HY3.out.2.f1
             clear hb3 ho3 hb13 hx3)
          | (go_at_call 98
             refine (trainOf_take up (some ⟨g, o, none⟩) c m T _ HM.out hml (show Trn w1.drew (some ⟨g, o, none⟩) T from HP1.out.drew)).mono ?_
             rintro e w2 ⟨⟨A2, c2, g2, G2, rfl, hc2, ho2⟩, hb2⟩
             have hb2' : Below w1.heap.size w1 w2 := (Below.refl w1.heap.size w1).drew.trans hb2
             have HB2 := vl hb2'
             have HO2 := vl (show OwnT w2 w1.heap.size w2.heap.size A2 (T.take m) g2 G2 from ho2)
             have HC2 := vl (rows_below HC1.out hb2')
             have hx2 := HX1.out.below hb2'
             have S1 := And.intro hx2.1 hx2.2
             clear hb2 hb2' ho2 hx2))
      go_wp2
      refine bodyPost_ret (v := .tuple #[.agg #[.bool up, .slice A2 m c2], .agg #[.bool up, .slice A3 (T.length - m) c3], .bool true]) (by simp [results, Try.results29, go_sem, y0, y1, z0, z1]) rfl ?_
      have t := ((((Touch.refl w3 (w.heap.size + 1) (w.heap.size + 3)).set (w.heap.size + 1) 0 (.bool up) (by omega) (by omega)).set (w.heap.size + 1) 1 (.slice A2 m c2) (by omega) (by omega)).set (w.heap.size + 1 + 1) 0 (.bool up) (by omega) (by omega)).set (w.heap.size + 1 + 1) 1 (.slice A3 (T.length - m) c3) (by omega) (by omega)
      have hg := gttb_end (up := up) (c := c2) (c' := c3) HB1.out HB2.out HB3.out q1 HO2.out HO3.out t
      rw [List.length_take, Nat.min_eq_left hml, List.length_drop] at hg
      rw [HE.out, HQ.out.1, HQ.out.2.1, HQ.out.2.2]
      exact hg
    · have HE := vl (show divB T k = false by unfold divB; rw [HO.out, inB_no (by omega)]; rfl)
      have hk' : ¬ 1 ≤ k ∨ ¬ k < (T.length : Int) := by omega
      clear hk
      rcases hk' with hk' | hk'
      · have k1 : k < 1 := by omega
        clear hk'
        go_wp2
        refine bodyPost_ret (v := .tuple #[.agg #[.bool false, .slice none 0 0], .agg #[.bool false, .slice none 0 0], .bool false]) (by simp [results, Try.results29, go_sem, y0, y1, z0, z1]) rfl ?_
        exact gttb_none HE.out (by (repeat' (first | (with_reducible exact Below.refl _ _) | (with_reducible refine Below.drew ?_) | (with_reducible refine Below.alloc ?_ ?_ _) | (with_reducible refine Below.setCell ?_ ?_ _) | (with_reducible refine Below.trans ?_ (HB1.out.mono ?_)) | (first | omega | (simp; omega) | (simp; done)))))
      · have k1 : (T.length : Int) ≤ k := by omega
        clear hk'
        go_wp2
        refine bodyPost_ret (v := .tuple #[.agg #[.bool false, .slice none 0 0], .agg #[.bool false, .slice none 0 0], .bool false]) (by simp [results, Try.results29, go_sem, y0, y1, z0, z1]) rfl ?_
        exact gttb_none HE.out (by (repeat' (first | (with_reducible exact Below.refl _ _) | (with_reducible refine Below.drew ?_) | (with_reducible refine Below.alloc ?_ ?_ _) | (with_reducible refine Below.setCell ?_ ?_ _) | (with_reducible refine Below.trans ?_ (HB1.out.mono ?_)) | (first | omega | (simp; omega) | (simp; done)))))
end Go.Proofs.Ytmfeleocjmdooaa.C1
