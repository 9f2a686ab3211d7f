/- Calls: their conversion and comparison by the laws; whether they are valid, and their ranks, of the program and of its model. -/
import Derived.Test.YtmfeleocjmdooaaClM
import Derived.Test.YtmfeleocjmdooaaTrLw
import Derived.Test.YtmfeleocjmdooaaTrnL
import Derived.Test.YtmfeleocjmdooaaTrI5
import Derived.Test.YtmfeleocjmdooaaTrnV
import Derived.Test.YtmfeleocjmdooaaTs
namespace Go.Proofs.Ytmfeleocjmdooaa.C1
open Go.ChangeShapes Go.WideShapes Go.ChangeAt Go.RowKit
set_option linter.unusedVariables false

/-- A call's box. -/
def CBox (w : World) (g : Nat) (up : Bool) (A : Option Addr) (n c : Nat) (s b : Int) : Prop :=
  w.cell? ⟨g, 0, none⟩ = some (.bool up) ∧ w.cell? ⟨g, 1, none⟩ = some (.slice A n c) ∧ w.cell? ⟨g, 2, none⟩ = some (.int .i64 s) ∧ w.cell? ⟨g, 3, none⟩ = some (.int .i64 b)
section
variable {w w' : World} {g n c : Nat} {up : Bool} {A : Option Addr} {s b : Int}
theorem CBox.below (h : CBox w g up A n c s b) (hb : Below w.heap.size w w') : CBox w' g up A n c s b := by
  obtain ⟨h0, h1, h2, h3⟩ := h
  exact ⟨(hb.cell (cell_lt' h0)).trans h0, (hb.cell (cell_lt' h1)).trans h1, (hb.cell (cell_lt' h2)).trans h2, (hb.cell (cell_lt' h3)).trans h3⟩
theorem CBox.touch {B L : Nat} (h : CBox w g up A n c s b) (t : Touch w w' B L) (hg : g < B ∨ L ≤ g) : CBox w' g up A n c s b := by
  obtain ⟨h0, h1, h2, h3⟩ := h
  have e := t.block g (cell_lt' h0) hg
  exact ⟨(World.cell?_of_block e).trans h0, (World.cell?_of_block e).trans h1, (World.cell?_of_block e).trans h2, (World.cell?_of_block e).trans h3⟩
theorem CBox.new (w : World) (up : Bool) (A : Option Addr) (n c : Nat) (s b : Int) (t : TypeId) : CBox (w.alloc (.cells #[.bool up, .slice A n c, .int .i64 s, .int .i64 b] t)) w.heap.size up A n c s b := ⟨by simp, by simp, by simp, by simp⟩
theorem CBox.lt (h : CBox w g up A n c s b) : g < w.heap.size := cell_lt' h.1
end
/-- What a function that gives a call of its own leaves. -/
def GivesC (w : World) (C : Cl) (e : Ending) (w' : World) : Prop := (∃ A' c' g G, e = .returned (.agg #[.bool C.up, .slice A' C.T.length c', .int .i64 C.s, .int .i64 C.b]) ∧ C.T.length ≤ c' ∧ OwnT w' w.heap.size w'.heap.size A' C.T g G) ∧ Below w.heap.size w w'
set_option maxRecDepth 100000 in
set_option maxHeartbeats 2000000 in
theorem toCall (C : Cl) (A : Option Addr) (c : Nat) (w : World) (hn : C.T.length ≤ 1048576) (hr : ∀ r ∈ C.T, r.length ≤ 1048576) (hp : SrcTrn w A C.T) :
    Calls Try.prog 92 #[.agg #[.bool C.up, .slice A C.T.length c, .int .i64 C.s, .int .i64 C.b]] w (GivesC w C) := by
  have HP := vl hp
  have HN := vl hr
  clear hp hr
  have HB0 := vl ((((Below.refl w.heap.size w).alloc (Nat.le_refl _) (.cells #[.bool C.up, .slice A C.T.length c, .int .i64 C.s, .int .i64 C.b] 97)).alloc (by simp) (.cells #[.bool false, .slice none 0 0, .int .i64 0, .int .i64 0] 44)).alloc (by simp; omega) (.cells #[.bool false, .slice none 0 0, .int .i64 0, .int .i64 0] 44))
  have hx0 : Box4 (((w.alloc (.cells #[.bool C.up, .slice A C.T.length c, .int .i64 C.s, .int .i64 C.b] 97)).alloc (.cells #[.bool false, .slice none 0 0, .int .i64 0, .int .i64 0] 44)).alloc (.cells #[.bool false, .slice none 0 0, .int .i64 0, .int .i64 0] 44)) w.heap.size (.bool C.up) (.slice A C.T.length c) (.int .i64 C.s) (.int .i64 C.b) 97 := ((Box4.new w (.bool C.up) (.slice A C.T.length c) (.int .i64 C.s) (.int .i64 C.b) 97).alloc _).alloc _
  have hy0 : Box4 (((w.alloc (.cells #[.bool C.up, .slice A C.T.length c, .int .i64 C.s, .int .i64 C.b] 97)).alloc (.cells #[.bool false, .slice none 0 0, .int .i64 0, .int .i64 0] 44)).alloc (.cells #[.bool false, .slice none 0 0, .int .i64 0, .int .i64 0] 44)) (w.heap.size + 1) (.bool false) (.slice none 0 0) (.int .i64 0) (.int .i64 0) 44 := by
    have := (Box4.new (w.alloc (.cells #[.bool C.up, .slice A C.T.length c, .int .i64 C.s, .int .i64 C.b] 97)) (.bool false) (.slice none 0 0) (.int .i64 0) (.int .i64 0) 44).alloc (.cells #[.bool false, .slice none 0 0, .int .i64 0, .int .i64 0] 44)
    simpa using this
  have hz0 : Box4 (((w.alloc (.cells #[.bool C.up, .slice A C.T.length c, .int .i64 C.s, .int .i64 C.b] 97)).alloc (.cells #[.bool false, .slice none 0 0, .int .i64 0, .int .i64 0] 44)).alloc (.cells #[.bool false, .slice none 0 0, .int .i64 0, .int .i64 0] 44)) (w.heap.size + 1 + 1) (.bool false) (.slice none 0 0) (.int .i64 0) (.int .i64 0) 44 := by
    have := Box4.new ((w.alloc (.cells #[.bool C.up, .slice A C.T.length c, .int .i64 C.s, .int .i64 C.b] 97)).alloc (.cells #[.bool false, .slice none 0 0, .int .i64 0, .int .i64 0] 44)) (.bool false) (.slice none 0 0) (.int .i64 0) (.int .i64 0) 44
    simpa using this
  have HX0 := vl hx0
  have HY0 := vl hy0
  have HZ0 := vl hz0
  clear hx0 hy0 hz0
  go_enter Try.func92, Try.ntmps92
  go_wp2_with fail
  refine (toTrain C.up A c C.T _ hn HN.out (HP.out.below HB0.out)).mono ?_
  rintro e w1 ⟨⟨A2, c2, g2, G2, rfl, hc2, ho2⟩, hb1⟩
  have q1 : w.heap.size + 1 + 1 + 1 ≤ w1.heap.size := by have := hb1.size; simpa using this
  have HB1 := vl (HB0.out.trans (hb1.mono (by simp; omega)))
  have HX1 := vl (HX0.out.below hb1)
  have HY1 := vl (HY0.out.below hb1)
  have HZ1 := vl (HZ0.out.below hb1)
  have HO := vl ho2
  clear hb1 ho2 HX0 HY0 HZ0
  have q2 : w.heap.size + 1 + 1 < w1.heap.size := by omega
  have q3 : w.heap.size + 1 < w1.heap.size := by omega
  have q4 : w.heap.size < w1.heap.size := by omega
  obtain ⟨x0, x1, x2, x3⟩ := HX1.out.at
  obtain ⟨y0, y1, y2, y3⟩ := HY1.out.at
  obtain ⟨f0, f1, f2, f3⟩ := HY1.out.free
  obtain ⟨z0, z1, z2, z3⟩ := HZ1.out.at
  obtain ⟨h0, h1, h2, h3⟩ := HZ1.out.free
  go_wp2
  refine bodyPost_ret (v := .agg #[.bool C.up, .slice A2 C.T.length c2, .int .i64 C.s, .int .i64 C.b]) (by simp [results, Try.results92, go_sem, y0, y1, y2, y3]) rfl ?_
  clear x0 x1 x2 x3 y0 y1 y2 y3 f0 f1 f2 f3 z0 z1 z2 z3 h0 h1 h2 h3
  have hO := HO.out
  simp only [World.size_alloc] at hO
  have key : ∀ W' : World, Touch w1 W' (w.heap.size + 1) (w.heap.size + 1 + 1 + 1) → GivesC w C (.returned (.agg #[.bool C.up, .slice A2 C.T.length c2, .int .i64 C.s, .int .i64 C.b])) W' := fun W' hT =>
    ⟨⟨A2, c2, g2, G2, rfl, hc2, (hO.touch hT (Or.inr (Nat.le_refl _))).wide (by omega) hT.size⟩, hT.below HB1.out (by omega)⟩
  refine key _ ?_
  iterate 8 (with_reducible refine Touch.set ?_ _ _ _ (by omega) (by omega))
  exact Touch.refl _ _ _
set_option maxHeartbeats 1000000 in
theorem eqCall (C : Cl) (A A' : Option Addr) (c c' : Nat) (w : World) (hn : C.T.length ≤ 1048576) (hr : ∀ r ∈ C.T, r.length ≤ 1048576) (hp : Trn w A C.T) (hp' : Trn w A' C.T) :
    Calls Try.prog 93 #[.agg #[.bool C.up, .slice A C.T.length c, .int .i64 C.s, .int .i64 C.b], .agg #[.bool C.up, .slice A' C.T.length c', .int .i64 C.s, .int .i64 C.b]] w fun e w' => e = .returned (.bool true) ∧ Below w.heap.size w w' := by
  have HB0 := vl (((Below.refl w.heap.size w).alloc (Nat.le_refl _) (.cells #[.bool C.up, .slice A C.T.length c, .int .i64 C.s, .int .i64 C.b] 44)).alloc (by simp) (.cells #[.bool C.up, .slice A' C.T.length c', .int .i64 C.s, .int .i64 C.b] 44))
  have hx0 : CBox ((w.alloc (.cells #[.bool C.up, .slice A C.T.length c, .int .i64 C.s, .int .i64 C.b] 44)).alloc (.cells #[.bool C.up, .slice A' C.T.length c', .int .i64 C.s, .int .i64 C.b] 44)) w.heap.size C.up A C.T.length c C.s C.b := (CBox.new w C.up A C.T.length c C.s C.b 44).below ((Below.refl _ _).alloc (Nat.le_refl _) _)
  have hy0 : CBox ((w.alloc (.cells #[.bool C.up, .slice A C.T.length c, .int .i64 C.s, .int .i64 C.b] 44)).alloc (.cells #[.bool C.up, .slice A' C.T.length c', .int .i64 C.s, .int .i64 C.b] 44)) (w.heap.size + 1) C.up A' C.T.length c' C.s C.b := by
    have := CBox.new (w.alloc (.cells #[.bool C.up, .slice A C.T.length c, .int .i64 C.s, .int .i64 C.b] 44)) C.up A' C.T.length c' C.s C.b 44
    simpa using this
  have HX0 := vl hx0
  have HY0 := vl hy0
  have HP := vl (hp.below HB0.out)
  have HP' := vl (hp'.below HB0.out)
  have HR := vl hr
  clear hp hp' hr hx0 hy0
  go_enter Try.func93, Try.ntmps93
  go_wp2_with fail
  refine (eqTrain C.up A A' c c' C.T _ hn HR.out HP.out HP'.out).mono ?_
  rintro e w1 ⟨rfl, hb1⟩
  have HB1 := vl (HB0.out.trans (hb1.mono HB0.out.size))
  have HX1 := vl (HX0.out.below hb1)
  have HY1 := vl (HY0.out.below hb1)
  have q1 := HX1.out.lt
  have q2 := HY1.out.lt
  obtain ⟨x0, x1, x2, x3⟩ := HX1.out
  obtain ⟨y0, y1, y2, y3⟩ := HY1.out
  clear hb1
  go_wp2
  go_ret
  exact ⟨rfl, HB1.out⟩
theorem szCall_no (C : Cl) (A : Option Addr) (c : Nat) (w : World) (l : Int) (h1 : 0 ≤ l) (h2 : l ≤ 1048576) (ht : ArgT w A C.T) (h : l < (szT C.T : Int)) :
    Calls Try.prog 90 #[.agg #[.bool C.up, .slice A C.T.length c, .int .i64 C.s, .int .i64 C.b], .int .i64 l] w fun e w' => e = .returned (.int .i64 (-1)) ∧ Below w.heap.size w w' := by
  have HB0 := vl ((Below.refl w.heap.size w).alloc (Nat.le_refl _) (.cells #[.bool C.up, .slice A C.T.length c, .int .i64 C.s, .int .i64 C.b] 97))
  have HT := vl (show ArgT (w.alloc (.cells #[.bool C.up, .slice A C.T.length c, .int .i64 C.s, .int .i64 C.b] 97)) A C.T from ⟨ht.len, ht.row, ht.src.below HB0.out⟩)
  clear ht
  go_enter Try.func90, Try.ntmps90
  go_wp2_with fail
  refine (szTrain_no C.up A c C.T _ _ h1 h2 HT.out h).mono ?_
  rintro e w1 ⟨rfl, hb1⟩
  have HB1 := vl (HB0.out.trans (hb1.mono HB0.out.size))
  clear hb1
  go_wp2
  go_ret
  exact ⟨rfl, HB1.out⟩
theorem szCall_yes (C : Cl) (A : Option Addr) (c : Nat) (w : World) (l : Int) (h2 : l ≤ 1048576) (ht : ArgT w A C.T) (h : (szT C.T : Int) ≤ l) :
    Calls Try.prog 90 #[.agg #[.bool C.up, .slice A C.T.length c, .int .i64 C.s, .int .i64 C.b], .int .i64 l] w fun e w' => e = .returned (.int .i64 (l - (szT C.T : Int))) ∧ Below w.heap.size w w' := by
  have HB0 := vl ((Below.refl w.heap.size w).alloc (Nat.le_refl _) (.cells #[.bool C.up, .slice A C.T.length c, .int .i64 C.s, .int .i64 C.b] 97))
  have HT := vl (show ArgT (w.alloc (.cells #[.bool C.up, .slice A C.T.length c, .int .i64 C.s, .int .i64 C.b] 97)) A C.T from ⟨ht.len, ht.row, ht.src.below HB0.out⟩)
  have h0 : 0 ≤ l - (szT C.T : Int) := by omega
  clear ht
  go_enter Try.func90, Try.ntmps90
  go_wp2_with fail
  refine (szTrain_yes C.up A c C.T _ _ h2 HT.out h).mono ?_
  rintro e w1 ⟨rfl, hb1⟩
  have HB1 := vl (HB0.out.trans (hb1.mono HB0.out.size))
  clear hb1
  go_wp2
  go_ret
  exact ⟨rfl, HB1.out⟩
set_option maxHeartbeats 1000000 in
theorem clok_spec (C : Cl) (A : Option Addr) (c : Nat) (w : World) (hm : Mod C.T) (hp : Trn w A C.T) :
    Calls Try.prog 91 #[.agg #[.bool C.up, .slice A C.T.length c, .int .i64 C.s, .int .i64 C.b]] w (GivesB w (clOk C)) := by
  have HB0 := vl ((Below.refl w.heap.size w).alloc (Nat.le_refl _) (.cells #[.bool C.up, .slice A C.T.length c, .int .i64 C.s, .int .i64 C.b] 44))
  have HX0 := vl (CBox.new w C.up A C.T.length c C.s C.b 44)
  have HP := vl (hp.alloc (.cells #[.bool C.up, .slice A C.T.length c, .int .i64 C.s, .int .i64 C.b] 44))
  have HM := vl hm
  have H := vl (show clOk C = (tOk C.T && (inB C.s 0 1000000 && inB C.b (-1) 1000000)) from rfl)
  clear hp hm
  cases h1 : tOk C.T <;> cases h2 : inB C.s 0 1000000 <;> cases h3 : inB C.b (-1) 1000000
  all_goals
    have H' := vl (H.out.trans (by rw [h1, h2, h3]))
    have H1 := vl h1
    clear H h1
    go_enter Try.func91, Try.ntmps91
    go_wp2_with fail
    refine (tok_spec C.up A c C.T _ HM.out HP.out).mono ?_
    rintro e w1 ⟨rfl, hb1⟩
    rw [H1.out]
    have HB1 := vl (HB0.out.trans (hb1.mono HB0.out.size))
    have HX1 := vl (HX0.out.below hb1)
    have q1 := HX1.out.lt
    obtain ⟨x0, x1, x2, x3⟩ := HX1.out
    clear hb1
    go_wp2_with (go_at_call 118; refine (in_spec _ _ _ _).mono ?_; rintro e w' ⟨rfl, rfl⟩)
    go_ret
    exact ⟨ret_bool H'.out.symm, HB1.out⟩
theorem time_at {x : Int} {b : Bool} (h : inB x 0 1000000 = b) (w : World) : Calls Try.prog 112 #[.int .i64 x] w fun e w' => e = .returned (.bool b) ∧ w = w' := by subst h; exact time_i _ _
theorem inb_m1 (b : Int) : inB b (-1) 1000000 = (decide (b = -1) || inB b 0 1000000) := by
  by_cases h : b = -1
  · subst h; rfl
  · rw [decide_eq_false h, Bool.false_or]
    unfold inB
    by_cases h1 : 0 ≤ b ∧ b ≤ 1000000
    · rw [decide_eq_true h1, decide_eq_true (by omega)]
    · rw [decide_eq_false h1, decide_eq_false (by omega)]
set_option maxHeartbeats 1000000 in
theorem clok_impl (C : Cl) (A : Option Addr) (c : Nat) (w : World) (hm : Mod C.T) (hp : Trn w A C.T) :
    Calls Try.prog 41 #[.agg #[.bool C.up, .slice A C.T.length c, .int .i64 C.s, .int .i64 C.b]] w (GivesB w (clOk C)) := by
  have HB0 := vl ((Below.refl w.heap.size w).alloc (Nat.le_refl _) (.cells #[.bool C.up, .slice A C.T.length c, .int .i64 C.s, .int .i64 C.b] 44))
  have HX0 := vl (CBox.new w C.up A C.T.length c C.s C.b 44)
  have HP := vl (hp.alloc (.cells #[.bool C.up, .slice A C.T.length c, .int .i64 C.s, .int .i64 C.b] 44))
  have HM := vl hm
  have H := vl (show clOk C = (tOk C.T && (inB C.s 0 1000000 && (decide (C.b = -1) || inB C.b 0 1000000))) by rw [← inb_m1]; rfl)
  clear hp hm
  cases h1 : tOk C.T <;> cases h2 : inB C.s 0 1000000 <;> by_cases hb : C.b = -1 <;> cases h3 : inB C.b 0 1000000
  all_goals
    have H' := vl (H.out.trans (by rw [h1, h2, h3]))
    have H1 := vl h1
    have H4 := vl (H'.out.trans (by first | rw [decide_eq_true hb] | rw [decide_eq_false hb]))
    first | have hb' : (C.b == -1) = true := by simp [hb] | have hb' : (C.b == -1) = false := by simp [hb]
    clear H H' h1 hb
    go_enter Try.func41, Try.ntmps41
    go_wp2_with fail
    refine (tok_impl C.up A c C.T _ HM.out HP.out).mono ?_
    rintro e w1 ⟨rfl, hb1⟩
    rw [H1.out]
    have HB1 := vl (HB0.out.trans (hb1.mono HB0.out.size))
    have HX1 := vl (HX0.out.below hb1)
    have q1 := HX1.out.lt
    obtain ⟨x0, x1, x2, x3⟩ := HX1.out
    clear hb1
    go_wp2_with (go_at_call 112; refine (time_i _ _).mono ?_; rintro e w' ⟨rfl, rfl⟩)
    go_ret
    exact ⟨ret_bool H4.out.symm, HB1.out⟩
end Go.Proofs.Ytmfeleocjmdooaa.C1
