/- The drawn train of a law. -/
import Derived.Test.YtmfeleocjmdooaaDTr
namespace Go.Proofs.Ytmfeleocjmdooaa.C1
open Go.ChangeShapes Go.WideShapes Go.ChangeAt Go.RowKit
set_option linter.unusedVariables false

def TrainNew (w : World) (e : Ending) (w' : World) : Prop :=
  ∃ (up : Bool) (A : Option Addr) (c k : Nat) (M : List (List Bt)), e = .returned (.agg #[.bool up, .slice A M.length c]) ∧ 1 ≤ k ∧ k ≤ 4 ∧ TD 1 k M ∧ Trn w' A M ∧ Below w.heap.size w w'
set_option maxHeartbeats 1000000 in
theorem drawtrain (A : Option Addr) (n cap : Nat) (f : Nat → Int) (w : World) (hn : n ≤ 1048576) (hs : SrcB w A n f) :
    Calls Try.prog 27 #[.slice A n cap] w (TrainNew w) := by
  have hba := (Below.refl w.heap.size w).alloc (Nat.le_refl _) (.cells #[.bool false, .slice none 0 0] 26)
  have HB0 := vl hba
  have HS0 := vl (hs.below hba)
  have HR0 := vl (TBoxF.new w false (.slice none 0 0) 26)
  have hs0 : (w.alloc (.cells #[.bool false, .slice none 0 0] 26)).heap.size = w.heap.size + 1 := by simp
  clear hba hs
  go_enter Try.func27, Try.ntmps27
  go_wp2_with fail
  refine (new_draw _ _ _ f _ hn HS0.out).mono ?_
  rintro e w1 ⟨rfl, hb1, hs1, hc1⟩
  have HB1 := vl (HB0.out.trans (hb1.mono (by omega)))
  have HR1 := vl (HR0.out.below hb1 HR0.out.lt)
  have HC1 := vl hc1
  clear hb1 hc1 HR0 HS0
  rw [hs0] at HC1 hs1 ⊢
  go_wp2_with fail
  refine (train_draw _ 1 _ HC1.out (by omega) (by omega)).mono ?_
  rintro e w2 ⟨up, A2, c2, g2, k, G2, M, rfl, hk1, hk4, ht, _, ho, hd⟩
  have HT := vl ht
  have HO := vl ho
  have HB2 := vl (HB1.out.trans (hd.below (by omega)))
  have HR2 := vl (HR1.out.block (hd.heap (by omega) HR1.out.lt))
  clear ht ho hd
  have r0 := HR2.out.c0; have r1 := HR2.out.c1; have r2 := HR2.out.f0; have r3 := HR2.out.f1
  go_wp2
  refine bodyPost_ret (v := .agg #[.bool up, .slice A2 M.length c2]) (by simp [results, Try.results27, go_sem, r0, r1]) rfl ?_
  have t : ∀ W' : World, Touch w2 W' w.heap.size (w.heap.size + 1) → TrainNew w (.returned (.agg #[.bool up, .slice A2 M.length c2])) W' := fun W' t =>
    ⟨up, A2, c2, k, M, rfl, hk1, hk4, HT.out, (HO.out.touch t (Or.inr (by omega))).trn, t.below HB2.out (Nat.le_refl _)⟩
  refine t _ ?_
  iterate 2 (with_reducible refine Touch.set ?_ _ _ _ (by omega) (by omega))
  exact Touch.refl _ _ _
end Go.Proofs.Ytmfeleocjmdooaa.C1
