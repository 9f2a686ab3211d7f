/- Trains divided: of the model and of the program. -/
import Derived.Test.YtacnjipmojlpnaaTrC
import Derived.Deep.RegionHeld3
namespace Go.Proofs.Ytacnjipmojlpnaa.C1
open Go.ChangeShapes Go.WideShapes Go.ChangeAt Go.RowKit
set_option linter.unusedVariables false

/-- What dividing gives. -/
def divB (T : List (List Bt)) (k : Int) : Bool := tOk T && inB k 1 ((T.length : Int) - 1)
def divF (T : List (List Bt)) (k : Int) : List (List Bt) := if divB T k = true then T.take k.toNat else []
def divS (T : List (List Bt)) (k : Int) : List (List Bt) := if divB T k = true then T.drop k.toNat else []
def divU (up : Bool) (T : List (List Bt)) (k : Int) : Bool := if divB T k = true then up else false
/-- What a function that gives two trains and a bool leaves. -/
def GivesTTB (w : World) (up : Bool) (T S : List (List Bt)) (ok : Bool) (e : Ending) (w' : World) : Prop :=
  (∃ A c g G A' c' g' G' L, e = .returned (.tuple #[.agg #[.bool up, .slice A T.length c], .agg #[.bool up, .slice A' S.length c'], .bool ok]) ∧ w.heap.size ≤ L ∧ L ≤ w'.heap.size ∧ OwnT w' w.heap.size L A T g G ∧ OwnT w' L w'.heap.size A' S g' G') ∧ Below w.heap.size w w'
theorem OwnT.nil (w : World) (B L : Nat) (A : Option Addr) (g : Nat) (G : Nat → Nat) : OwnT w B L A [] g G := ⟨fun h => absurd h (by simp), fun h => absurd h (by simp), fun i r h => by simp at h, fun i r h => by simp at h, fun i j r s h => by simp at h⟩
theorem Trn.take {w : World} {A : Option Addr} {T : List (List Bt)} (h : Trn w A T) (k : Nat) : Trn w A (T.take k) := fun hn => by
  obtain ⟨g, o, e, hc⟩ := h (by have := List.length_take_le' k T; omega)
  exact ⟨g, o, e, fun i r hi => hc i r (by rw [List.getElem?_take] at hi; split at hi <;> first | exact hi | cases hi)⟩
theorem Trn.drop {w : World} {g o : Nat} {T : List (List Bt)} (h : ∀ (i : Nat) (r : List Bt), T[i]? = some r → ∃ Ai ci, w.cell? ⟨g, o + i, none⟩ = some (.slice Ai r.length ci) ∧ Veil (Bts w Ai r)) (k : Nat) : Trn w (some ⟨g, o + k, none⟩) (T.drop k) := fun hn =>
  ⟨g, o + k, rfl, fun i r hi => by
    rw [List.getElem?_drop] at hi
    obtain ⟨Ai, ci, h1, h2⟩ := h (k + i) r hi
    exact ⟨Ai, ci, by rw [Nat.add_assoc]; exact h1, h2⟩⟩
theorem Mod.take {T : List (List Bt)} (h : Mod T) (k : Nat) : Mod (T.take k) := ⟨Nat.le_trans (List.length_take_le' k T) h.rows, Nat.le_trans (take_le T k) h.all⟩
theorem Mod.drop {T : List (List Bt)} (h : Mod T) (k : Nat) : Mod (T.drop k) := by
  refine ⟨Nat.le_trans (by rw [List.length_drop]; omega) h.rows, Nat.le_trans ?_ h.all⟩
  conv => rhs; rw [← List.take_append_drop k T]
  simp only [bts, List.flatten_append, List.length_append]
  omega
theorem div_no {up : Bool} {T : List (List Bt)} {k : Int} (h : divB T k = false) : divU up T k = false ∧ divF T k = [] ∧ divS T k = [] := by
  unfold divU divF divS
  rw [h]
  exact ⟨rfl, rfl, rfl⟩
theorem gttb_none {w w' : World} {up : Bool} {T : List (List Bt)} {k : Int} (h : divB T k = false) (hb : Below w.heap.size w w') :
    GivesTTB w (divU up T k) (divF T k) (divS T k) (divB T k) (.returned (.tuple #[.agg #[.bool false, .slice none 0 0], .agg #[.bool false, .slice none 0 0], .bool false])) w' := by
  obtain ⟨h1, h2, h3⟩ := div_no (up := up) h
  rw [h, h1, h2, h3]
  exact ⟨⟨none, 0, 0, fun _ => 0, none, 0, 0, fun _ => 0, w.heap.size, rfl, Nat.le_refl _, hb.size, OwnT.nil _ _ _ _ _ _, OwnT.nil _ _ _ _ _ _⟩, hb⟩
end Go.Proofs.Ytacnjipmojlpnaa.C1
