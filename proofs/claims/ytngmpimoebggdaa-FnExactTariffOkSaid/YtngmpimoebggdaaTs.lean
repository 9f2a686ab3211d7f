/- Turns and stretches: their conversion and comparison by the laws; the functions of the program and of its model. -/
import Derived.Test.YtngmpimoebggdaaPsM
import Derived.Test.YtngmpimoebggdaaRow
import Derived.Test.YtngmpimoebggdaaOpen
import Derived.Lib.SmallJoins
namespace Go.Proofs.Ytngmpimoebggdaa.C1
open Go.ChangeShapes Go.WideShapes Go.ChangeAt Go.RowKit Go.Deep Go.Joins Go.Proofs.Ytngmpimoebggdaa.Opened
set_option linter.unusedVariables false

/-- Block b is just two cells. -/
def Box2 (w : World) (b : Nat) (x y : Value) (t : TypeId) : Prop := w.heap[b]? = some (.cells #[x, y] t (0, 0))
/-- Block b is just four cells. -/
def Box4 (w : World) (b : Nat) (x y z u : Value) (t : TypeId) : Prop := w.heap[b]? = some (.cells #[x, y, z, u] t (0, 0))
section
variable {w w' : World} {b : Nat} {x y z u : Value} {t : TypeId}
theorem Box2.lt (h : Box2 w b x y t) : b < w.heap.size := (Array.getElem?_eq_some_iff.1 h).1
theorem Box2.new (w : World) (x y : Value) (t : TypeId) : Box2 (w.alloc (.cells #[x, y] t)) w.heap.size x y t := heap_alloc_new w _
theorem Box2.alloc (h : Box2 w b x y t) (o : Obj) : Box2 (w.alloc o) b x y t := (Below.heap_alloc w o b h.lt).trans h
theorem Box2.below (h : Box2 w b x y t) (hb : Below w.heap.size w w') : Box2 w' b x y t := (hb.block b h.lt).trans h
theorem Box2.at (h : Box2 w b x y t) : w.cell? ⟨b, 0, none⟩ = some x ∧ w.cell? ⟨b, 1, none⟩ = some y := by
  unfold Box2 at h
  unfold World.cell?
  simp [h]
theorem Box2.free (h : Box2 w b x y t) : w.frozen? ⟨b, 0, none⟩ = false ∧ w.frozen? ⟨b, 1, none⟩ = false := by
  unfold Box2 at h
  unfold World.frozen?
  simp [h]
theorem Box4.lt (h : Box4 w b x y z u t) : b < w.heap.size := (Array.getElem?_eq_some_iff.1 h).1
theorem Box4.new (w : World) (x y z u : Value) (t : TypeId) : Box4 (w.alloc (.cells #[x, y, z, u] t)) w.heap.size x y z u t := heap_alloc_new w _
theorem Box4.alloc (h : Box4 w b x y z u t) (o : Obj) : Box4 (w.alloc o) b x y z u t := (Below.heap_alloc w o b h.lt).trans h
theorem Box4.below (h : Box4 w b x y z u t) (hb : Below w.heap.size w w') : Box4 w' b x y z u t := (hb.block b h.lt).trans h
theorem Box4.at (h : Box4 w b x y z u t) : w.cell? ⟨b, 0, none⟩ = some x ∧ w.cell? ⟨b, 1, none⟩ = some y ∧ w.cell? ⟨b, 2, none⟩ = some z ∧ w.cell? ⟨b, 3, none⟩ = some u := by
  unfold Box4 at h
  unfold World.cell?
  simp [h]
theorem Box4.free (h : Box4 w b x y z u t) : w.frozen? ⟨b, 0, none⟩ = false ∧ w.frozen? ⟨b, 1, none⟩ = false ∧ w.frozen? ⟨b, 2, none⟩ = false ∧ w.frozen? ⟨b, 3, none⟩ = false := by
  unfold Box4 at h
  unfold World.frozen?
  simp [h]
theorem Box4.set0 (h : Box4 w b x y z u t) (s : Value) : Box4 (w.setCell ⟨b, 0, none⟩ s) b s y z u t := by
  unfold Box4 at *
  simp [World.setCell, Array.getElem?_modify, h]
theorem Box4.set1 (h : Box4 w b x y z u t) (s : Value) : Box4 (w.setCell ⟨b, 1, none⟩ s) b x s z u t := by
  unfold Box4 at *
  simp [World.setCell, Array.getElem?_modify, h]
theorem Box4.set2 (h : Box4 w b x y z u t) (s : Value) : Box4 (w.setCell ⟨b, 2, none⟩ s) b x y s u t := by
  unfold Box4 at *
  simp [World.setCell, Array.getElem?_modify, h]
theorem Box4.set3 (h : Box4 w b x y z u t) (s : Value) : Box4 (w.setCell ⟨b, 3, none⟩ s) b x y z s t := by
  unfold Box4 at *
  simp [World.setCell, Array.getElem?_modify, h]
end
/-- What a function that gives a truth value leaves. -/
def GivesB (w : World) (b : Bool) (e : Ending) (w' : World) : Prop := e = .returned (.bool b) ∧ Below w.heap.size w w'
theorem within_i (x l h : Int) (w : World) :
    Calls Try.prog 75 #[.int .i64 x, .int .i64 l, .int .i64 h] w fun e w' => e = .returned (.bool (inB x l h)) ∧ w = w' := by
  by_cases h1 : l ≤ x
  · by_cases h2 : x ≤ h
    · go_enter Try.func75, Try.ntmps75
      go_wp2
      go_ret
      exact ⟨ret_bool (inB_yes h1 h2).symm, rfl⟩
    · have h2' : h < x := by omega
      go_enter Try.func75, Try.ntmps75
      go_wp2
      go_ret
      exact ⟨ret_bool (inB_no (Or.inr h2')).symm, rfl⟩
  · have h1' : x < l := by omega
    go_enter Try.func75, Try.ntmps75
    go_wp2
    go_ret
    exact ⟨ret_bool (inB_no (Or.inl h1')).symm, rfl⟩
theorem time_i (x : Int) (w : World) :
    Calls Try.prog 100 #[.int .i64 x] w fun e w' => e = .returned (.bool (inB x 0 1000000)) ∧ w = w' := by
  go_enter Try.func100, Try.ntmps100
  go_wp2_with (go_at_call 75; refine (within_i _ _ _ _).mono ?_; rintro e w' ⟨rfl, rfl⟩)
  go_ret
  exact ⟨rfl, rfl⟩
def GivesTn (w : World) (T : Tn) (e : Ending) (w' : World) : Prop := e = .returned (.agg #[.bool T.u, .int .i64 T.c]) ∧ Below w.heap.size w w'
theorem toTurn (T : Tn) (w : World) : Calls Try.prog 122 #[.agg #[.bool T.u, .int .i64 T.c]] w (GivesTn w T) := by
  go_enter Try.func122, Try.ntmps122
  go_wp2
  refine bodyPost_ret (v := .agg #[.bool T.u, .int .i64 T.c]) (by simp [results, Try.results122, go_sem]) rfl ?_
  exact ⟨rfl, by (repeat' (first | (with_reducible exact Below.refl _ _) | (with_reducible refine Below.drew ?_) | (with_reducible refine Below.alloc ?_ ?_ _) | (with_reducible refine Below.setCell ?_ ?_ _) | (first | omega | (simp; omega) | (simp; done))))⟩
theorem eqTurn (T : Tn) (w : World) : Calls Try.prog 135 #[.agg #[.bool T.u, .int .i64 T.c], .agg #[.bool T.u, .int .i64 T.c]] w fun e w' => e = .returned (.bool true) ∧ Below w.heap.size w w' := by
  obtain ⟨u, c⟩ := T
  have HB0 := Lib.hid (((Below.refl w.heap.size w).alloc (Nat.le_refl _) (.cells #[.bool u, .int .i64 c] 106)).alloc (by simp) (.cells #[.bool u, .int .i64 c] 106))
  show Calls Try.prog 135 #[.agg #[.bool u, .int .i64 c], .agg #[.bool u, .int .i64 c]] w _
  cases u
  all_goals
    go_enter Try.func135, Try.ntmps135
    go_wp2
    go_ret
    exact ⟨rfl, HB0.out⟩
theorem tnok_spec (T : Tn) (w : World) : Calls Try.prog 117 #[.agg #[.bool T.u, .int .i64 T.c]] w (GivesB w (tnOk T)) := by
  have HB0 := Lib.hid ((Below.refl w.heap.size w).alloc (Nat.le_refl _) (.cells #[.bool T.u, .int .i64 T.c] 106))
  have H := Lib.hid (show tnOk T = inB T.c 0 1000000 from rfl)
  go_enter Try.func117, Try.ntmps117
  go_wp2_with (go_at_call 65; refine (in_spec _ _ _ _).mono ?_; rintro e w' ⟨rfl, rfl⟩)
  go_ret
  exact ⟨ret_bool H.out.symm, HB0.out⟩
theorem tnok_impl (T : Tn) (w : World) : Calls Try.prog 128 #[.agg #[.bool T.u, .int .i64 T.c]] w (GivesB w (tnOk T)) := by
  have HB0 := Lib.hid ((Below.refl w.heap.size w).alloc (Nat.le_refl _) (.cells #[.bool T.u, .int .i64 T.c] 106))
  have H := Lib.hid (show tnOk T = inB T.c 0 1000000 from rfl)
  go_enter Try.func128, Try.ntmps128
  go_wp2_with (go_at_call 100; refine (time_i _ _).mono ?_; rintro e w' ⟨rfl, rfl⟩)
  go_ret
  exact ⟨ret_bool H.out.symm, HB0.out⟩
section
variable {H : Type} {enc : TypeId × Value → H} {w : World} {base : Nat} {spare : Nat → Bool} {held : Bool}
set_option maxRecDepth 100000 in
theorem open_turn {r : Reach} {b0 : Nat} {v : Value} {d : DataW H} {ps : List MemPlace} (hv : Value.okWide Try.prog w r b0 94 v) (h : DataW.Trod enc Try.prog w base spare held 94 v d ps) :
    ∃ T : Tn, v = .agg #[.bool T.u, .int .i64 T.c] := by
  obtain ⟨v0, v1, y0, y1, n, rfl, _, _, h0, h1⟩ := open_agg2 Try.underlying94 (by kernel_rfl) (by kernel_rfl) hv h
  obtain ⟨b, hb, _⟩ := DataW.trod_bool Try.underlying4 h0
  obtain ⟨z, hz, _⟩ := DataW.trod_int Try.underlying3 h1
  exact ⟨⟨b, z⟩, by rw [(List.cons.inj hb).1, (List.cons.inj hz).1]⟩
end
end Go.Proofs.Ytngmpimoebggdaa.C1
