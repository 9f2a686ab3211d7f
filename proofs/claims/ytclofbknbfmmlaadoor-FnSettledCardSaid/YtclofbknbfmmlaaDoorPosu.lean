/- Entries are posted to a book: by the program and by its model. -/
import Derived.Test.YtclofbknbfmmlaaDoorEnO
import Derived.Test.YtclofbknbfmmlaaDoorErr
namespace Go.Proofs.YtclofbknbfmmlaaDoor.C1
open Go.ChangeShapes Go.WideShapes Go.ChangeAt Go.RowKit Go.Proofs.YtclofbknbfmmlaaDoor.Lift
set_option linter.unusedVariables false

def postB (L M : List En) : Bool := bkOk L && bkOk (L ++ M)
def postL (L M : List En) : List En := if postB L M = true then L ++ M else L
theorem post_no1 {L M : List En} (h : bkOk L = false) : postB L M = false ∧ postL L M = L := by
  have e : postB L M = false := by unfold postB; rw [h, Bool.false_and]
  exact ⟨e, by unfold postL; rw [e]; rfl⟩
theorem post_no2 {L M : List En} (h : bkOk (L ++ M) = false) : postB L M = false ∧ postL L M = L := by
  have e : postB L M = false := by unfold postB; rw [h, Bool.and_false]
  exact ⟨e, by unfold postL; rw [e]; rfl⟩
theorem post_yes {L M : List En} (h : bkOk L = true) (h2 : bkOk (L ++ M) = true) : postB L M = true ∧ postL L M = L ++ M := by
  have e : postB L M = true := by unfold postB; rw [h, h2]; rfl
  exact ⟨e, by unfold postL; rw [if_pos e]⟩
theorem post_le {L M : List En} : (postL L M).length ≤ L.length + M.length := by
  unfold postL
  split
  · simp
  · omega
theorem bk_out {L M : List En} {k : Nat} {b : En} (h : M[k]? = some b) (hb : enOk b = false) : bkOk (L ++ M) = false := by
  refine bk_no (k := L.length + k) (b := b) ?_ hb
  rw [List.getElem?_append_right (by omega), Nat.add_sub_cancel_left]
  exact h
theorem bk_full {L M : List En} (h : 2000 < L.length + M.length) : bkOk (L ++ M) = false := bk_len (by rw [List.length_append]; exact h)
theorem bk_app {L M : List En} (h : bkOk L = true) (h2 : M.all enOk = true) (h3 : L.length + M.length ≤ 2000) : bkOk (L ++ M) = true := by
  unfold bkOk
  rw [List.length_append, decide_eq_true h3, List.all_append, (bk_parts h).2, h2]
  rfl
/-- What is left behind a posting: a slice of one's own, and whether it was done. -/
def GivesP (w : World) (E : List En) (b : Bool) (e : Ending) (w' : World) : Prop :=
  (∃ A' c' g, e = .returned (.tuple #[.slice A' E.length c', .bool b]) ∧ RowE w' A' E g ∧ Free w' (E.length * 5) g ∧ w.heap.size ≤ g ∧ (0 < E.length → g < w'.heap.size)) ∧ Below w.heap.size w w'
theorem givesP_own {w w' : World} {B : Nat} {v : Value} {E : List En} {b : Bool} (h : w'.ownsRow B 36 5 v E.length (enl E)) (hB : w.heap.size ≤ B) (hB' : B ≤ w'.heap.size) (hb : Below w.heap.size w w') : GivesP w E b (.returned (.tuple #[v, .bool b])) w' := by
  obtain ⟨A, c, g, rfl, _, h1, h2, h3, h4⟩ := rowE_of_own h hB'
  exact ⟨⟨A, c, g, rfl, h1, h2, by omega, h4⟩, hb⟩
theorem newsE (w : World) (q : Nat) (b : En) (t : TypeId) (hq : q = w.heap.size) : ∀ (j : Nat) (u : Value), b.cells[j]? = some u → (w.alloc (.cells #[.int .i64 b.f, .int .i64 b.t, .int .i64 b.a, .int .i64 b.m, .int .i64 b.y] t)).cell? ((⟨q, 0, none⟩ : Addr).add j) = some u := fun j u h => by
  subst hq
  have hj : j < 5 := by have := (List.getElem?_eq_some_iff.1 h).1; simpa [En.cells] using this
  match j, hj with
  | 0, _ => simp [En.cells] at h; subst h; simp [Addr.add]
  | 1, _ => simp [En.cells] at h; subst h; simp [Addr.add]
  | 2, _ => simp [En.cells] at h; subst h; simp [Addr.add]
  | 3, _ => simp [En.cells] at h; subst h; simp [Addr.add]
  | 4, _ => simp [En.cells] at h; subst h; simp [Addr.add]
theorem enOne (b : En) : ∀ u ∈ b.cells, u.oneCell' = true := fun u hu => by
  simp [En.cells] at hu
  rcases hu with rfl | rfl | rfl | rfl | rfl <;> rfl
set_option maxHeartbeats 1000000 in
theorem clone_e (A : Option Addr) (c : Nat) (L : List En) (w : World) (hn : L.length ≤ 1048576) (hp : Ens w A L) :
    Calls Tryd.prog 47 #[.slice A L.length c] w fun e w' => (∃ v, e = .returned v ∧ w'.ownsRow w.heap.size 36 5 v L.length (enl L)) ∧ Below w.heap.size w w' := by
  obtain ⟨i0, hi, hz0, hz1, hz2⟩ := info_parts infoE
  have HP := vl (src_e hp)
  clear hp
  go_enter Tryd.func47, Tryd.ntmps47
  go_wp2_with (at_builtin; refine wpList_app rfl _ _ 32 rfl w.heap.size 36 i0 _ 5 40 Tryd.underlying32 hi hz0 hz1 hz2 rfl (by decide) _ _ _ rfl (own_nil _ _ _ _) A L.length c (enl L) rfl (enl_len _) HP.out enl_cell ?c3 ?c4 (Nat.le_refl _) ?_)
  case c3 => unfold maxLen; omega
  case c4 => omega
  intro v' w1 hown hgr
  have HO := vl (show w1.ownsRow w.heap.size 36 5 v' L.length (enl L) from by simpa using hown)
  have HB := vl (below_none hgr)
  clear hown hgr hi hz0 hz1 hz2
  go_wp2
  go_ret
  exact ⟨⟨v', rfl, HO.out⟩, HB.out⟩
set_option maxRecDepth 100000 in
set_option maxHeartbeats 1000000 in
theorem one_yes (B : Nat) (v : Value) (L : List En) (b : En) (w : World) (ho : w.ownsRow B 36 5 v L.length (enl L)) (hB : B ≤ w.heap.size) (hb : enOk b = true) (hl : L.length < 2000) :
    Calls Tryd.prog 48 #[v, .agg #[.int .i64 b.f, .int .i64 b.t, .int .i64 b.a, .int .i64 b.m, .int .i64 b.y]] w fun e w' => (∃ v', e = .returned (.tuple #[v', .nilIface]) ∧ w'.ownsRow B 36 5 v' (L ++ [b]).length (enl (L ++ [b]))) ∧ Below B w w' := by
  obtain ⟨i0, hi, hz0, hz1, hz2⟩ := info_parts infoE
  obtain ⟨A, c, g, rfl, _⟩ := rowE_of_own ho hB
  have HB0 := vl ((Below.refl w.heap.size w).alloc (Nat.le_refl _) (.cells #[.int .i64 b.f, .int .i64 b.t, .int .i64 b.a, .int .i64 b.m, .int .i64 b.y] 36))
  have HX0 := vl (BxE.new w b 36)
  have HO := vl ho
  have HV := vl hb
  have hl' : ¬ (2000 : Int) ≤ (L.length : Int) := by omega
  clear ho hb
  go_enter Tryd.func48, Tryd.ntmps48
  go_wp2_with fail
  refine (enok_impl b _).mono ?_
  rintro e w1 ⟨rfl, hb1⟩
  rw [HV.out]
  have HB1 := vl (HB0.out.trans (hb1.mono HB0.out.size))
  have HX1 := vl (HX0.out.below hb1)
  have HO1 := vl (own_below HO.out HB1.out)
  have hs1 := HB1.out.size
  have HOk := vl (fun k hk => HO1.out.lt k hk)
  obtain ⟨x0, x1, x2, x3, x4⟩ := HX1.out
  clear hb1
  go_wp2_with (at_builtin; refine wpList_app rfl _ _ 32 rfl B 36 i0 _ 5 40 Tryd.underlying32 hi hz0 hz1 hz2 rfl (by decide) _ _ _ rfl (HO1.out.alloc _) (some ⟨w1.heap.size, 0, none⟩) 1 1 b.cells rfl rfl (fun _ => ⟨_, rfl, newsE w1 _ b _ rfl⟩) (enOne _) ?c3 ?c4 ?c5 ?_)
  case c3 => unfold maxLen; omega
  case c4 => omega
  case c5 => simp; omega
  intro v' w2 hown hgr
  have HO2 := vl (show w2.ownsRow B 36 5 v' (L ++ [b]).length (enl (L ++ [b])) from by rw [enl_app, enl_one', List.length_append]; exact hown)
  have HB2 := vl (Below.grown (show Below B w (w1.alloc (.cells #[.int .i64 b.f, .int .i64 b.t, .int .i64 b.a, .int .i64 b.m, .int .i64 b.y] 36)) from (HB1.out.mono hB).alloc (Nat.le_trans hB hs1) _) hgr (by simp; omega) (fun k hk => (HOk.out k hk).1))
  clear hown hgr x0 x1 x2 x3 x4
  go_wp2
  refine bodyPost_ret (v := .tuple #[v', .nilIface]) (by simp [results, Tryd.results48, go_sem]) rfl ?_
  exact ⟨⟨v', rfl, HO2.out⟩, HB2.out⟩
set_option maxRecDepth 100000 in
set_option maxHeartbeats 1000000 in
theorem one_no (A : Option Addr) (c : Nat) (L : List En) (b : En) (w : World) (x : Addr) (he : w.cell? ⟨0, 0, none⟩ = some (.iface 203 (.pointer (some x)))) (hln : L.length ≤ 9223372036854775807) (hbad : enOk b = false ∨ 2000 ≤ L.length) :
    Calls Tryd.prog 48 #[.slice A L.length c, .agg #[.int .i64 b.f, .int .i64 b.t, .int .i64 b.a, .int .i64 b.m, .int .i64 b.y]] w fun e w' => e = .returned (.tuple #[.slice A L.length c, .iface 203 (.pointer (some x))]) ∧ Below w.heap.size w w' := by
  have HB0 := vl ((Below.refl w.heap.size w).alloc (Nat.le_refl _) (.cells #[.int .i64 b.f, .int .i64 b.t, .int .i64 b.a, .int .i64 b.m, .int .i64 b.y] 36))
  have hel := World.block_lt_of_cell? _ _ he
  have HE := vl he
  clear he
  cases hv : enOk b with
  | false =>
    have HV := vl hv
    clear hv hbad
    go_enter Tryd.func48, Tryd.ntmps48
    go_wp2_with fail
    refine (enok_impl b _).mono ?_
    rintro e w1 ⟨rfl, hb1⟩
    rw [HV.out]
    have HB1 := vl (HB0.out.trans (hb1.mono HB0.out.size))
    have h0 := (HB1.out.cell hel).trans HE.out
    clear hb1
    go_wp2
    go_quiet (fail)
    go_wp2
    refine bodyPost_ret (v := .tuple #[.slice A L.length c, .iface 203 (.pointer (some x))]) (by simp [results, Tryd.results48, go_sem]) rfl ?_
    exact ⟨rfl, HB1.out.drewN' _⟩
  | true =>
    have HV := vl hv
    have hl : 2000 ≤ L.length := by
      rcases hbad with h | h
      · rw [hv] at h; cases h
      · exact h
    have hl' : (2000 : Int) ≤ (L.length : Int) := by omega
    clear hv hbad
    go_enter Tryd.func48, Tryd.ntmps48
    go_wp2_with fail
    refine (enok_impl b _).mono ?_
    rintro e w1 ⟨rfl, hb1⟩
    rw [HV.out]
    have HB1 := vl (HB0.out.trans (hb1.mono HB0.out.size))
    have h0 := (HB1.out.cell hel).trans HE.out
    clear hb1
    go_wp2
    go_quiet (fail)
    go_wp2
    refine bodyPost_ret (v := .tuple #[.slice A L.length c, .iface 203 (.pointer (some x))]) (by simp [results, Tryd.results48, go_sem]) rfl ?_
    exact ⟨rfl, HB1.out.drewN' _⟩
end Go.Proofs.YtclofbknbfmmlaaDoor.C1
