/- What writes into a reach of the call's own: an amount added, the pipe moved up. -/
import Derived.Test.YtlaffdfnmpkocaaRchC
import Derived.Laws.IdiomCopy
namespace Go.Proofs.Ytlaffdfnmpkocaa.C1
open Go.ChangeShapes Go.WideShapes Go.ChangeAt Go.RowKit
set_option linter.unusedVariables false

theorem RowI.set {w : World} {A : Option Addr} {n g k : Nat} {Z : Nat → Int} (h : RowI w A n g Z) (hk : k < n) (z : Int) : RowI (w.setCell ⟨g, k, none⟩ (.int .i64 z)) A n g (fun i => if i = k then z else Z i) := by
  refine ⟨h.1, fun i hi => ?_⟩
  show _ = some (Value.int .i64 (if i = k then z else Z i))
  by_cases e : i = k
  · subst e; rw [if_pos rfl]; exact World.cell?_setCell_same _ _ _ (h.2 i hi)
  · rw [if_neg e]; exact (World.cell?_setCell_other _ _ _ _ (by intro h; injection h with _ h; omega)).trans (h.2 i hi)
theorem Touch.cells {a : World} {B L g : Nat} (h1 : B ≤ g) (h2 : g < L) : ∀ (vs : List Value) (o : Nat) {w : World}, Touch a w B L → Touch a (w.setCells g o vs) B L
  | [], _, _, h => h
  | v :: r, o, w, h => Touch.cells h1 h2 r (o + 1) (h.set g o v h1 h2)
/-- What a copy into the head of a row leaves. -/
theorem wp_copyI {w : World} {P : Program} {o : Oper} {a : Act} {K : Act → World → Prop} {Q : Exit → Act → World → Prop} (d s : Operand) (dT sT e : TypeId)
    (ho : o.op = .call { callee := .builtin .copy, args := #[d, s], argTypes := #[dT, sT] }) (hu : P.underlying dT = some (.slice e)) (hsz : (P.info? e).map (·.size) = some 1)
    (g m dc n sc : Nat) (sp : Option Addr) (Z V : Nat → Int) (hd : a.eval d = .slice (some ⟨g, 0, none⟩) m dc) (hs : a.eval s = .slice sp n sc) (hn : n ≤ m) (hsp : 0 < n → ∃ ad, sp = some ad ∧ ∀ j, j < n → w.cell? (ad.add j) = some (.int .i64 (V j)))
    (hr : RowI w (some ⟨g, 0, none⟩) m g Z) (hf : Free w m g)
    (h : ∀ w', Hid (RowI w' (some ⟨g, 0, none⟩) m g (fun i => if i < n then V i else Z i)) → Hid (Free w' m g) → Hid (∀ B L, B ≤ g → g < L → Touch w w' B L) → K (a.put o.dst (goInt n)) w') : o.wp P a w K Q := by
  have hmin : Nat.min n m = n := Nat.min_eq_left hn
  rcases Nat.eq_zero_or_pos n with h0 | h0
  · subst h0
    have hrun := run_copy_none (P := P) w dT sT o.type e (some ⟨g, 0, none⟩) sp m dc 0 sc hu hsz (by simp)
    unfold Oper.wp execOp
    simp only [ho, resolve, invoke, builtin, Sem.run_bind, Sem.run_pure, Result.andThen_ok, List.map_toArray, List.map_cons, List.map_nil, hd, hs, hrun]
    exact h w (Lib.hid (hr.congr fun i hi => (if_neg (by omega)).symm)) (Lib.hid hf) (Lib.hid fun B L _ _ => Touch.refl w B L)
  · obtain ⟨ad, rfl, hc⟩ := hsp h0
    have hrun := run_copy_cells (P := P) w dT sT o.type e g 0 m dc ad n sc (itl n V) hu hsz (by rw [itl_len]; exact hmin.symm) (fun j v hv => by
        have hj : j < n := by have := (List.getElem?_eq_some_iff.1 hv).1; rwa [itl_len] at this
        rw [itl_at hj] at hv; injection hv with hv; rw [← hv]; exact hc j hj)
      (fun j hj => by rw [itl_len] at hj; rw [Nat.zero_add, hr.2 j (by omega)]; rfl) (fun j hj => by rw [itl_len] at hj; rw [Nat.zero_add]; exact hf j (by omega)) itl_one
    rw [itl_len] at hrun
    unfold Oper.wp execOp
    simp only [ho, resolve, invoke, builtin, Sem.run_bind, Sem.run_pure, Result.andThen_ok, List.map_toArray, List.map_cons, List.map_nil, hd, hs, hrun]
    refine h _ (Lib.hid ⟨fun _ => rfl, fun i hi => ?_⟩) (Lib.hid fun i hi => by rw [World.frozen?_setCells]; exact hf i hi) (Lib.hid fun B L h1 h2 => Touch.cells h1 h2 _ _ (Touch.refl w B L))
    show _ = some (Value.int .i64 (if i < n then V i else Z i))
    by_cases hin : i < n
    · rw [if_pos hin]
      have := World.cell?_setCells_in g (itl n V) 0 w (fun j hj => by rw [itl_len] at hj; rw [Nat.zero_add, hr.2 j (by omega)]; rfl) i (by rw [itl_len]; exact hin)
      rw [Nat.zero_add] at this
      rw [this]
      have e := itl_at (Z := V) hin
      rw [List.getElem?_eq_getElem (by rw [itl_len]; exact hin)] at e
      exact e
    · rw [if_neg hin, World.cell?_setCells_out _ _ _ _ _ (fun _ _ => Or.inr (by rw [itl_len]; show 0 + n ≤ i; omega))]
      exact hr.2 i hi
theorem wpList_copyI {w : World} {P : Program} {ops : Array Oper} {rest : List Oper} {o : Oper} {a : Act} {Q : Exit → Act → World → Prop} (hgd : o.guard = none) (d s : Operand) (dT sT e : TypeId)
    (ho : o.op = .call { callee := .builtin .copy, args := #[d, s], argTypes := #[dT, sT] }) (hu : P.underlying dT = some (.slice e)) (hsz : (P.info? e).map (·.size) = some 1)
    (g m dc n sc : Nat) (sp : Option Addr) (Z V : Nat → Int) (hd : a.eval d = .slice (some ⟨g, 0, none⟩) m dc) (hs : a.eval s = .slice sp n sc) (hn : n ≤ m) (hsp : 0 < n → ∃ ad, sp = some ad ∧ ∀ j, j < n → w.cell? (ad.add j) = some (.int .i64 (V j)))
    (hr : RowI w (some ⟨g, 0, none⟩) m g Z) (hf : Free w m g)
    (h : ∀ w', Hid (RowI w' (some ⟨g, 0, none⟩) m g (fun i => if i < n then V i else Z i)) → Hid (Free w' m g) → Hid (∀ B L, B ≤ g → g < L → Touch w w' B L) → wpList P ops Q rest (a.put o.dst (goInt n)) w') : wpList P ops Q (o :: rest) a w :=
  wpList_plain hgd fun _ hK => wp_copyI d s dT sT e ho hu hsz g m dc n sc sp Z V hd hs hn hsp hr hf fun w' h1 h2 h3 => hK _ _ (h w' h1 h2 h3)

theorem add_no (D : Option Addr) (d : Nat) (a : Int) (w : World) :
    Calls Try.prog 46 #[.slice D 0 d, .int .i64 a] w fun e w' => e = .returned (.bool false) ∧ w = w' := by
  go_enter Try.func46, Try.ntmps46
  go_wp2
  go_ret
  exact ⟨rfl, rfl⟩
theorem add_yes (D : Option Addr) (m d g : Nat) (a : Int) (w : World) (Z : Nat → Int) (hm : m ≤ 1048576) (h0 : 0 < m) (hr : RowI w D m g Z) (hf : Free w m g) (hs : 0 ≤ Z (m - 1) + a) (hs' : Z (m - 1) + a ≤ 9223372036854775807) :
    Calls Try.prog 46 #[.slice D m d, .int .i64 a] w fun e w' => e = .returned (.bool true) ∧ w.setCell ⟨g, m - 1, none⟩ (.int .i64 (Z (m - 1) + a)) = w' := by
  obtain rfl := hr.1 h0
  have c0 := hr.2 (m - 1) (by omega)
  have z0 := hf (m - 1) (by omega)
  have a1 : IntKind.i64.wrap ((m : Int) - 1) = (m : Int) - 1 := IntWalk.i64_in _ (by omega)
  have a2 : ((m : Int) - 1).toNat = m - 1 := by omega
  have b0 : ((m : Int) == 0) = false := by simp; omega
  clear hr hf
  go_enter Try.func46, Try.ntmps46
  go_wp2
  go_ret
  exact ⟨rfl, rfl⟩
theorem Owned.setI {w : World} {B L g1 g2 : Nat} {A D : Option Addr} {r : Rc} (h : Owned w B L A D r g1 g2) {k : Nat} (hk : k < r.m) (z : Int) :
    Owned (w.setCell ⟨g2, k, none⟩ (.int .i64 z)) B L A D { r with Z := fun i => if i = k then z else r.Z i } g1 g2 := by
  obtain ⟨h1, h2, h3, h4, h5, h6, h7⟩ := h
  have t := (Touch.refl w g2 (g2 + 1)).set g2 k (.int .i64 z) (Nat.le_refl _) (Nat.lt_succ_self _)
  have o1 : 0 < r.n → g1 < g2 ∨ g2 + 1 ≤ g1 := fun hn => by have := h7 hn (by omega); omega
  have t1 := t.row h1 o1
  have t2 := t.free h2 (fun hn => h1.lt (by omega)) (fun hn => o1 (by omega))
  exact ⟨t1, t2, h3.set hk z, h4.set _ _, h5, h6, h7⟩
theorem addL_z' {r : Rc} {a : Int} (h : 0 < r.m) : addL r a = { r with Z := fun i => if i = r.m - 1 then r.Z (r.m - 1) + a else r.Z i } := by
  rw [addL_z h]
  congr 1
  funext i
  by_cases e : i = r.m - 1
  · subst e; rfl
  · rw [if_neg e, if_neg e]
set_option maxHeartbeats 1000000 in
theorem receive (r : Rc) (A D : Option Addr) (c d bb : Nat) (a : Int) (w : World) (hm : r.m ≤ 1048576) {B L g1 g2 : Nat} (hb : Box w bb (.slice D r.m d) (.slice A r.n c) (.int .i64 r.v) 57) (h : Owned w B L A D r g1 g2) (hL : L ≤ bb) (hBL : B ≤ bb)
    (h0 : 0 ≤ r.v + a) (h1 : r.v + a ≤ 9223372036854775807) (hz : 0 < r.m → 0 ≤ r.Z (r.m - 1) + a ∧ r.Z (r.m - 1) + a ≤ 9223372036854775807) :
    Calls Try.prog 38 #[.pointer (some ⟨bb, 0, none⟩), .int .i64 a] w fun e w' => e = .returned (.tuple #[]) ∧ Box w' bb (.slice D r.m d) (.slice A r.n c) (.int .i64 (addL r a).v) 57 ∧ Owned w' B L A D (addL r a) g1 g2 ∧ Touch w w' B (bb + 1) := by
  have H := Lib.hid h
  have HB := Lib.hid hb
  have HZ := Lib.hid hz
  obtain ⟨x0, x1, x2⟩ := hb.at
  obtain ⟨z0, z1, z2⟩ := hb.free
  have hlt := hb.lt
  clear h hb hz
  by_cases hm0 : r.m = 0
  · have HM := Lib.hid hm0
    rw [hm0] at x0
    clear hm0
    go_enter Try.func38, Try.ntmps38
    go_wp2_with fail
    refine (add_no _ _ _ _).mono ?_
    rintro e w' ⟨rfl, rfl⟩
    go_wp2
    go_end0
    have ht := (Touch.refl w bb (bb + 1)).set bb 2 (.int .i64 (r.v + a)) (Nat.le_refl _) (Nat.lt_succ_self _)
    have hO := H.out.touch ht (Or.inl hL)
    rw [addL_v HM.out]
    exact ⟨rfl, HB.out.set2 _, hO, (Touch.refl w B (bb + 1)).set bb 2 _ hBL (Nat.lt_succ_self _)⟩
  · have hp : 0 < r.m := by omega
    obtain ⟨b0, b1⟩ := HZ.out hp
    have k0 := ((HB.out.far (g := g2) (j := r.m - 1) (.int .i64 (r.Z (r.m - 1) + a)) (by have := H.out.2.2.2.2.2.1 hp; omega)))
    have K0 := Lib.hid k0
    clear hm0 k0
    go_enter Try.func38, Try.ntmps38
    go_wp2_with fail
    refine (add_yes _ _ _ _ _ _ _ hm hp H.out.2.2.1 H.out.2.2.2.1 b0 b1).mono ?_
    rintro e w' ⟨rfl, rfl⟩
    go_wp2
    go_end0
    have hO := H.out.setI (k := r.m - 1) (by omega) (r.Z (r.m - 1) + a)
    rw [addL_z' hp]
    exact ⟨rfl, K0.out, hO, (Touch.refl w B (bb + 1)).set g2 _ _ (H.out.2.2.2.2.2.1 hp).1 (by have := (H.out.2.2.2.2.2.1 hp).2; omega)⟩
theorem reach_of (r : Rc) (A D : Option Addr) (c d : Nat) (w : World) :
    Calls Try.prog 36 #[.agg #[.slice D r.m d, .slice A r.n c, .int .i64 r.v]] w fun e w' => e = .returned (.agg #[.slice A r.n c, .int .i64 r.v, .slice D r.m d]) ∧ Below w.heap.size w w' := by
  go_enter Try.func36, Try.ntmps36
  go_wp2
  exact bodyPost_ret (v := .agg #[.slice A r.n c, .int .i64 r.v, .slice D r.m d]) (by simp [results, Try.results36, go_sem]) rfl ⟨rfl, ((Below.refl _ _).alloc (Nat.le_refl _) _).alloc (by simp) _⟩
end Go.Proofs.Ytlaffdfnmpkocaa.C1
