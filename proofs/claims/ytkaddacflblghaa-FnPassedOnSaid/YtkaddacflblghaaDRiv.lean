/- The drawn river. -/
import Derived.Test.YtkaddacflblghaaDRch
import Derived.Test.YtkaddacflblghaaRiv
import Derived.Maps.AppendAt
namespace Go.Proofs.Ytkaddacflblghaa.C1
open Go.ChangeShapes Go.WideShapes Go.ChangeAt Go.RowKit
set_option linter.unusedVariables false

structure Rx where
  r : Rc
  A : Option Addr
  c : Nat
  D : Option Addr
  d : Nat
instance : Inhabited Rx := ⟨⟨nilR, none, 0, none, 0⟩⟩
def rcells (rs : List Rx) : List Value := rs.flatMap fun x => [.slice x.A x.r.n x.c, .int .i64 x.r.v, .slice x.D x.r.m x.d]
theorem rcells_snoc (rs : List Rx) (x : Rx) : rcells rs ++ [.slice x.A x.r.n x.c, .int .i64 x.r.v, .slice x.D x.r.m x.d] = rcells (rs ++ [x]) := by simp [rcells]
theorem rcells_at (rs : List Rx) : ∀ i (hi : i < rs.length), (rcells rs)[i * 3]? = some (.slice rs[i].A rs[i].r.n rs[i].c) ∧ (rcells rs)[i * 3 + 1]? = some (.int .i64 rs[i].r.v) ∧ (rcells rs)[i * 3 + 2]? = some (.slice rs[i].D rs[i].r.m rs[i].d) := by
  induction rs with
  | nil => intro i hi; simp at hi
  | cons p ps ih =>
    intro i hi
    cases i with
    | zero => simp [rcells]
    | succ i =>
      have h := ih i (by simpa using hi)
      have e : rcells (p :: ps) = .slice p.A p.r.n p.c :: .int .i64 p.r.v :: .slice p.D p.r.m p.d :: rcells ps := by simp [rcells]
      rw [e, show (i + 1) * 3 = i * 3 + 1 + 1 + 1 by omega]
      simp only [List.getElem?_cons_succ]
      simpa using h
/-- A reach of a river that is being drawn: its memory is apart from the river's own block. -/
def GoodR (w wr : World) (gr : Option Nat) (x : Rx) : Prop :=
  RD x.r 101000 ∧ x.r.m ≤ x.d ∧ ∃ g1 g2 B L, Owned wr B L x.A x.D x.r g1 g2 ∧ w.heap.size ≤ B ∧ L ≤ wr.heap.size ∧ (∀ g, gr = some g → g < B ∨ L ≤ g)
theorem GoodR.drawn {w wr w' : World} {gr : Option Nat} {x : Rx} {p : Nat} (h : GoodR w wr gr x) (hd : Drawn p wr w') (hp : p < w.heap.size) : GoodR w w' gr x := by
  obtain ⟨h1, h2, g1, g2, B, L, h3, h4, h5, h6⟩ := h
  exact ⟨h1, h2, g1, g2, B, L, h3.drawn hd (by omega), h4, Nat.le_trans h5 hd.2.2.1, h6⟩
theorem GoodR.below {w wr w' : World} {gr : Option Nat} {x : Rx} (h : GoodR w wr gr x) (hb : Below wr.heap.size wr w') : GoodR w w' gr x := by
  obtain ⟨h1, h2, g1, g2, B, L, h3, h4, h5, h6⟩ := h
  exact ⟨h1, h2, g1, g2, B, L, h3.below hb, h4, Nat.le_trans h5 hb.size, h6⟩
theorem GoodR.grown {w wr w' : World} {gr gr' : Option Nat} {x : Rx} (h : GoodR w wr gr x) (hg : wr.grownBy w' gr) (hr : gr' = gr ∨ gr' = some wr.heap.size) : GoodR w w' gr' x := by
  obtain ⟨h1, h2, g1, g2, B, L, h3, h4, h5, h6⟩ := h
  have hO : Owned w' B L x.A x.D x.r g1 g2 := by
    cases gr with
    | none => exact h3.below (below_none hg)
    | some g => exact h3.touch (Touch.of_grown hg (Nat.le_refl g) (Nat.lt_succ_self g)) (by have := h6 g rfl; omega)
  refine ⟨h1, h2, g1, g2, B, L, hO, h4, Nat.le_trans h5 hg.size, fun g hgg => ?_⟩
  rcases hr with e | e
  · exact h6 g (by rw [← e]; exact hgg)
  · rw [e] at hgg; injection hgg with hgg; right; omega
def RiverDrawn (p : Nat) (w : World) (e : Ending) (w' : World) : Prop :=
  ∃ (g n cap : Nat) (R : Nat → Rc), e = .returned (.slice (some ⟨g, 0, none⟩) n cap) ∧ 2 ≤ n ∧ n ≤ 4 ∧ Rvr w' (some ⟨g, 0, none⟩) n R ∧ (∀ i, i < n → RD (R i) 101000) ∧ Drawn p w w'
theorem infoRc : (Try.prog.info? 29).map (fun i => (i.zero, i.size, i.bytes)) = some (some (.agg #[.slice none 0 0, .int .i64 0, .slice none 0 0]), 3, 56) := by kernel_rfl
set_option maxRecDepth 100000 in
set_option maxHeartbeats 4000000 in
theorem river_draw (p : Nat) (w : World) (hc : Cur w p) : Calls Try.prog 18 #[.pointer (some ⟨p, 0, none⟩)] w (RiverDrawn p w) := by
  obtain ⟨i0, hi, hz0, hz1, hz2⟩ := info_parts infoRc
  have HC := vl hc
  have hpw := hc.lt
  clear hc
  go_enter Try.func18, Try.ntmps18
  go_wp2_with fail
  have HO0 := vl (World.ownsRow_made (size := 3) (e := 29) w #[] 0 (Nat.le_refl _) (by decide) rfl)
  refine (below_draw p 3 _ (HC.out.below ((Below.refl _ _).alloc (Nat.le_refl _) _)) (by omega) (by omega)).mono ?_
  rintro e w1 ⟨x, x0, x1, rfl, hd1⟩
  have HO1 := vl (own_drawn hd1 hpw HO0.out)
  have HD1 := vl (((Drawn.refl HC.out).alloc _).trans hd1)
  clear hd1 HO0
  go_wp2
  go_loopw [3, 4] (fun v s4 wr => ∃ (v0 : Value) (rs : List Rx) (m : Int), v0 = v ∧ s4 = .int .i64 m ∧ 0 ≤ m ∧ rs.length + m ≤ 4 ∧ 2 ≤ rs.length + m ∧ Veil (Drawn p w wr) ∧ Veil (wr.ownsRow w.heap.size 29 3 v rs.length (rcells rs)) ∧ Veil (∀ x, x ∈ rs → GoodR w wr v.ownBlock x)) (fun _ s4 _ => (intOf s4).toNat)
  case atStart => exact ⟨_, [], 2 + x, rfl, rfl, by omega, by simp; omega, by simp; omega, HD1, HO1, vl (fun x h => by simp at h)⟩
  case round =>
    obtain ⟨v, rs, m, hv0, rfl, hm0, hm4, hm2, HD, HO, HG⟩ := hrel
    subst hv0
    by_cases hm : 0 < m
    · have hlen : (rs.length : Int) ≤ 3 := by omega
      go_wp2_with fail
      refine (reach_draw p _ HD.out.cur).mono ?_
      rintro e w2 ⟨r, A, c, D, d, g1, g2, rfl, hrd, hcd, ho2, hd2⟩
      have HD2 := vl (HD.out.trans hd2)
      have HO2 := vl (own_drawn hd2 hpw HO.out)
      have hs2 := hd2.2.2.1
      have hsw := HD.out.2.2.1
      have HG2 := vl (fun y hy => ((HG.out y hy).drawn hd2 hpw).below ((Below.refl w2.heap.size w2).alloc (Nat.le_refl _) (.cells #[.slice A r.n c, .int .i64 r.v, .slice D r.m d] 29)))
      have HNEW : Veil (GoodR w (w2.alloc (.cells #[.slice A r.n c, .int .i64 r.v, .slice D r.m d] 29)) v.ownBlock ⟨r, A, c, D, d⟩) :=
        vl ⟨hrd, hcd, g1, g2, wr.heap.size, w2.heap.size, ho2.below ((Below.refl _ _).alloc (Nat.le_refl _) _), hsw, by simp, fun g hg => Or.inl (HO.out.lt g hg).2⟩
      have HD3 := vl (HD2.out.alloc (.cells #[.slice A r.n c, .int .i64 r.v, .slice D r.m d] 29))
      clear hd2 ho2 HG hrd
      go_wp2_with (at_builtin; refine wpList_append_own_at _ rfl _ _ 24 rfl w.heap.size 29 i0 _ 3 56 Try.underlying24 hi hz0 hz1 hz2 rfl (by decide) _ _ _ rfl (HO2.out.alloc _) ⟨w2.heap.size, 0, none⟩ 1 1 [.slice A r.n c, .int .i64 r.v, .slice D r.m d] rfl rfl ?c1 ?c2 ?c3 ?c4 ?c5 ?_)
      case c1 =>
        intro j u hu
        have hj : j < 3 := by
          have := (List.getElem?_eq_some_iff.1 hu).1
          simpa using this
        have : j = 0 ∨ j = 1 ∨ j = 2 := by omega
        rcases this with rfl | rfl | rfl <;> (simp at hu; subst hu; exact cell_new rfl)
      case c2 => intro u hu; simp at hu; rcases hu with rfl | rfl | rfl <;> rfl
      case c3 => unfold maxLen; omega
      case c4 => omega
      case c5 => have := HD3.out.2.2.1; simpa using this
      intro v' w4 hown4 hgrow _ hat
      have hgl : ∀ k, v.ownBlock = some k → w.heap.size ≤ k := fun k hk => (HO2.out.lt k hk).1
      have HD4 := vl (HD3.out.app hpw hgrow hgl)
      have HG4 := vl (show ∀ y, y ∈ rs ++ [(⟨r, A, c, D, d⟩ : Rx)] → GoodR w w4 v'.ownBlock y from fun y hy => by
        rcases List.mem_append.1 hy with hy | hy
        · exact (HG2.out y hy).grown hgrow (by simpa using hat)
        · obtain rfl : y = ⟨r, A, c, D, d⟩ := by simpa using hy
          exact HNEW.out.grown hgrow (by simpa using hat))
      have HO4 : Veil (w4.ownsRow w.heap.size 29 3 v' (rs ++ [(⟨r, A, c, D, d⟩ : Rx)]).length (rcells (rs ++ [(⟨r, A, c, D, d⟩ : Rx)]))) := by
        rw [List.length_append, List.length_singleton, ← rcells_snoc]
        exact vl hown4
      clear hown4 hgrow hat HG2 HNEW HD3 HO2 HD2 HD HO hgl
      go_wp2
      go_roundw
      case rel => exact ⟨v', rs ++ [⟨r, A, c, D, d⟩], m - 1, rfl, rfl, by omega, by simp; omega, by simp; omega, HD4, HO4, HG4⟩
      case measure => simp [intOf]; omega
    · have hn2 : 2 ≤ rs.length := by omega
      have hn4 : rs.length ≤ 4 := by omega
      obtain ⟨g, cap, cur, hv, hg1, hh, hr⟩ := HO.out.2.resolve_left (fun h => by omega)
      subst hv
      go_wp2
      go_ret
      refine ⟨g, rs.length, cap, fun i => (rs.getD i default).r, rfl, hn2, hn4, fun _ => ⟨g, 0, rfl, fun i hi => ?_⟩, fun i hi => ?_, HD.out⟩
      · have hgd : rs.getD i default = rs[i] := by simp [List.getD_eq_getElem?_getD, List.getElem?_eq_getElem hi]
        obtain ⟨h1, h2, h3⟩ := rcells_at rs i hi
        obtain ⟨_, hcd, q1, q2, B, L, hO, _⟩ := HG.out rs[i] (List.getElem_mem hi)
        rw [Nat.zero_add]
        dsimp only
        rw [hgd]
        exact ⟨rs[i].A, rs[i].D, rs[i].c, rs[i].d, by rw [HO.out.cellAt _ (by omega)]; exact h1, by rw [HO.out.cellAt _ (by omega)]; exact h2, by rw [HO.out.cellAt _ (by omega)]; exact h3, hcd, Lib.hid hO.pts, Lib.hid hO.ints⟩
      · have hgd : rs.getD i default = rs[i] := by simp [List.getD_eq_getElem?_getD, List.getElem?_eq_getElem hi]
        show RD (rs.getD i default).r 101000
        rw [hgd]
        exact (HG.out rs[i] (List.getElem_mem hi)).1
theorem drawreaches (A : Option Addr) (n cap : Nat) (f : Nat → Int) (w : World) (hn : n ≤ 1048576) (hs : SrcB w A n f) :
    Calls Try.prog 6 #[.slice A n cap] w fun e w' => ∃ (g n cap : Nat) (R : Nat → Rc), e = .returned (.slice (some ⟨g, 0, none⟩) n cap) ∧ 2 ≤ n ∧ n ≤ 4 ∧ Rvr w' (some ⟨g, 0, none⟩) n R ∧ (∀ i, i < n → RD (R i) 101000) ∧ Below w.heap.size w w' := by
  have HS := vl hs
  clear hs
  go_enter Try.func6, Try.ntmps6
  go_wp2_with fail
  refine (new_draw _ _ _ f _ hn HS.out).mono ?_
  rintro e w1 ⟨rfl, hb1, _, hc1⟩
  have HB1 := vl hb1
  have HC1 := vl hc1
  clear hb1 hc1
  go_wp2_with fail
  refine (river_draw _ _ HC1.out).mono ?_
  rintro e w2 ⟨g, m, c, R, rfl, h2, h4, hr, hrd, hd⟩
  have HR := vl hr
  have HRD := vl hrd
  have HB2 := vl (HB1.out.trans (hd.below (Nat.le_refl _)))
  clear hr hrd hd
  go_wp2
  go_ret
  exact ⟨g, m, c, R, rfl, h2, h4, HR.out, HRD.out, HB2.out⟩
end Go.Proofs.Ytkaddacflblghaa.C1
