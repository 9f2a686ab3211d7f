/- NewReach, of the program and of its model. -/
import Derived.Test.YtabdbpkolmlpeaaRchT
import Derived.Deep.RegionLaw
import Derived.Deep.RegionWith
import Derived.Deep.DeepCutAuto
namespace Go.Proofs.Ytabdbpkolmlpeaa.C1
open Go.ChangeShapes Go.WideShapes Go.ChangeAt Go.RowKit
set_option linter.unusedVariables false

theorem step_app {P : Program} {w : World} {ops : Array Oper} {o : Oper} {a : Act} {K : Act → World → Prop} {Q : Exit → Act → World → Prop} {E : Prop} (hgd : o.guard = none) (s x : Operand) (t : TypeId)
    (ho : o.op = .call { callee := .builtin .append, args := #[s, x], argTypes := #[t, t] })
    (base : Nat) (e : TypeId) (i : TypeInfo) (z : Value) (size bytes : Nat) (ht : P.underlying t = some (.slice e)) (hi : P.info? e = some i) (hz : i.zero = some z)
    (hsize : i.size = size) (hby : i.bytes = bytes) (hzs : z.cells.size = size) (hsz : 0 < size) (v : Value) (n : Nat) (xs : List Value) (hs : a.eval s = v) (hown : w.ownsRow base e size v n xs)
    (A : Option Addr) (m c : Nat) (news : List Value) (hx : a.eval x = .slice A m c) (hl : news.length = m * size) (hA : 0 < m → ∃ ad, A = some ad ∧ ∀ j u, news[j]? = some u → w.cell? (ad.add j) = some u) (h1 : ∀ u ∈ news, u.oneCell' = true)
    (h63 : n + m ≤ maxLen) (hbytes : (n + m) * bytes ≤ 140737488355328) (hbase : base ≤ w.heap.size)
    (h : ∀ v' w', w'.ownsRow base e size v' (n + m) (xs ++ news) → w.grownBy w' v.ownBlock → K (a.put o.dst v') w') :
    if Region.wanted o (yielded ops a.tmps) = true then Oper.wp P o a w K Q else E := by
  have hw : Region.wanted o (yielded ops a.tmps) = true := by simp [Region.wanted, hgd]
  rw [if_pos hw]
  exact wp_app s x t ho base e i z size bytes ht hi hz hsize hby hzs hsz v n xs hs hown A m c news hx hl hA h1 h63 hbytes hbase h
/-- What a function that gives a reach and a flag leaves. -/
def GivesRB (w : World) (r : Rc) (b : Bool) (e : Ending) (w' : World) : Prop :=
  (∃ A c D d g1 g2, e = .returned (.tuple #[.agg #[.slice A r.n c, .int .i64 r.v, .slice D r.m d], .bool b]) ∧ r.m ≤ d ∧ Owned w' w.heap.size w'.heap.size A D r g1 g2) ∧ Below w.heap.size w w'
theorem owned_nil (w : World) (B L : Nat) : Owned w B L none none nilR 0 0 :=
  ⟨⟨fun h => absurd h (by decide), fun i hi => absurd hi (by show ¬ i < 0; omega)⟩, fun i hi => absurd hi (by show ¬ i < 0 * 2; omega), ⟨fun h => absurd h (by decide), fun i hi => absurd hi (by show ¬ i < 0; omega)⟩, fun i hi => absurd hi (by show ¬ i < 0; omega), fun h => absurd h (by decide), fun h => absurd h (by decide), fun h => absurd h (by decide)⟩
theorem gives_nil {w w' : World} (hb : Below w.heap.size w w') : GivesRB w nilR false (.returned (.tuple #[.agg #[.slice none 0 0, .int .i64 0, .slice none 0 0], .bool false])) w' :=
  ⟨⟨none, 0, none, 0, 0, 0, rfl, Nat.le_refl _, owned_nil _ _ _⟩, hb⟩
theorem give_endB {w w5 : World} {res : Nat} {r : Rc} {A D : Option Addr} {n m c d g1 g2 B L : Nat} {v : Int} {u0 u1 u2 : Value} (hB : Below w.heap.size w w5) (hO : Owned w5 B L A D r g1 g2) (h1 : w.heap.size ≤ res) (h2 : res < B) (hL : L ≤ w5.heap.size) (hn : r.n = n) (hm : r.m = m) (hv : r.v = v) (hcd : m ≤ d) :
    GivesRB w r true (.returned (.tuple #[.agg #[.slice A n c, .int .i64 v, .slice D m d], .bool true])) (((w5.setCell ⟨res, 0, none⟩ u0).setCell ⟨res, 1, none⟩ u1).setCell ⟨res, 2, none⟩ u2) := by
  subst hn; subst hm; subst hv
  have HU := (((Touch.refl w5 res (res + 1)).set res 0 u0 (Nat.le_refl _) (Nat.lt_succ_self _)).set res 1 u1 (Nat.le_refl _) (Nat.lt_succ_self _)).set res 2 u2 (Nat.le_refl _) (Nat.lt_succ_self _)
  have hs := HU.size
  exact ⟨⟨A, c, D, d, g1, g2, rfl, hcd, (hO.touch HU (Or.inr (by omega))).wide (by omega) (by omega)⟩, HU.below hB h1⟩
theorem new_out {n : Nat} {X Y : Nat → Int} {level delay : Int} (h : ¬ (0 ≤ delay ∧ delay ≤ 12)) : newB n X Y level delay = false ∧ newR n X Y level delay = nilR := by
  have hb : newB n X Y level delay = false := by unfold newB; rw [inB_no (by omega)]; rfl
  exact ⟨hb, by unfold newR; rw [hb]; rfl⟩
theorem new_in {n d : Nat} {X Y : Nat → Int} {level : Int} (h : d ≤ 12) : newB n X Y level (d : Int) = rOk (newC n X Y level d) := by unfold newB; rw [inB_yes (by omega) (by omega), Int.toNat_natCast, Bool.true_and]
theorem new_yes {n d : Nat} {X Y : Nat → Int} {level : Int} (h : d ≤ 12) (ho : rOk (newC n X Y level d) = true) : newB n X Y level (d : Int) = true ∧ newR n X Y level (d : Int) = newC n X Y level d := by
  have hb := (new_in (n := n) (X := X) (Y := Y) (level := level) h).trans ho
  exact ⟨hb, by unfold newR; rw [if_pos hb, Int.toNat_natCast]⟩
theorem new_no {n d : Nat} {X Y : Nat → Int} {level : Int} (h : d ≤ 12) (ho : rOk (newC n X Y level d) = false) : newB n X Y level (d : Int) = false ∧ newR n X Y level (d : Int) = nilR := by
  have hb := (new_in (n := n) (X := X) (Y := Y) (level := level) h).trans ho
  exact ⟨hb, by unfold newR; rw [hb]; rfl⟩
/-- What NewReach leaves behind its variable r: the box and the two rows. -/
def Made (w wx : World) (n : Nat) (X Y : Nat → Int) (v : Int) (d b : Nat) (A D : Option Addr) (c d' g1 g2 : Nat) : Prop :=
  Box wx b (.slice A n c) (.int .i64 v) (.slice D d d') 29 ∧ d ≤ d' ∧ w.heap.size < b ∧ Owned wx (w.heap.size + 1) wx.heap.size A D ⟨n, X, Y, v, d, fun _ => 0⟩ g1 g2 ∧ Below w.heap.size w wx
theorem Box.new' {w : World} {b : Nat} {x y z : Value} {t : TypeId} (h : b = w.heap.size) : Box (w.alloc (.cells #[x, y, z] t)) b x y z t := by subst h; exact Box.new w x y z t
theorem Box.farI {w : World} {b g j : Nat} {x y z u : Value} {t : TypeId} (hne : b ≠ g) (h : Box w b x y z t) : Box (w.setCell ⟨g, j, none⟩ u) b x y z t := h.far u hne
theorem Box.drewI {w : World} {b : Nat} {x y z : Value} {t : TypeId} (h : Box w b x y z t) : Box w.drew b x y z t := h
theorem Box.belowI {w w' : World} {b B : Nat} {x y z : Value} {t : TypeId} (hb : Below B w w') (hB : b < B) (h : Box w b x y z t) : Box w' b x y z t := (hb.block b hB).trans h
theorem heap_new' {w : World} {o : Obj} {k : Nat} (h : k = w.heap.size) : (w.alloc o).heap[k]? = some o := by subst h; exact heap_alloc_new w o
theorem heap_old' {w : World} {o : Obj} {k : Nat} {u : Option Obj} (h : k < w.heap.size) (e : w.heap[k]? = u) : (w.alloc o).heap[k]? = u := (Below.heap_alloc w o k h).trans e
theorem heap_set' {w : World} {g j k : Nat} {v : Value} {u : Option Obj} (h : k ≠ g) (e : w.heap[k]? = u) : (w.setCell ⟨g, j, none⟩ v).heap[k]? = u := (heap_other h).trans e
theorem heap_drew' {w : World} {k : Nat} {u : Option Obj} (e : w.heap[k]? = u) : w.drew.heap[k]? = u := e
theorem heap_below' {w w' : World} {B k : Nat} {u : Option Obj} (hb : Below B w w') (h : k < B) (e : w.heap[k]? = u) : w'.heap[k]? = u := (hb.block k h).trans e
theorem rowI_made {w : World} {g d : Nat} (h : w.heap[g]? = some (.cells (madeCells #[.int .i64 0] d) 3 (0, 0))) : RowI w (some ⟨g, 0, none⟩) d g (fun _ => 0) ∧ Free w d g := by
  refine ⟨⟨fun _ => rfl, fun i hi => ?_⟩, fun i hi => by simp [World.frozen?, h]⟩
  have hs : (madeCells #[.int .i64 0] d)[i]? = some (Value.int .i64 0) := by simp [madeCells, hi, Nat.mod_one]
  simp [World.cell?, h, hs]
theorem RowP.of_heap {w w' : World} {A : Option Addr} {n g : Nat} {X Y : Nat → Int} (h : RowP w A n g X Y) (e : 0 < n → w'.heap[g]? = w.heap[g]?) : RowP w' A n g X Y :=
  ⟨h.1, fun i hi => ⟨(World.cell?_of_block (e (by omega))).trans (h.2 i hi).1, (World.cell?_of_block (e (by omega))).trans (h.2 i hi).2⟩⟩
theorem Free.of_heap {w w' : World} {n g : Nat} (h : Free w n g) (e : 0 < n → w'.heap[g]? = w.heap[g]?) : Free w' n g := fun i hi => (frozen_of_block (e (by omega))).trans (h i hi)
theorem made_mk {w wx wc : World} {n d b g1 m c d' : Nat} {X Y : Nat → Int} {v : Int} {A : Option Addr} (hbx : Box wx b (.slice A n c) (.int .i64 v) (.slice (some ⟨m, 0, none⟩) d d') 29) (hd : d ≤ d') (hb : w.heap.size < b) (hr : RowP wc A n g1 X Y) (hf : Free wc (n * 2) g1)
    (he : 0 < n → wx.heap[g1]? = wc.heap[g1]?) (hm : wx.heap[m]? = some (.cells (madeCells #[.int .i64 0] d) 3 (0, 0))) (h1 : w.heap.size < g1) (h2 : w.heap.size < m) (h3 : 0 < n → g1 < wx.heap.size) (h4 : 0 < n → g1 ≠ m) (hB : Below w.heap.size w wx) :
    Made w wx n X Y v d b A (some ⟨m, 0, none⟩) c d' g1 m := by
  have R := rowI_made hm
  have hml : m < wx.heap.size := (Array.getElem?_eq_some_iff.1 hm).1
  exact ⟨hbx, hd, hb, ⟨hr.of_heap he, hf.of_heap (fun hn => he (by omega)), R.1, R.2, fun hn => ⟨h1, h3 hn⟩, fun _ => ⟨h2, hml⟩, fun hn _ => h4 hn⟩, hB⟩
set_option maxRecDepth 100000 in
set_option maxHeartbeats 4000000 in
theorem new_impl (A : Option Addr) (n c : Nat) (X Y : Nat → Int) (level delay : Int) (w : World) (hn : n ≤ 1048576) (hp : Pts w A n X Y) :
    Calls Try.prog 11 #[.slice A n c, .int .i64 level, .int .i64 delay] w (GivesRB w (newR n X Y level delay) (newB n X Y level delay)) := by
  have HP := Lib.hid hp
  clear hp
  by_cases hd : 0 ≤ delay ∧ delay ≤ 12
  · obtain ⟨d, rfl⟩ := Int.eq_ofNat_of_zero_le hd.1
    have hd12 : d ≤ 12 := by omega
    have hmk := mkI d (by omega)
    clear hd
    go_enter Try.func11, Try.ntmps11
    go_upto_region 3 with fail
    go_cut [8] (fun s8 wx => ∃ b A1 D1 c1 d1 g1 g2, s8 = .pointer (some ⟨b, 0, none⟩) ∧ Hid (Made w wx n X Y (valZ n X Y level) d b A1 D1 c1 d1 g1 g2) ∧ Hid (Box wx w.heap.size (.slice none 0 0) (.int .i64 0) (.slice none 0 0) 29))
    case first =>
      go_region_with (first
        | (go_at_call 38; refine (val_impl _ _ _ _ _ hn X Y (HP.out.below (by repeat' (first | (with_reducible exact Below.refl _ _) | (with_reducible refine Below.drew ?_) | (with_reducible refine Below.alloc ?_ ?_ _) | (with_reducible refine Below.trans ?_ (hbC.mono ?_)) | (first | omega | (simp; omega) | (simp; done)))))).mono ?_; rintro e wv ⟨rfl, hV⟩; obtain ⟨kV, fV⟩ := bcell hV; have zV := hV.size; (try simp at zV); (try (have zVw0 : w.heap.size < wv.heap.size := by omega)); (try (have zVw1 : w.heap.size + 1 < wv.heap.size := by omega)); (try (have zVw2 : w.heap.size + 1 + 1 < wv.heap.size := by omega)); (try (have zVc0 : wc.heap.size < wv.heap.size := by omega)); (try (have zVc1 : wc.heap.size + 1 < wv.heap.size := by omega)))
        | (go_at_call 37; refine (clone_pts _ _ _ _ hn X Y (HP.out.below (by repeat' (first | (with_reducible exact Below.refl _ _) | (with_reducible refine Below.drew ?_) | (with_reducible refine Below.alloc ?_ ?_ _) | (with_reducible refine Below.trans ?_ (hbC.mono ?_)) | (first | omega | (simp; omega) | (simp; done)))))).mono ?_; rintro e wc ⟨⟨A1, c1, g1, rfl, hC⟩, hbC⟩; obtain ⟨kC, fC⟩ := bcell hbC; have zC := hbC.size; (try simp at zC); (try (have zCw0 : w.heap.size < wc.heap.size := by omega)); (try (have zCw1 : w.heap.size + 1 < wc.heap.size := by omega)); (try (have zCw2 : w.heap.size + 1 + 1 < wc.heap.size := by omega))))
      all_goals
        clear kC fC kV fV
        obtain ⟨hC1, hC2, hC3, hC4⟩ := hC
        simp at hC3
        go_wp2_with fail
        go_meet
        (repeat apply Exists.intro)
        refine ⟨rfl, Lib.hid ?_, Lib.hid (by (repeat' (first | ((with_reducible apply Box.new'); · (simp; done)) | (with_reducible apply Box.alloc) | (with_reducible apply Box.drewI) | ((with_reducible apply Box.farI); · (first | omega | (simp; omega) | (simp; done))) | ((with_reducible apply Box.belowI hV); · (first | omega | (simp; omega) | (simp; done))) | ((with_reducible apply Box.belowI hbC); · (first | omega | (simp; omega) | (simp; done))))))⟩
        apply made_mk (wc := wc)
        · (repeat' (first | ((with_reducible apply Box.new'); · (simp; done)) | (with_reducible apply Box.alloc) | (with_reducible apply Box.drewI) | (with_reducible apply Box.set2) | (with_reducible apply Box.set1) | (with_reducible apply Box.set0) | ((with_reducible apply Box.belowI hV); · (first | omega | (simp; omega) | (simp; done))) | ((with_reducible apply Box.belowI hbC); · (first | omega | (simp; omega) | (simp; done)))))
        · exact Nat.le_refl _
        · (first | omega | (simp; omega) | (simp; done))
        · exact hC1
        · exact hC2
        all_goals first | (show _ < _; (first | omega | (simp; omega) | (simp; done)); done) | skip
        all_goals first | (intro hn0; have := hC4 hn0; (first | omega | (simp; omega) | (simp; done)); done) | skip
        · intro hn0
          have hg0 := hC4 hn0
          (repeat' (first | (with_reducible rfl) | ((with_reducible refine heap_new' ?_); · (simp; done)) | ((with_reducible refine heap_old' ?_ ?_); · (first | omega | (simp; omega) | (simp; done))) | ((with_reducible refine heap_set' ?_ ?_); · (first | omega | (simp; omega) | (simp; done))) | (with_reducible refine heap_drew' ?_) | ((with_reducible refine heap_below' hV ?_ ?_); · (first | omega | (simp; omega) | (simp; done))) | ((with_reducible refine heap_below' hbC ?_ ?_); · (first | omega | (simp; omega) | (simp; done)))))
        · (repeat' (first | (with_reducible rfl) | ((with_reducible refine heap_new' ?_); · (simp; done)) | ((with_reducible refine heap_old' ?_ ?_); · (first | omega | (simp; omega) | (simp; done))) | ((with_reducible refine heap_set' ?_ ?_); · (first | omega | (simp; omega) | (simp; done))) | (with_reducible refine heap_drew' ?_) | ((with_reducible refine heap_below' hV ?_ ?_); · (first | omega | (simp; omega) | (simp; done))) | ((with_reducible refine heap_below' hbC ?_ ?_); · (first | omega | (simp; omega) | (simp; done)))))
        all_goals (repeat' (first | (with_reducible exact Below.refl _ _) | (with_reducible refine Below.drew ?_) | (with_reducible refine Below.alloc ?_ ?_ _) | (with_reducible refine Below.setCell ?_ ?_ _) | (with_reducible refine Below.trans ?_ (hV.mono ?_)) | (with_reducible refine Below.trans ?_ (hbC.mono ?_)) | (first | omega | (simp; omega) | (simp; done))))
    case rest =>
      obtain ⟨b, A1, D1, c1, d1, g1, g2, rfl, HM, HR⟩ := hcut
      have hdd := HM.out.2.1
      have hb0 := HM.out.2.2.1
      have HB := Lib.hid HM.out.2.2.2.2
      have HO := Lib.hid HM.out.2.2.2.1
      have HX := Lib.hid HM.out.1
      have hbl := HX.out.lt
      have hrl := HR.out.lt
      obtain ⟨x0, x1, x2⟩ := HX.out.at
      clear HM hmk
      go_wp2_with fail
      refine (ok_impl (newC n X Y level d) _ _ _ _ _ hn (by show d ≤ _; omega) HO.out.pts HO.out.ints).mono ?_
      rintro e w1 ⟨rfl, hb1⟩
      have HB1 := Lib.hid (HB.out.trans (hb1.mono HB.out.size))
      have HR1 := Lib.hid (HR.out.below hb1)
      have HX1 := Lib.hid (HX.out.below hb1)
      have HO1 := Lib.hid (HO.out.below hb1)
      have q1 := hb1.size
      clear hb1 x0 x1 x2
      obtain ⟨x0, x1, x2⟩ := HX1.out.at
      obtain ⟨y0, y1, y2⟩ := HR1.out.at
      obtain ⟨s0, s1, s2⟩ := HR1.out.free
      cases ho : rOk (newC n X Y level d) with
      | false =>
        have HN := Lib.hid (new_no hd12 ho)
        clear ho
        go_wp2
        refine bodyPost_ret (v := .tuple #[.agg #[.slice none 0 0, .int .i64 0, .slice none 0 0], .bool false]) (by simp [results, Try.results11, go_sem, y0, y1, y2]) rfl ?_
        rw [HN.out.1, HN.out.2]
        exact gives_nil (((HB1.out.setCell (Nat.le_refl _) _).setCell (Nat.le_refl _) _).setCell (Nat.le_refl _) _)
      | true =>
        have HN := Lib.hid (new_yes hd12 ho)
        clear ho
        go_wp2
        refine bodyPost_ret (v := .tuple #[.agg #[.slice A1 n c1, .int .i64 (valZ n X Y level), .slice D1 d d1], .bool true]) (by simp [results, Try.results11, go_sem, y0, y1, y2]) rfl ?_
        rw [HN.out.1, HN.out.2]
        exact give_endB (r := newC n X Y level d) HB1.out HO1.out (Nat.le_refl _) (Nat.lt_succ_self _) q1 rfl rfl rfl hdd
  · have HN := Lib.hid (new_out (n := n) (X := X) (Y := Y) (level := level) hd)
    rcases (by omega : delay < 0 ∨ (0 ≤ delay ∧ 12 < delay)) with h | ⟨h, h'⟩
    all_goals
      clear hd
      go_enter Try.func11, Try.ntmps11
      go_wp2
      refine bodyPost_ret (v := .tuple #[.agg #[.slice none 0 0, .int .i64 0, .slice none 0 0], .bool false]) (by simp [results, Try.results11, go_sem]) rfl ?_
      rw [HN.out.1, HN.out.2]
      exact gives_nil ((Below.refl _ _).alloc (Nat.le_refl _) _)
end Go.Proofs.Ytabdbpkolmlpeaa.C1
