/- NewReach of the model. -/
import Derived.Test.YtkaddacflblghaaNewR
import Derived.Maps.AppendAt
namespace Go.Proofs.Ytkaddacflblghaa.C1
open Go.ChangeShapes Go.WideShapes Go.ChangeAt Go.RowKit
set_option linter.unusedVariables false

theorem heap_app' {w w' : World} {e0 k : Nat} {u : Option Obj} (hK : ∀ k, k < w.heap.size → k ≠ e0 → w'.heap[k]? = w.heap[k]?) (h1 : k < w.heap.size) (h2 : k ≠ e0) (e : w.heap[k]? = u) : w'.heap[k]? = u := (hK k h1 h2).trans e
theorem Box.appI {w w' : World} {e0 b : Nat} {x y z : Value} {t : TypeId} (hK : ∀ k, k < w.heap.size → k ≠ e0 → w'.heap[k]? = w.heap[k]?) (h1 : b < w.heap.size) (h2 : b ≠ e0) (h : Box w b x y z t) : Box w' b x y z t := (hK b h1 h2).trans h
/-- What an append of points to a new empty slice at block e0 leaves. -/
structure AppP (w w' : World) (e0 : Nat) (A1 : Option Addr) (n g1 : Nat) (X Y : Nat → Int) : Prop where
  row : RowP w' A1 n g1 X Y
  free : Free w' (n * 2) g1
  at_ : g1 = e0 ∨ g1 = w.heap.size
  lt : 0 < n → g1 < w'.heap.size
  size : w.heap.size ≤ w'.heap.size
  keep : ∀ k, k < w.heap.size → k ≠ e0 → w'.heap[k]? = w.heap[k]?
  below : Below e0 w w'
set_option maxRecDepth 100000 in
theorem run_appP (w : World) (ty : TypeId) (e0 : Nat) (he : w.heap[e0]? = some (.cells #[] 70 (0, 0))) (A : Option Addr) (n c : Nat) (X Y : Nat → Int) (hn : n ≤ 1048576) (hp : Pts w A n X Y) :
    ∃ A1 c1 g1 w', (Builtin.append_ #[26, 26] ty #[.slice (some ⟨e0, 0, none⟩) 0 0, .slice A n c]).run Try.prog w = .ok (.slice A1 n c1) w' ∧ AppP w w' e0 A1 n g1 X Y := by
  obtain ⟨i0, hi, hz0, hz1, hz2⟩ := info_parts infoP
  have hl : e0 < w.heap.size := (Array.getElem?_eq_some_iff.1 he).1
  cases A with
  | none =>
    obtain rfl : n = 0 := by
      rcases Nat.eq_zero_or_pos n with h | h
      · exact h
      · obtain ⟨_, _, h, _⟩ := hp h; cases h
    refine ⟨some ⟨e0, 0, none⟩, 0, e0, w, ?_, RowP.vac (by omega), Free.vac (by omega), .inl rfl, fun h => absurd h (by omega), Nat.le_refl _, fun _ _ _ => rfl, Below.refl _ _⟩
    simp [Builtin.append_, run_underlying Try.underlying26, sizeOf, typeInfo, hi, Builtin.lenOf, Builtin.firstCells, storeCells]
  | some ad =>
    have hc : ∀ j u, (ptl n X Y)[j]? = some u → w.cell? (ad.add j) = some u := fun j u hu => by
      rcases Nat.eq_zero_or_pos n with h | h
      · subst h; simp [ptl] at hu
      · obtain ⟨ad', e, hc⟩ := src_p hp h
        injection e with e; subst e
        exact hc j u hu
    obtain ⟨v', w', hrun, hown, hgr, hnil, hat⟩ := run_append_own_at (P := Try.prog) (w := w) 0 26 ty 70 i0 _ 2 16 Try.underlying26 hi hz0 hz1 hz2 rfl (by decide) (.slice (some ⟨e0, 0, none⟩) 0 0) 0 []
      ⟨rfl, .inr ⟨e0, 0, #[], rfl, Nat.zero_le _, he, Nat.le_refl _, Nat.zero_le _, rfl, rfl⟩⟩ ad n c (ptl n X Y) (ptl_len _ _ _) hc ptl_one (by unfold maxLen; omega) (by omega) (Nat.zero_le _)
    rw [Nat.zero_add, List.nil_append] at hown
    rcases hown.2 with ⟨rfl, _⟩ | ⟨g, cap, cur, rfl, hg, hh, _⟩
    · have := (hnil.1 rfl).1; cases this
    · have hgl : g < w'.heap.size := (Array.getElem?_eq_some_iff.1 hh).1
      have ha : g = e0 ∨ g = w.heap.size := by
        rcases hat with h | h <;> (simp [Value.ownBlock] at h; omega)
      refine ⟨_, cap, g, w', hrun, ⟨fun _ => rfl, fun i hi => ⟨by rw [hown.cellAt _ (by omega), ptl_at (by omega), ptc_x], by rw [hown.cellAt _ (by omega), ptl_at (by omega), ptc_y]⟩⟩, fun i hi => hown.frozenAt i, ha, fun _ => hgl, hgr.size, fun k hk hne => hgr.block k hk (by simp [Value.ownBlock]; exact hne), ?_⟩
      exact ⟨hgr.os, hgr.tape, hgr.output, hgr.size, fun k hk => hgr.block k (by omega) (by simp [Value.ownBlock]; omega)⟩
theorem step_appP {w : World} {ops : Array Oper} {o : Oper} {a : Act} {K : Act → World → Prop} {Q : Exit → Act → World → Prop} {E : Prop} (hgd : o.guard = none) (s x : Operand)
    (ho : o.op = .call { callee := .builtin .append, args := #[s, x], argTypes := #[26, 26] }) (e0 : Nat) (hs : a.eval s = .slice (some ⟨e0, 0, none⟩) 0 0) (A : Option Addr) (n c : Nat) (X Y : Nat → Int) (hx : a.eval x = .slice A n c) (hn : n ≤ 1048576)
    (he : w.heap[e0]? = some (.cells #[] 70 (0, 0))) (hp : Pts w A n X Y) (h : ∀ A1 c1 g1 w', AppP w w' e0 A1 n g1 X Y → K (a.put o.dst (.slice A1 n c1)) w') :
    if Region.wanted o (yielded ops a.tmps) = true then Oper.wp Try.prog o a w K Q else E := by
  have hw : Region.wanted o (yielded ops a.tmps) = true := by simp [Region.wanted, hgd]
  rw [if_pos hw]
  obtain ⟨A1, c1, g1, w', hrun, hA⟩ := run_appP w o.type e0 he A n c X Y hn hp
  unfold Oper.wp execOp
  simp only [ho, resolve, invoke, builtin, Sem.run_bind, Sem.run_pure, Result.andThen_ok, List.map_toArray, List.map_cons, List.map_nil, hs, hx, hrun]
  exact h A1 c1 g1 w' hA
set_option maxRecDepth 100000 in
set_option maxHeartbeats 40000000 in
theorem new_spec (A : Option Addr) (n c : Nat) (X Y : Nat → Int) (level delay : Int) (w : World) (hn : n ≤ 1048576) (hp : Pts w A n X Y) :
    Calls Try.prog 56 #[.slice A n c, .int .i64 level, .int .i64 delay] w (GivesRB w (newR n X Y level delay) (newB n X Y level delay)) := by
  have HP := Lib.hid hp
  clear hp
  by_cases hd : 0 ≤ delay ∧ delay ≤ 12
  · obtain ⟨d, rfl⟩ := Int.eq_ofNat_of_zero_le hd.1
    have HI := Lib.hid (inB_yes (l := 0) (h := 12) hd.1 hd.2)
    have hd12 : d ≤ 12 := by omega
    have hmk := mkI d (by omega)
    clear hd
    go_enter Try.func56, Try.ntmps56
    go_wp2_with fail
    refine (in_spec _ _ _ _).mono ?_
    rintro e w' ⟨rfl, rfl⟩
    rw [HI.out]
    go_upto_region 3 with fail
    go_cut [8] (fun s8 wx => ∃ b A1 D1 c1 d1 g1 g2, s8 = .pointer (some ⟨b, 0, none⟩) ∧ Hid (Made w wx n X Y (valZ n X Y level) d b A1 D1 c1 d1 g1 g2) ∧ Hid (Box wx w.heap.size (.slice none 0 0) (.int .i64 0) (.slice none 0 0) 29))
    case first =>
      go_region_law (first
        | (go_simp; go_at_call 61; refine (val_spec _ _ _ _ _ hn X Y (HP.out.below (by repeat' (first | (with_reducible exact Below.refl _ _) | (with_reducible refine Below.drew ?_) | (with_reducible refine Below.alloc ?_ ?_ _) | (with_reducible refine Below.trans ?_ (hV.mono ?_)) | (with_reducible refine Below.trans ?_ (hbP.mono ?_)) | (first | omega | (simp; omega) | (simp; done)))))).mono ?_; rintro e wv ⟨rfl, hV⟩; obtain ⟨kV, fV⟩ := bcell hV; have zV := hV.size; (try simp at zV); (try (have vw0 : w.heap.size < wv.heap.size := by omega)); (try (have vw1 : w.heap.size + 1 < wv.heap.size := by omega)); (try (have vw2 : w.heap.size + 1 + 1 < wv.heap.size := by omega)); (try (have vw3 : w.heap.size + 1 + 1 + 1 < wv.heap.size := by omega)); (try (have vp0 : wp.heap.size < wv.heap.size := by omega)); (try (have vp1 : wp.heap.size + 1 < wv.heap.size := by omega)); (try (have vp2 : wp.heap.size + 1 + 1 < wv.heap.size := by omega)))
        | (refine step_appP (o := ⟨some 15, _, _, _, _, _⟩) rfl (.tmp 13) (.tmp 14) rfl _ rfl A n c X Y rfl hn (by (repeat' (first | (with_reducible rfl) | ((with_reducible refine heap_new' ?_); · (simp; done)) | ((with_reducible refine heap_old' ?_ ?_); · (first | omega | (simp; omega) | (simp; done))) | ((with_reducible refine heap_set' ?_ ?_); · (first | omega | (simp; omega) | (simp; done))) | (with_reducible refine heap_drew' ?_) | ((with_reducible refine heap_below' hV ?_ ?_); · (first | omega | (simp; omega) | (simp; done))) | ((with_reducible refine heap_below' hbP ?_ ?_); · (first | omega | (simp; omega) | (simp; done))) | ((with_reducible refine heap_app' hKP ?_ ?_ ?_); (· (first | omega | (simp; omega) | (simp; done))); (· (first | omega | (simp; omega) | (simp; done))))))) (HP.out.below (by repeat' (first | (with_reducible exact Below.refl _ _) | (with_reducible refine Below.drew ?_) | (with_reducible refine Below.alloc ?_ ?_ _) | (with_reducible refine Below.trans ?_ (hV.mono ?_)) | (with_reducible refine Below.trans ?_ (hbP.mono ?_)) | (first | omega | (simp; omega) | (simp; done))))) ?_; intro A1 c1 g1 wp hC; obtain ⟨hC1, hC2, hC3, hC4, zP, hKP, hbP⟩ := hC; have kP := fun b o (h : b < _) => hbP.cell (p := ⟨b, o, none⟩) h; have fP := fun b o (h : b < _) => hbP.frozen (p := ⟨b, o, none⟩) h; have kQ := fun b o (h : _ < b) (h' : b < _) => World.cell?_of_block (a := ⟨b, o, none⟩) (hKP b h' (Nat.ne_of_gt h)); have fQ := fun b o (h : _ < b) (h' : b < _) => frozen_of_block (i := o) (hKP b h' (Nat.ne_of_gt h)); (try simp at zP); (try simp at hC3); (try (have pw0 : w.heap.size < wp.heap.size := by omega)); (try (have pw1 : w.heap.size + 1 < wp.heap.size := by omega)); (try (have pw2 : w.heap.size + 1 + 1 < wp.heap.size := by omega)); (try (have pw3 : w.heap.size + 1 + 1 + 1 < wp.heap.size := by omega)); (try (have pv0 : wv.heap.size < wp.heap.size := by omega)); (try (have pv1 : wv.heap.size + 1 < wp.heap.size := by omega)); (try (have pv2 : wv.heap.size + 1 + 1 < wp.heap.size := by omega))))
      all_goals
        clear kV fV kP fP kQ fQ
        go_wp2_with fail
        go_meet
        (repeat apply Exists.intro)
        refine ⟨rfl, Lib.hid ?_, Lib.hid (by (repeat' (first | ((with_reducible apply Box.new'); · (simp; done)) | (with_reducible apply Box.alloc) | (with_reducible apply Box.drewI) | ((with_reducible apply Box.farI); · (first | omega | (simp; omega) | (simp; done))) | ((with_reducible apply Box.belowI hV); · (first | omega | (simp; omega) | (simp; done))) | ((with_reducible apply Box.belowI hbP); · (first | omega | (simp; omega) | (simp; done))))))⟩
        apply made_mk (wc := wp)
        · (repeat' (first | ((with_reducible apply Box.new'); · (simp; done)) | (with_reducible apply Box.alloc) | (with_reducible apply Box.drewI) | (with_reducible apply Box.set2) | (with_reducible apply Box.set1) | (with_reducible apply Box.set0) | ((with_reducible apply Box.belowI hV); · (first | omega | (simp; omega) | (simp; done))) | ((with_reducible apply Box.belowI hbP); · (first | omega | (simp; omega) | (simp; done))) | ((with_reducible apply Box.appI hKP); (· (first | omega | (simp; omega) | (simp; done))); (· (first | omega | (simp; omega) | (simp; done))))))
        · exact Nat.le_refl _
        · (first | omega | (simp; omega) | (simp; done))
        · exact hC1
        · exact hC2
        all_goals first | (show _ < _; (first | omega | (simp; omega) | (simp; done)); done) | skip
        all_goals first | (intro hn0; have := hC4 hn0; (first | omega | (simp; omega) | (simp; done)); done) | skip
        · intro hn0
          have hg0 := hC4 hn0
          (repeat' (first | (with_reducible rfl) | ((with_reducible refine heap_new' ?_); · (simp; done)) | ((with_reducible refine heap_old' ?_ ?_); · (first | omega | (simp; omega) | (simp; done))) | ((with_reducible refine heap_set' ?_ ?_); · (first | omega | (simp; omega) | (simp; done))) | (with_reducible refine heap_drew' ?_) | ((with_reducible refine heap_below' hV ?_ ?_); · (first | omega | (simp; omega) | (simp; done))) | ((with_reducible refine heap_below' hbP ?_ ?_); · (first | omega | (simp; omega) | (simp; done))) | ((with_reducible refine heap_app' hKP ?_ ?_ ?_); (· (first | omega | (simp; omega) | (simp; done))); (· (first | omega | (simp; omega) | (simp; done))))))
        · (repeat' (first | (with_reducible rfl) | ((with_reducible refine heap_new' ?_); · (simp; done)) | ((with_reducible refine heap_old' ?_ ?_); · (first | omega | (simp; omega) | (simp; done))) | ((with_reducible refine heap_set' ?_ ?_); · (first | omega | (simp; omega) | (simp; done))) | (with_reducible refine heap_drew' ?_) | ((with_reducible refine heap_below' hV ?_ ?_); · (first | omega | (simp; omega) | (simp; done))) | ((with_reducible refine heap_below' hbP ?_ ?_); · (first | omega | (simp; omega) | (simp; done))) | ((with_reducible refine heap_app' hKP ?_ ?_ ?_); (· (first | omega | (simp; omega) | (simp; done))); (· (first | omega | (simp; omega) | (simp; done))))))
        all_goals (repeat' (first | (with_reducible exact Below.refl _ _) | (with_reducible refine Below.drew ?_) | (with_reducible refine Below.alloc ?_ ?_ _) | (with_reducible refine Below.setCell ?_ ?_ _) | (with_reducible refine Below.trans ?_ (hV.mono ?_)) | (with_reducible refine Below.trans ?_ (hbP.mono ?_)) | (first | omega | (simp; omega) | (simp; done))))
    case rest =>
      obtain ⟨b, A1, D1, c1, d1, g1, g2, rfl, HM, HR⟩ := hcut
      have hdd := HM.out.2.1
      have hb0 := HM.out.2.2.1
      have HB := Lib.hid HM.out.2.2.2.2
      have HO := Lib.hid HM.out.2.2.2.1
      have HX := Lib.hid HM.out.1
      have hbl := HX.out.lt
      have hrl := HR.out.lt
      obtain ⟨x0, x1, x2⟩ := HX.out.at
      clear HM hmk
      go_wp2_with fail
      refine (ok_spec (newC n X Y level d) _ _ _ _ _ hn (by show d ≤ _; omega) HO.out.pts HO.out.ints).mono ?_
      rintro e w1 ⟨rfl, hb1⟩
      have HB1 := Lib.hid (HB.out.trans (hb1.mono HB.out.size))
      have HR1 := Lib.hid (HR.out.below hb1)
      have HX1 := Lib.hid (HX.out.below hb1)
      have HO1 := Lib.hid (HO.out.below hb1)
      have q1 := hb1.size
      clear hb1 x0 x1 x2
      obtain ⟨x0, x1, x2⟩ := HX1.out.at
      obtain ⟨y0, y1, y2⟩ := HR1.out.at
      obtain ⟨s0, s1, s2⟩ := HR1.out.free
      cases ho : rOk (newC n X Y level d) with
      | false =>
        have HN := Lib.hid (new_no hd12 ho)
        clear ho
        go_wp2
        refine bodyPost_ret (v := .tuple #[.agg #[.slice none 0 0, .int .i64 0, .slice none 0 0], .bool false]) (by simp [results, Try.results56, go_sem, y0, y1, y2]) rfl ?_
        rw [HN.out.1, HN.out.2]
        exact gives_nil (((HB1.out.setCell (Nat.le_refl _) _).setCell (Nat.le_refl _) _).setCell (Nat.le_refl _) _)
      | true =>
        have HN := Lib.hid (new_yes hd12 ho)
        clear ho
        go_wp2
        refine bodyPost_ret (v := .tuple #[.agg #[.slice A1 n c1, .int .i64 (valZ n X Y level), .slice D1 d d1], .bool true]) (by simp [results, Try.results56, go_sem, y0, y1, y2]) rfl ?_
        rw [HN.out.1, HN.out.2]
        exact give_endB (r := newC n X Y level d) HB1.out HO1.out (Nat.le_refl _) (Nat.lt_succ_self _) q1 rfl rfl rfl hdd
  · have HN := Lib.hid (new_out (n := n) (X := X) (Y := Y) (level := level) hd)
    have HI := Lib.hid (inB_no (x := delay) (l := 0) (h := 12) (by omega))
    clear hd
    go_enter Try.func56, Try.ntmps56
    go_wp2_with fail
    refine (in_spec _ _ _ _).mono ?_
    rintro e w' ⟨rfl, rfl⟩
    rw [HI.out]
    go_wp2
    refine bodyPost_ret (v := .tuple #[.agg #[.slice none 0 0, .int .i64 0, .slice none 0 0], .bool false]) (by simp [results, Try.results56, go_sem]) rfl ?_
    rw [HN.out.1, HN.out.2]
    exact gives_nil ((Below.refl _ _).alloc (Nat.le_refl _) _)
end Go.Proofs.Ytkaddacflblghaa.C1
