/- The drawn boat, the drawn train. -/
import Derived.Test.YtmfeleocjmdooaaCur
import Derived.Test.YtmfeleocjmdooaaTrF
import Derived.Deep.RegionLaw
import Derived.Deep.RegionHeld3
import Derived.Test.YtmfeleocjmdooaaLast
namespace Go.Proofs.Ytmfeleocjmdooaa.C1
open Go.ChangeShapes Go.WideShapes Go.ChangeAt Go.RowKit
set_option linter.unusedVariables false
set_option linter.unusedSimpArgs false

theorem Drawn.put {p : Nat} {a b : World} (h : Drawn p a b) {g j : Nat} {u : Value} (hg : a.heap.size ≤ g) (hp : p < a.heap.size) : Drawn p a (b.setCell ⟨g, j, none⟩ u) := by
  have hne : ∀ k, k < a.heap.size → k ≠ g := fun k hk => by omega
  exact ⟨⟨h.1.os, h.1.tape, h.1.output, by simpa using h.1.size, fun k hk => (heap_other (hne k (by omega))).trans (h.1.block k hk)⟩, fun k h1 h2 => (heap_other (hne k h2)).trans (h.2.1 k h1 h2), by simpa using h.2.2.1, h.2.2.2.keep fun k hk => heap_other (hne k (by omega))⟩
/-- What is known of a drawn boat. -/
structure BD (id : Int) (b : Bt) : Prop where
  i : b.i = id
  l : 5 ≤ b.l ∧ b.l ≤ 80
  w : 1 ≤ b.w ∧ b.w ≤ 9
  d : 1 ≤ b.d ∧ b.d ≤ 30
  s : 1 ≤ b.s ∧ b.s ≤ 12
  c : 0 ≤ b.c ∧ b.c ≤ 2
def BoatDrawn (p : Nat) (id : Int) (w : World) (e : Ending) (w' : World) : Prop := ∃ b : Bt, e = .returned (.agg #[.int .i64 b.i, .int .i64 b.l, .int .i64 b.w, .int .i64 b.d, .int .i64 b.s, .int .i64 b.c]) ∧ BD id b ∧ Drawn p w w'
set_option maxRecDepth 100000 in
set_option maxHeartbeats 1000000 in
theorem boat_draw (p : Nat) (id : Int) (w : World) (hc : Cur w p) : Calls Try.prog 150 #[.pointer (some ⟨p, 0, none⟩), .int .i64 id] w (BoatDrawn p id w) := by
  have HC := Lib.hid hc
  have hpw := hc.lt
  have hne : w.heap.size ≠ p := by omega
  have HN := Lib.hid hne
  have H0 := vl (heap_alloc_new w (.cells #[.int .i64 0, .int .i64 0, .int .i64 0, .int .i64 0, .int .i64 0, .int .i64 0] 29))
  have HD0 := Lib.hid ((Drawn.refl hc).alloc (.cells #[.int .i64 0, .int .i64 0, .int .i64 0, .int .i64 0, .int .i64 0, .int .i64 0] 29))
  have H1 := vl ((Below.heap_alloc (w.alloc (.cells #[.int .i64 0, .int .i64 0, .int .i64 0, .int .i64 0, .int .i64 0, .int .i64 0] 29)) (.cells #[.int .i64 5, .int .i64 12, .int .i64 30, .int .i64 80] 3) w.heap.size (by simp)).trans H0.out)
  have HD1 := Lib.hid (HD0.out.alloc (.cells #[.int .i64 5, .int .i64 12, .int .i64 30, .int .i64 80] 3))
  clear hc hne H0
  go_enter Try.func150, Try.ntmps150
  go_wp2_with fail
  refine (pick_draw p (w.heap.size + 1) 0 4 4 (fun i => ([5, 12, 30, 80] : List Int).getD i 0) _ HD1.out.cur (by decide) (by decide) (by omega) (fun i hi => ?_) 5 80 (fun i hi => ?_)).mono ?_
  · have : i = 0 ∨ i = 1 ∨ i = 2 ∨ i = 3 := by omega
    rcases this with rfl | rfl | rfl | rfl <;> exact (World.cell?_alloc_at _ _ _ _ (by simp)).trans rfl
  · have : i = 0 ∨ i = 1 ∨ i = 2 ∨ i = 3 := by omega
    rcases this with rfl | rfl | rfl | rfl <;> decide
  rintro e w1 ⟨x1, a1, b1, rfl, hd1⟩
  have H2 := vl ((hd1.heap HN.out (by simp; omega)).trans H1.out)
  have HD2 := Lib.hid (HD1.out.trans hd1)
  clear hd1 H1
  go_wp2_with fail
  refine (below_draw p 9 _ HD2.out.cur (by omega) (by omega)).mono ?_
  rintro e w2 ⟨x2, a2, b2, rfl, hd2⟩
  have H3 := vl ((hd2.heap HN.out (Array.getElem?_eq_some_iff.1 H2.out).1).trans H2.out)
  have HD3 := Lib.hid (HD2.out.trans hd2)
  clear hd2 H2
  go_wp2_with fail
  refine (below_draw p 30 _ HD3.out.cur (by omega) (by omega)).mono ?_
  rintro e w3 ⟨x3, a3, b3, rfl, hd3⟩
  have H4 := vl ((hd3.heap HN.out (Array.getElem?_eq_some_iff.1 H3.out).1).trans H3.out)
  have HD4 := Lib.hid (HD3.out.trans hd3)
  clear hd3 H3
  go_wp2_with fail
  refine (below_draw p 12 _ HD4.out.cur (by omega) (by omega)).mono ?_
  rintro e w4 ⟨x4, a4, b4, rfl, hd4⟩
  have H5 := vl ((hd4.heap HN.out (Array.getElem?_eq_some_iff.1 H4.out).1).trans H4.out)
  have HD5 := Lib.hid (HD4.out.trans hd4)
  clear hd4 H4
  go_wp2_with fail
  refine (below_draw p 3 _ HD5.out.cur (by omega) (by omega)).mono ?_
  rintro e w5 ⟨x5, a5, b5, rfl, hd5⟩
  have H6 := (hd5.heap HN.out (Array.getElem?_eq_some_iff.1 H5.out).1).trans H5.out
  have HD6 := Lib.hid (HD5.out.trans hd5)
  clear hd5 H5
  have y0 : w5.cell? ⟨w.heap.size, 0, none⟩ = some (.int .i64 0) := by simp [World.cell?, H6]
  have y1 : w5.cell? ⟨w.heap.size, 1, none⟩ = some (.int .i64 0) := by simp [World.cell?, H6]
  have y2 : w5.cell? ⟨w.heap.size, 2, none⟩ = some (.int .i64 0) := by simp [World.cell?, H6]
  have y3 : w5.cell? ⟨w.heap.size, 3, none⟩ = some (.int .i64 0) := by simp [World.cell?, H6]
  have y4 : w5.cell? ⟨w.heap.size, 4, none⟩ = some (.int .i64 0) := by simp [World.cell?, H6]
  have y5 : w5.cell? ⟨w.heap.size, 5, none⟩ = some (.int .i64 0) := by simp [World.cell?, H6]
  have z0 : w5.frozen? ⟨w.heap.size, 0, none⟩ = false := by simp [World.frozen?, H6]
  have z1 : w5.frozen? ⟨w.heap.size, 1, none⟩ = false := by simp [World.frozen?, H6]
  have z2 : w5.frozen? ⟨w.heap.size, 2, none⟩ = false := by simp [World.frozen?, H6]
  have z3 : w5.frozen? ⟨w.heap.size, 3, none⟩ = false := by simp [World.frozen?, H6]
  have z4 : w5.frozen? ⟨w.heap.size, 4, none⟩ = false := by simp [World.frozen?, H6]
  have z5 : w5.frozen? ⟨w.heap.size, 5, none⟩ = false := by simp [World.frozen?, H6]
  clear H6
  go_wp2
  refine bodyPost_ret (v := .agg #[.int .i64 id, .int .i64 x1, .int .i64 (1 + x2), .int .i64 (1 + x3), .int .i64 (1 + x4), .int .i64 x5]) (by simp [results, Try.results150, go_sem, y0, y1, y2, y3, y4, y5]) rfl ?_
  exact ⟨⟨id, x1, 1 + x2, 1 + x3, 1 + x4, x5⟩, rfl, ⟨rfl, ⟨a1, b1⟩, ⟨by show 1 ≤ 1 + x2; omega, by show 1 + x2 ≤ 9; omega⟩, ⟨by show 1 ≤ 1 + x3; omega, by show 1 + x3 ≤ 30; omega⟩, ⟨by show 1 ≤ 1 + x4; omega, by show 1 + x4 ≤ 12; omega⟩, ⟨a5, by show x5 ≤ 2; omega⟩⟩,
    (((((HD6.out.put (Nat.le_refl _) hpw).put (Nat.le_refl _) hpw).put (Nat.le_refl _) hpw).put (Nat.le_refl _) hpw).put (Nat.le_refl _) hpw).put (Nat.le_refl _) hpw⟩
/-- What is known of a drawn train: k boats, numbered from id on, no row empty. -/
structure TD (id : Int) (k : Nat) (M : List (List Bt)) : Prop where
  len : (bts M).length = k
  at' : ∀ (j : Nat) (b : Bt), (bts M)[j]? = some b → BD (id + j) b
  full : ∀ r ∈ M, r ≠ []
theorem bts_app (M N : List (List Bt)) : bts (M ++ N) = bts M ++ bts N := by simp [bts]
theorem bts_one (r : List Bt) : bts [r] = r := by simp [bts]
theorem TD.nil (id : Int) : TD id 0 [] := ⟨rfl, fun j b h => by simp [bts] at h, fun r h => by cases h⟩
theorem td_next {id : Int} {k : Nat} {M M' : List (List Bt)} {b : Bt} (h : TD id k M) (hb : BD (id + k) b) (e : bts M' = bts M ++ [b]) (hf : ∀ r ∈ M', r ≠ []) : TD id (k + 1) M' := by
  refine ⟨by rw [e, List.length_append, h.len]; rfl, fun j x hx => ?_, hf⟩
  rw [e] at hx
  rcases Nat.lt_or_ge j k with hj | hj
  · rw [List.getElem?_append_left (by rw [h.len]; exact hj)] at hx
    exact h.at' j x hx
  · rw [List.getElem?_append_right (by rw [h.len]; exact hj), h.len] at hx
    have h0 : j - k = 0 := by
      rcases Nat.eq_zero_or_pos (j - k) with h0 | h0
      · exact h0
      · rw [List.getElem?_eq_none (by simp; omega)] at hx; cases hx
    rw [h0] at hx
    simp at hx
    subst hx
    have : j = k := by omega
    subst this
    exact hb
theorem TD.row {id : Int} {k : Nat} {M : List (List Bt)} {b : Bt} (h : TD id k M) (hb : BD (id + k) b) : TD id (k + 1) (M ++ [[b]]) :=
  td_next h hb (by rw [bts_app, bts_one]) (fun r hr => by
    rcases List.mem_append.1 hr with h1 | h1
    · exact h.full r h1
    · simp at h1; subst h1; simp)
theorem TD.more {id : Int} {k : Nat} {M : List (List Bt)} {r : List Bt} {b : Bt} (h : TD id k (M ++ [r])) (hb : BD (id + k) b) : TD id (k + 1) (M ++ [r ++ [b]]) :=
  td_next h hb (by rw [bts_app, bts_app, bts_one, bts_one, List.append_assoc]) (fun s hs => by
    rcases List.mem_append.1 hs with h1 | h1
    · exact h.full s (List.mem_append.2 (Or.inl h1))
    · simp at h1; subst h1; simp)
theorem TD.mem {id : Int} {k : Nat} {M : List (List Bt)} (h : TD id k M) (h0 : 1 ≤ id) (h1 : id + k ≤ 10000) {b : Bt} (hb : b ∈ bts M) : BIn b := by
  obtain ⟨j, hj⟩ := List.getElem?_of_mem hb
  have hl := len_of hj
  rw [h.len] at hl
  have H := h.at' j b hj
  have hi := H.i
  have a := H.l; have b' := H.w; have c := H.d; have d := H.s; have e := H.c
  exact ⟨by omega, by omega, by omega, by omega, by omega, by omega, by omega, by omega, by omega, by omega, by omega, by omega⟩
theorem TD.ok {id : Int} {k : Nat} {M : List (List Bt)} (h : TD id k M) (h0 : 1 ≤ id) (h1 : id + k ≤ 10000) (hk : 1 ≤ k) (hk6 : k ≤ 6) : TIn M := by
  refine ⟨h.full, by rw [h.len]; exact hk, by rw [h.len]; exact hk6, fun b hb => h.mem h0 h1 hb, ?_⟩
  have hd : ∀ n, n ≤ k → difK (idz (bts M)) n = true := by
    intro n
    induction n with
    | zero => intro _; rfl
    | succ n ih =>
      intro hn
      obtain ⟨b, hb⟩ := get_of (L := bts M) (k := n) (by rw [h.len]; omega)
      refine difK_yes (x := b.i) (by unfold idz; rw [List.getElem?_map, hb]; rfl) (ih (by omega)) fun i y hi hy => ?_
      unfold idz at hy
      rw [List.getElem?_map] at hy
      cases hx : (bts M)[i]? with
      | none => rw [hx] at hy; cases hy
      | some x =>
        rw [hx] at hy
        simp at hy
        subst hy
        have e1 := (h.at' i x hx).i
        have e2 := (h.at' n b hb).i
        omega
  have := hd k (Nat.le_refl _)
  unfold difB
  have hl : (idz (bts M)).length = k := by unfold idz; rw [List.length_map, h.len]
  rw [hl]; exact this
theorem TD.mod {id : Int} {k : Nat} {M : List (List Bt)} (h : TD id k M) (hk : k ≤ 6) : Mod M := by
  have h1 := flat_len h.full
  have h2 : M.flatten.length = k := h.len
  exact ⟨by omega, by have := h.len; omega⟩
theorem Drawn.old {p B : Nat} {a b c : World} (h : Drawn p a b) (hb : Below B b c) (hB : a.heap.size ≤ B) (hp : p < a.heap.size) : Drawn p a c :=
  ⟨h.1.trans (hb.mono (by omega)), fun k h1 h2 => (hb.block k (by omega)).trans (h.2.1 k h1 h2), Nat.le_trans h.2.2.1 hb.size, h.cur.keep fun k hk => hb.block k (by omega)⟩
def TrainDrawn (p : Nat) (id : Int) (w : World) (e : Ending) (w' : World) : Prop :=
  ∃ (up : Bool) (A : Option Addr) (c g k : Nat) (G : Nat → Nat) (M : List (List Bt)), e = .returned (.agg #[.bool up, .slice A M.length c]) ∧ 1 ≤ k ∧ k ≤ 4 ∧ TD id k M ∧ M.length ≤ c ∧ OwnT w' w.heap.size w'.heap.size A M g G ∧ Drawn p w w'
theorem BxB.block {w w' : World} {g : Nat} {b : Bt} (h : BxB w g b) (hb : w'.heap[g]? = w.heap[g]?) : BxB w' g b := by
  obtain ⟨h0, h1, h2, h3, h4, h5⟩ := h
  exact ⟨(World.cell?_of_block hb).trans h0, (World.cell?_of_block hb).trans h1, (World.cell?_of_block hb).trans h2, (World.cell?_of_block hb).trans h3, (World.cell?_of_block hb).trans h4, (World.cell?_of_block hb).trans h5⟩
set_option maxRecDepth 100000 in
set_option maxHeartbeats 4000000 in
theorem train_draw (p : Nat) (id : Int) (w : World) (hc : Cur w p) (hid0 : 0 ≤ id) (hid1 : id ≤ 9000) : Calls Try.prog 96 #[.pointer (some ⟨p, 0, none⟩), .int .i64 id] w (TrainDrawn p id w) := by
  have hpw := hc.lt
  have HD0 := vl ((Drawn.refl hc).alloc (.cells #[.bool false, .slice none 0 0] 26))
  have HR0 := vl (TBoxF.new w false (.slice none 0 0) 26)
  have hs0 : (w.alloc (.cells #[.bool false, .slice none 0 0] 26)).heap.size = w.heap.size + 1 := by simp
  clear hc
  go_enter Try.func96, Try.ntmps96
  go_wp2_with fail
  refine (once_draw p 2 _ HD0.out.cur (by omega) (by omega)).mono ?_
  rintro e w1 ⟨up, rfl, hd1⟩
  have hne : w.heap.size ≠ p := by omega
  have HD1 := vl (HD0.out.trans hd1)
  have HR1 := vl (HR0.out.block (hd1.heap hne (by omega)))
  have h1 : w.heap.size < w1.heap.size := HR1.out.lt
  clear hd1 HD0 HR0 hs0
  have hba := (Below.refl w1.heap.size w1).alloc (Nat.le_refl _) (.cells #[.bool up, .slice none 0 0] 26)
  have HD1a := vl (HD1.out.alloc (.cells #[.bool up, .slice none 0 0] 26))
  have HR1a := vl (HR1.out.below hba HR1.out.lt)
  have HX1a := vl (TBoxF.new w1 up (.slice none 0 0) 26)
  have hs1 : (w1.alloc (.cells #[.bool up, .slice none 0 0] 26)).heap.size = w1.heap.size + 1 := by simp
  clear hba
  go_wp2_with fail
  refine (below_draw p 4 _ HD1a.out.cur (by omega) (by omega)).mono ?_
  rintro e w2 ⟨x, x0, x1, rfl, hd2⟩
  have hneq : w1.heap.size ≠ p := by omega
  have HD2 := vl (HD1a.out.trans hd2)
  have HR2 := vl (HR1a.out.block (hd2.heap hne (by omega)))
  have HX2 := vl (HX1a.out.block (hd2.heap hneq (by omega)))
  have h2 : w1.heap.size < w2.heap.size := HX2.out.lt
  obtain ⟨m, rfl⟩ := Int.eq_ofNat_of_zero_le x0
  have hm3 : m ≤ 3 := by omega
  clear hd2 HD1a HR1a HX1a HD1 HR1 hs1 x0 x1
  obtain ⟨j0, hj, hy0, hy1, hy2⟩ := info_parts infoR
  obtain ⟨i0, hi, hz0', hz1', hz2'⟩ := info_parts infoB2
  generalize hq : w1.heap.size = q at *
  go_wp2
  go_loopw [7] (fun i wr => ∃ (k : Nat) (v : Value) (xs : List Value) (M : List (List Bt)), k ≤ m + 1 ∧ i = .int .i64 k ∧ (0 < k → M ≠ []) ∧ Veil (TD id k M) ∧ Veil (Drawn p w wr) ∧ Veil (TBoxF wr w.heap.size false (.slice none 0 0)) ∧ Veil (TBoxF wr q up v) ∧ Veil (OwnRows wr w2.heap.size v M xs) ∧ w2.heap.size ≤ wr.heap.size) (fun i _ => m + 1 - (intOf i).toNat)
  case atStart => exact ⟨0, .slice none 0 0, [], [], by omega, rfl, fun h => by omega, vl (TD.nil _), HD2, HR2, HX2, vl (OwnRows.nil _ _), Nat.le_refl _⟩
  case round =>
    obtain ⟨k, v, xs, M, hk, rfl, hMn, HT, HD, HR, HX, HM6, hw6⟩ := hrel
    by_cases hlt : k < m + 1
    · have hq0 := HX.out.lt
      have hr0 := HR.out.lt
      go_wp2_with fail
      refine (boat_draw p (id + k) _ HD.out.cur).mono ?_
      rintro e wb ⟨b, rfl, hbd, hdb⟩
      have HBD := vl hbd
      have hsb := hdb.2.2.1
      have hba := (Below.refl wb.heap.size wb).alloc (Nat.le_refl _) (.cells #[.int .i64 b.i, .int .i64 b.l, .int .i64 b.w, .int .i64 b.d, .int .i64 b.s, .int .i64 b.c] 29)
      have HDc := vl (hdb.alloc (.cells #[.int .i64 b.i, .int .i64 b.l, .int .i64 b.w, .int .i64 b.d, .int .i64 b.s, .int .i64 b.c] 29))
      have HQc := vl (BxB.new wb b 29)
      have hsc : (wb.alloc (.cells #[.int .i64 b.i, .int .i64 b.l, .int .i64 b.w, .int .i64 b.d, .int .i64 b.s, .int .i64 b.c] 29)).heap.size = wb.heap.size + 1 := by simp
      have hpB : p < w2.heap.size := by omega
      have HMc := vl (HM6.out.kept HDc.out.grown hpB)
      have HXc := vl (HX.out.block (HDc.out.heap hneq hq0))
      have HRc := vl (HR.out.block (HDc.out.heap hne hr0))
      have hMl : M.length ≤ 4 := by have h1 := flat_len HT.out.full; have h2 : M.flatten.length = k := HT.out.len; omega
      clear hbd hdb hba
      by_cases hk0 : k = 0
      · have hk1 : ¬ (0 : Int) < (k : Int) := by omega
        obtain ⟨V, d, rfl, _⟩ := own_src HMc.out.own
        have hb2 := (Below.refl (wb.alloc (.cells #[.int .i64 b.i, .int .i64 b.l, .int .i64 b.w, .int .i64 b.d, .int .i64 b.s, .int .i64 b.c] 29)).heap.size (wb.alloc (.cells #[.int .i64 b.i, .int .i64 b.l, .int .i64 b.w, .int .i64 b.d, .int .i64 b.s, .int .i64 b.c] 29))).alloc (Nat.le_refl _) (.cells #[.int .i64 b.i, .int .i64 b.l, .int .i64 b.w, .int .i64 b.d, .int .i64 b.s, .int .i64 b.c] 29)
        have HM9 := vl (HMc.out.below hb2)
        have HU := vl (own_row1 (wb.alloc (.cells #[.int .i64 b.i, .int .i64 b.l, .int .i64 b.w, .int .i64 b.d, .int .i64 b.s, .int .i64 b.c] 29)) b)
        have HB2 := vl hb2
        have hxs := HXc.out.lt
        have hrs := HRc.out.lt
        have hws := HDc.out.2.2.1
        obtain ⟨q0, q1, q2, q3, q4, q5⟩ := HQc.out
        have p0 := HXc.out.c0; have p1 := HXc.out.c1; have p2 := HXc.out.f0; have p3 := HXc.out.f1
        clear hb2
        go_wp2_with (at_builtin; refine wpList_app rfl _ _ 24 rfl w2.heap.size 30 j0 _ 1 24 Try.underlying24 hj hy0 hy1 hy2 rfl (by decide) (.slice V M.length d) M.length xs rfl (HM9.out.own.alloc _) (some ⟨wb.heap.size + 1 + 1, 0, none⟩) 1 1 [.slice (some ⟨wb.heap.size + 1, 0, none⟩) 1 1] rfl rfl (fun _ => ⟨⟨wb.heap.size + 1 + 1, 0, none⟩, rfl, news_one _ _ _ _ (by simp)⟩) (fun x hx => by simp at hx; subst hx; rfl) (by unfold maxLen; omega) (by omega) (by simp; omega) ?_)
        intro v' w3 hown hgr
        have HM10 := vl (HMc.out.snoc (by omega) HB2.out HU.out (by simpa using hown) hgr)
        have hb3 : Below w2.heap.size (wb.alloc (.cells #[.int .i64 b.i, .int .i64 b.l, .int .i64 b.w, .int .i64 b.d, .int .i64 b.s, .int .i64 b.c] 29)) w3 := (HB2.out.mono (by omega)).trans (((Below.refl w2.heap.size _).alloc (by simp; omega) _).trans (below_app' (HM9.out.own.alloc _) hgr (by simp; omega)))
        have HX3 := vl (HXc.out.below hb3 (by omega))
        have HR3 := vl (HRc.out.below hb3 (by omega))
        have HD3 := vl ((HD.out.trans HDc.out).old hb3 (by omega) hpw)
        have hw3 : w2.heap.size ≤ w3.heap.size := Nat.le_trans (by omega) hb3.size
        obtain ⟨V', d', rfl, _⟩ := own_src HM10.out.own
        rw [show (M ++ [[b]]).length = M.length + 1 from by simp] at HM10
        clear hown hgr hb3 q0 q1 q2 q3 q4 q5 p0 p1 p2 p3
        have p0 := HX3.out.c0; have p1 := HX3.out.c1; have p2 := HX3.out.f0; have p3 := HX3.out.f1
        go_wp2
        go_roundw
        case rel => exact ⟨k + 1, _, _, M ++ [[b]], by omega, by go_num, fun _ => by simp, vl (HT.out.row HBD.out), vl (HD3.out.put (by omega) hpw), vl (HR3.out.far _ (by omega)), vl (HX3.out.set _), vl (HM10.out.set (by omega)), by simpa using hw3⟩
        case measure => simp [intOf]; omega
      · have hk1 : (0 : Int) < (k : Int) := by omega
        go_wp2_with fail
        refine (once_draw p 2 _ HDc.out.cur (by omega) (by omega)).mono ?_
        rintro e wd ⟨fl, rfl, hd⟩
        have hbne : wb.heap.size ≠ p := by omega
        have HQd := vl (HQc.out.block (hd.heap hbne (by omega)))
        have HDd := vl (HDc.out.trans hd)
        have HMd := vl (HMc.out.kept hd.grown hpB)
        have HXd := vl (HXc.out.block (hd.heap hneq HXc.out.lt))
        have HRd := vl (HRc.out.block (hd.heap hne HRc.out.lt))
        have hsd : wb.heap.size < wd.heap.size := by have := hd.2.2.1; omega
        clear hd HQc HDc HMc HXc HRc hsc
        cases fl with
        | false =>
          have HQc := HQd
          have HDc := HDd
          have HMc := HMd
          have HXc := HXd
          have HRc := HRd
          clear HQd HDd HMd HXd HRd
          obtain ⟨V, d, rfl, _⟩ := own_src HMc.out.own
          have hb2 := (Below.refl wd.heap.size wd).alloc (Nat.le_refl _) (.cells #[.int .i64 b.i, .int .i64 b.l, .int .i64 b.w, .int .i64 b.d, .int .i64 b.s, .int .i64 b.c] 29)
          have HM9 := vl (HMc.out.below hb2)
          have HU := vl (own_row1 wd b)
          have HB2 := vl hb2
          have hxs := HXc.out.lt
          have hrs := HRc.out.lt
          have hws := HDc.out.2.2.1
          obtain ⟨q0, q1, q2, q3, q4, q5⟩ := HQc.out
          have p0 := HXc.out.c0; have p1 := HXc.out.c1; have p2 := HXc.out.f0; have p3 := HXc.out.f1
          clear hb2
          go_wp2_with (at_builtin; refine wpList_app rfl _ _ 24 rfl w2.heap.size 30 j0 _ 1 24 Try.underlying24 hj hy0 hy1 hy2 rfl (by decide) (.slice V M.length d) M.length xs rfl (HM9.out.own.alloc _) (some ⟨wd.heap.size + 1, 0, none⟩) 1 1 [.slice (some ⟨wd.heap.size, 0, none⟩) 1 1] rfl rfl (fun _ => ⟨⟨wd.heap.size + 1, 0, none⟩, rfl, news_one _ _ _ _ (by simp)⟩) (fun x hx => by simp at hx; subst hx; rfl) (by unfold maxLen; omega) (by omega) (by simp; omega) ?_)
          intro v' w3 hown hgr
          have HM10 := vl (HMc.out.snoc (by omega) HB2.out HU.out (by simpa using hown) hgr)
          have hb3 : Below w2.heap.size wd w3 := (HB2.out.mono (by omega)).trans (((Below.refl w2.heap.size _).alloc (by simp; omega) _).trans (below_app' (HM9.out.own.alloc _) hgr (by simp; omega)))
          have HX3 := vl (HXc.out.below hb3 (by omega))
          have HR3 := vl (HRc.out.below hb3 (by omega))
          have HD3 := vl ((HD.out.trans HDc.out).old hb3 (by omega) hpw)
          have hw3 : w2.heap.size ≤ w3.heap.size := Nat.le_trans (by omega) hb3.size
          obtain ⟨V', d', rfl, _⟩ := own_src HM10.out.own
          rw [show (M ++ [[b]]).length = M.length + 1 from by simp] at HM10
          clear hown hgr hb3 q0 q1 q2 q3 q4 q5 p0 p1 p2 p3
          have p0 := HX3.out.c0; have p1 := HX3.out.c1; have p2 := HX3.out.f0; have p3 := HX3.out.f1
          go_wp2
          go_roundw
          case rel => exact ⟨k + 1, _, _, M ++ [[b]], by omega, by go_num, fun _ => by simp, vl (HT.out.row HBD.out), vl (HD3.out.put (by omega) hpw), vl (HR3.out.far _ (by omega)), vl (HX3.out.set _), vl (HM10.out.set (by omega)), by simpa using hw3⟩
          case measure => simp [intOf]; omega
        | true =>
          rcases last_row M with h | ⟨M', r, h⟩
          · exact absurd h (hMn (by omega))
          subst h
          have hm' : (M' ++ [r]).length = M'.length + 1 := by simp
          rw [hm'] at hMl
          obtain ⟨V, d, rfl, _⟩ := own_src HMd.out.own
          rw [hm'] at HMd HXd HM6
          obtain ⟨g0, rfl⟩ : ∃ g0, V = some ⟨g0, 0, none⟩ := by
            rcases HMd.out.own.2 with ⟨_, h0⟩ | ⟨g, cap, cur, e, _⟩
            · rw [hm'] at h0; omega
            · injection e with e1; exact ⟨g, e1⟩
          obtain ⟨xs', u, rfl⟩ : ∃ xs' u, xs = xs' ++ [u] := by
            rcases List.eq_nil_or_concat xs with h | ⟨M2, r2, h⟩
            · have := HMd.out.len; rw [hm', h] at this; simp at this
            · exact ⟨M2, r2, by simpa using h⟩
          have hxl : xs'.length = M'.length := by have := HMd.out.len; rw [hm'] at this; simpa using this
          obtain ⟨u', hu', hxo⟩ := HM6.out.row M'.length r (by simp)
          have eu : u' = u := by
            rw [List.getElem?_append_right (by omega), hxl, Nat.sub_self] at hu'
            simpa using hu'.symm
          subst eu
          obtain ⟨Au, cu, rfl, _⟩ := own_src hxo
          have hr6 : r.length ≤ 6 := by
            have h2 : (bts (M' ++ [r])).length = k := HT.out.len
            rw [bts_app, bts_one, List.length_append] at h2
            omega
          obtain ⟨u2, hu2, hxd⟩ := HMd.out.row M'.length r (by simp)
          have eu2 : u2 = .slice Au r.length cu := by rw [hu'] at hu2; injection hu2 with e; exact e.symm
          subst eu2
          have c1a : wd.cell? ⟨g0, M'.length, none⟩ = some (.slice Au r.length cu) := by
            have h := HMd.out.own
            rw [hm'] at h
            rw [h.cellAt _ (by omega)]; exact hu'
          have hg0 := HM6.out.own.lt g0 rfl
          have o1a := HXd.out.c1
          obtain ⟨q0, q1, q2, q3, q4, q5⟩ := HQd.out
          have HXa := vl hxd
          have hxL := vl (fun k (hk : (Value.slice Au r.length cu).ownBlock = some k) => (hxo.lt k hk).2)
          have HOa := vl HXd.out
          have HRa := vl HRd.out
          have hwa : wb.heap.size < wd.heap.size := hsd
          have hrl : (r ++ [b]).length = r.length + 1 := by simp
          clear hxo hxd hu' hu2 HM6 HXd HRd HQd
          have HbW : ∀ W' : World, Below wd.heap.size wd W' → OwnRows W' w2.heap.size (.slice (some ⟨g0, 0, none⟩) (M'.length + 1) d) (M' ++ [r]) (xs' ++ [.slice Au r.length cu]) := fun W' h => HMd.out.below h
          obtain ⟨hg0a, hg0b⟩ := hg0
          have hg0c : g0 < wd.heap.size := by omega
          have hw2c : q < wd.heap.size := by omega
          have iw1 : IntKind.i64.wrap ((M'.length : Int) + 1 - 1) = (M'.length : Int) := by rw [show (M'.length : Int) + 1 - 1 = (M'.length : Int) by omega]; exact IntWalk.i64_in _ (by omega)
          have iw4 : IntKind.i64.wrap (M'.length : Int) = (M'.length : Int) := IntWalk.i64_in _ (by omega)
          have iw2 : (0 : Int) ≤ (M'.length : Int) := by omega
          have iw3 : (M'.length : Int) < (M'.length : Int) + 1 := by omega
          have hDW := vl (HD.out.trans HDd.out)
          go_wp2
          have hAl : ∀ o : Obj, (wd.alloc o).cell? ⟨q, 1, none⟩ = some (.slice (some ⟨g0, 0, none⟩) (M'.length + 1) d) ∧ (wd.alloc o).cell? ⟨wb.heap.size, 0, none⟩ = some (.int .i64 b.i) ∧ (wd.alloc o).cell? ⟨wb.heap.size, 1, none⟩ = some (.int .i64 b.l) ∧ (wd.alloc o).cell? ⟨wb.heap.size, 2, none⟩ = some (.int .i64 b.w) ∧ (wd.alloc o).cell? ⟨wb.heap.size, 3, none⟩ = some (.int .i64 b.d) ∧ (wd.alloc o).cell? ⟨wb.heap.size, 4, none⟩ = some (.int .i64 b.s) ∧ (wd.alloc o).cell? ⟨wb.heap.size, 5, none⟩ = some (.int .i64 b.c) ∧ (wd.alloc o).cell? ⟨g0, M'.length, none⟩ = some (.slice Au r.length cu) := fun o => by
            have hb := (Below.refl wd.heap.size wd).alloc (Nat.le_refl _) o
            exact ⟨(hb.cell (cell_lt' o1a)).trans o1a, (hb.cell (cell_lt' q0)).trans q0, (hb.cell (cell_lt' q1)).trans q1, (hb.cell (cell_lt' q2)).trans q2, (hb.cell (cell_lt' q3)).trans q3, (hb.cell (cell_lt' q4)).trans q4, (hb.cell (cell_lt' q5)).trans q5, (hb.cell (cell_lt' c1a)).trans c1a⟩
          have c1b := (hAl (.cells #[.int .i64 b.i, .int .i64 b.l, .int .i64 b.w, .int .i64 b.d, .int .i64 b.s, .int .i64 b.c] 29)).2.2.2.2.2.2.2
          refine wp_region_last2 (fun w' => w'.cell? ⟨q, 1, none⟩ = some (.slice (some ⟨g0, 0, none⟩) (M'.length + 1) d) ∧ w'.cell? ⟨wb.heap.size, 0, none⟩ = some (.int .i64 b.i) ∧ w'.cell? ⟨wb.heap.size, 1, none⟩ = some (.int .i64 b.l) ∧ w'.cell? ⟨wb.heap.size, 2, none⟩ = some (.int .i64 b.w) ∧ w'.cell? ⟨wb.heap.size, 3, none⟩ = some (.int .i64 b.d) ∧ w'.cell? ⟨wb.heap.size, 4, none⟩ = some (.int .i64 b.s) ∧ w'.cell? ⟨wb.heap.size, 5, none⟩ = some (.int .i64 b.c) ∧ w'.cell? ⟨g0, M'.length, none⟩ = some (.slice Au r.length cu)) (by kernel_rfl) (by simp only [List.pop_toArray, List.dropLast_cons_cons, List.dropLast_singleton]; rfl) (by rfl) (by rfl) (by kernel_rfl) ⟨o1a, q0, q1, q2, q3, q4, q5, c1a⟩ (fun hHeld => ?_)
          refine wpAnyH_take (i := 0) (oi := _) (v := ?_) rfl (by kernel_rfl) (by kernel_rfl) (by kernel_rfl) (fun _ _ _ h => h) (Or.inl ⟨by rfl, ?_⟩) (by assumption) ?_
          rotate_left 1
          · intro w hSw
            try dsimp only at hSw
            go_simp
            try with_reducible rfl
          try simp only [Act.put, List.setIfInBounds_toArray, List.set_cons_zero, List.set_cons_succ]
          refine wpAnyH_take (i := 1) (oi := _) (v := ?_) rfl (by kernel_rfl) (by kernel_rfl) (by kernel_rfl) (fun _ _ _ h => h) (Or.inl ⟨by rfl, ?_⟩) (by assumption) ?_
          rotate_left 1
          · intro w hSw
            try dsimp only at hSw
            go_simp
            try with_reducible rfl
          try simp only [Act.put, List.setIfInBounds_toArray, List.set_cons_zero, List.set_cons_succ]
          refine wpAnyH_take (i := 2) (oi := _) (v := ?_) rfl (by kernel_rfl) (by kernel_rfl) (by kernel_rfl) (fun _ _ _ h => h) (Or.inl ⟨by rfl, ?_⟩) (by assumption) ?_
          rotate_left 1
          · intro w hSw
            try dsimp only at hSw
            go_simp
            try with_reducible rfl
          try simp only [Act.put, List.setIfInBounds_toArray, List.set_cons_zero, List.set_cons_succ]
          refine wpAnyH_take (i := 3) (oi := _) (v := ?_) rfl (by kernel_rfl) (by kernel_rfl) (by kernel_rfl) (fun _ _ _ h => h) (Or.inl ⟨by rfl, ?_⟩) (by assumption) ?_
          rotate_left 1
          · intro w hSw
            try dsimp only at hSw
            go_simp
            try with_reducible rfl
          try simp only [Act.put, List.setIfInBounds_toArray, List.set_cons_zero, List.set_cons_succ]
          refine wpAnyH_take (i := 4) (oi := _) (v := ?_) rfl (by kernel_rfl) (by kernel_rfl) (by kernel_rfl) (fun _ _ _ h => h) (Or.inl ⟨by rfl, ?_⟩) (by assumption) ?_
          rotate_left 1
          · intro w hSw
            try dsimp only at hSw
            go_simp
            try with_reducible rfl
          try simp only [Act.put, List.setIfInBounds_toArray, List.set_cons_zero, List.set_cons_succ]
          refine wpAnyH_take (i := 5) (oi := _) (v := ?_) rfl (by kernel_rfl) (by kernel_rfl) (by kernel_rfl) (fun _ _ _ h => h) (Or.inl ⟨by rfl, ?_⟩) (by assumption) ?_
          rotate_left 1
          · intro w hSw
            try dsimp only at hSw
            go_simp
            try with_reducible rfl
          try simp only [Act.put, List.setIfInBounds_toArray, List.set_cons_zero, List.set_cons_succ]
          refine wpAnyH_take (i := 6) (oi := _) (v := ?_) rfl (by kernel_rfl) (by kernel_rfl) (by kernel_rfl) (fun _ _ _ h => h) (Or.inl ⟨by rfl, ?_⟩) (by assumption) ?_
          rotate_left 1
          · intro w hSw
            try dsimp only at hSw
            go_simp
            try with_reducible rfl
          try simp only [Act.put, List.setIfInBounds_toArray, List.set_cons_zero, List.set_cons_succ]
          refine wpAnyH_take (i := 7) (oi := _) (v := ?_) rfl (by kernel_rfl) (by kernel_rfl) (by kernel_rfl) (fun _ _ _ h => h) (Or.inl ⟨by rfl, ?_⟩) (by assumption) ?_
          rotate_left 1
          · intro w hSw
            try dsimp only at hSw
            go_simp
            try with_reducible rfl
          try simp only [Act.put, List.setIfInBounds_toArray, List.set_cons_zero, List.set_cons_succ]
          refine wpAnyH_take (i := 8) (oi := _) (v := ?_) rfl (by kernel_rfl) (by kernel_rfl) (by kernel_rfl) (fun _ _ _ h => h) (Or.inl ⟨by rfl, ?_⟩) (by assumption) ?_
          rotate_left 1
          · intro w hSw
            try dsimp only at hSw
            go_simp
            try with_reducible rfl
          try simp only [Act.put, List.setIfInBounds_toArray, List.set_cons_zero, List.set_cons_succ]
          refine wpAnyH_take (i := 9) (oi := _) (v := ?_) rfl (by kernel_rfl) (by kernel_rfl) (by kernel_rfl) (fun _ _ _ h => h) (Or.inl ⟨by rfl, ?_⟩) (by assumption) ?_
          rotate_left 1
          · intro w hSw
            try dsimp only at hSw
            go_simp
            try with_reducible rfl
          try simp only [Act.put, List.setIfInBounds_toArray, List.set_cons_zero, List.set_cons_succ]
          refine wpAnyH_take (i := 10) (oi := _) (v := ?_) rfl (by kernel_rfl) (by kernel_rfl) (by kernel_rfl) (fun _ _ _ h => h) (Or.inl ⟨by rfl, ?_⟩) (by assumption) ?_
          rotate_left 1
          · intro w hSw
            try dsimp only at hSw
            go_simp
            try with_reducible rfl
          try simp only [Act.put, List.setIfInBounds_toArray, List.set_cons_zero, List.set_cons_succ]
          refine wpAnyH_take (i := 11) (oi := _) (v := ?_) rfl (by kernel_rfl) (by kernel_rfl) (by kernel_rfl) (fun _ _ _ h => h) (Or.inl ⟨by rfl, ?_⟩) (by assumption) ?_
          rotate_left 1
          · intro w hSw
            try dsimp only at hSw
            go_simp
            try with_reducible rfl
          try simp only [Act.put, List.setIfInBounds_toArray, List.set_cons_zero, List.set_cons_succ]
          refine wpAnyH_take (i := 12) (oi := _) (v := ?_) rfl (by kernel_rfl) (by kernel_rfl) (by kernel_rfl) (fun _ _ _ h => h) (Or.inl ⟨by rfl, ?_⟩) (by assumption) ?_
          rotate_left 1
          · intro w hSw
            try dsimp only at hSw
            go_simp
            try with_reducible rfl
          try simp only [Act.put, List.setIfInBounds_toArray, List.set_cons_zero, List.set_cons_succ]
          refine wpAnyH_take (i := 13) (oi := _) (v := ?_) rfl (by kernel_rfl) (by kernel_rfl) (by kernel_rfl) (fun _ _ _ h => h) (Or.inl ⟨by rfl, ?_⟩) (by assumption) ?_
          rotate_left 1
          · intro w hSw
            try dsimp only at hSw
            go_simp
            try with_reducible rfl
          try simp only [Act.put, List.setIfInBounds_toArray, List.set_cons_zero, List.set_cons_succ]
          refine wpAnyH_take (i := 14) (oi := _) (v := ?_) rfl (by kernel_rfl) (by kernel_rfl) (by kernel_rfl) (fun _ _ _ h => h) (Or.inl ⟨by rfl, ?_⟩) (by assumption) ?_
          rotate_left 1
          · intro w hSw
            try dsimp only at hSw
            go_simp
            try with_reducible rfl
          try simp only [Act.put, List.setIfInBounds_toArray, List.set_cons_zero, List.set_cons_succ]
          refine wpAnyH_ready (rs := [15]) (by kernel_rfl) (by simp) ?_
          refine AllReadyH.cons (o := _) rfl (fun K hK => ?_) AllReadyH.nil
          go_simp
          refine hK.out _ _ (hAl _) (fun hHeld => ?_)
          clear hK K
          try simp only [Act.put, List.setIfInBounds_toArray, List.set_cons_zero, List.set_cons_succ]
          refine wpAnyH_ready (rs := [16]) (by kernel_rfl) (by simp) ?_
          refine AllReadyH.cons (o := _) rfl (fun K hK => ?_) AllReadyH.nil
          refine step_append_lies _ (by rfl) _ _ 30 (by rfl) w2.heap.size 29 i0 _ 6 48 Try.underlying30 hi hz0' hz1' hz2' rfl (by decide) (.slice Au r.length cu) r.length (btl r) (by rfl) (HXa.out.alloc _) ⟨wd.heap.size, 0, none⟩ 1 1 b.cells (by rfl) rfl (fun j x hx => World.news_of_block (heap_alloc_new _ _) j x (by simpa [Bt.cells] using hx)) (by intro x hx; simp [Bt.cells] at hx; rcases hx with rfl | rfl | rfl | rfl | rfl | rfl <;> rfl) (by omega) (by unfold maxLen; omega) (by omega) (by simp; omega) _ rfl ?_
          intro g3 cap w4 hown hgrow hat hlt3
          have hown' : w4.ownsRow w2.heap.size 29 6 (.slice (some ⟨g3, 0, none⟩) (r ++ [b]).length cap) (r ++ [b]).length (btl (r ++ [b])) := by rw [hrl, btl_app, btl_one']; exact hown
          have hbW := HbW _ (by first | exact ((Below.refl wd.heap.size wd).drew.alloc (Nat.le_refl _) (.cells #[.int .i64 b.i, .int .i64 b.l, .int .i64 b.w, .int .i64 b.d, .int .i64 b.s, .int .i64 b.c] 29)) | exact ((Below.refl wd.heap.size wd).alloc (Nat.le_refl _) (.cells #[.int .i64 b.i, .int .i64 b.l, .int .i64 b.w, .int .i64 b.d, .int .i64 b.s, .int .i64 b.c] 29)).drew)
          have HG4 := vl (hbW.growLast hown' hgrow (by simpa using hat))
          obtain ⟨d1, d2⟩ := hbW.slot hown' hgrow
          have hb4 : Below w2.heap.size wd w4 := ((Below.refl w2.heap.size wd).drew.alloc (show w2.heap.size ≤ wd.heap.size by omega) (.cells #[.int .i64 b.i, .int .i64 b.l, .int .i64 b.w, .int .i64 b.d, .int .i64 b.s, .int .i64 b.c] 29)).trans (below_app' (HXa.out.alloc (.cells #[.int .i64 b.i, .int .i64 b.l, .int .i64 b.w, .int .i64 b.d, .int .i64 b.s, .int .i64 b.c] 29)) hgrow (by simp; omega))
          have hwx : (.slice Au r.length cu : Value).ownBlock ≠ some wb.heap.size := fun e => by have := (hxL.out wb.heap.size e); omega
          have hqe : ∀ j, w4.cell? ⟨wb.heap.size, j, none⟩ = wd.cell? ⟨wb.heap.size, j, none⟩ := fun j => (World.cell?_of_block (hgrow.block wb.heap.size (by simp; omega) (fun e => hwx e.symm))).trans ((((Below.refl wd.heap.size wd).drew.alloc (Nat.le_refl _) (.cells #[.int .i64 b.i, .int .i64 b.l, .int .i64 b.w, .int .i64 b.d, .int .i64 b.s, .int .i64 b.c] 29)).cell (p := ⟨wb.heap.size, j, none⟩) hwa))
          have Q4 : BxB w4 wb.heap.size b := ⟨(hqe 0).trans q0, (hqe 1).trans q1, (hqe 2).trans q2, (hqe 3).trans q3, (hqe 4).trans q4, (hqe 5).trans q5⟩
          have hq5 : ∀ (q j : Nat) (u : Value), q ≠ g0 → (w4.setCell ⟨g0, M'.length, none⟩ u).cell? ⟨q, j, none⟩ = w4.cell? ⟨q, j, none⟩ := fun q j u hq => World.cell?_of_block (Below.heap_setCell w4 ⟨g0, M'.length, none⟩ u q hq)
          have P5 := (hq5 q 1 (.slice (some ⟨g3, 0, none⟩) (r.length + 1) cap) (by omega)).trans (HOa.out.below hb4 (by omega)).c1
          have Q5 : BxB (w4.setCell ⟨g0, M'.length, none⟩ (.slice (some ⟨g3, 0, none⟩) (r.length + 1) cap)) wb.heap.size b := ⟨(hq5 _ 0 _ (by omega)).trans Q4.1, (hq5 _ 1 _ (by omega)).trans Q4.2.1, (hq5 _ 2 _ (by omega)).trans Q4.2.2.1, (hq5 _ 3 _ (by omega)).trans Q4.2.2.2.1, (hq5 _ 4 _ (by omega)).trans Q4.2.2.2.2.1, (hq5 _ 5 _ (by omega)).trans Q4.2.2.2.2.2⟩
          have HD4 := vl (hDW.out.old hb4 (by omega) hpw)
          have HO4 := vl (HOa.out.below hb4 (by omega))
          have P4 := HO4.out.c1
          have HR4 := vl (HRa.out.below hb4 (by omega))
          have hw64 : w2.heap.size ≤ w4.heap.size := Nat.le_trans (by omega) hb4.size
          obtain ⟨Q40, Q41, Q42, Q43, Q44, Q45⟩ := Q4
          obtain ⟨Q50, Q51, Q52, Q53, Q54, Q55⟩ := Q5
          clear hown hown' hgrow hat hlt3 hbW hb4 hwx hqe hq5
          refine hK.out _ _ ⟨P4, Q40, Q41, Q42, Q43, Q44, Q45, d1⟩ (fun hHeld => ?_)
          clear hK K
          try simp only [Act.put, List.setIfInBounds_toArray, List.set_cons_zero, List.set_cons_succ]
          refine wpAnyH_take (i := 17) (oi := _) (v := ?_) rfl (by kernel_rfl) (by kernel_rfl) (by kernel_rfl) (fun _ _ _ h => h) (Or.inl ⟨by rfl, ?_⟩) (by assumption) ?_
          rotate_left 1
          · intro w hSw
            try dsimp only at hSw
            go_simp
            try with_reducible rfl
          try simp only [Act.put, List.setIfInBounds_toArray, List.set_cons_zero, List.set_cons_succ]
          refine wpAnyH_done (by kernel_rfl) ?_ _
          unfold QL
          go_simp
          all_goals
            rw [hrl] at HG4
            clear P4 P5 d1 d2 Q40 Q41 Q42 Q43 Q44 Q45 Q50 Q51 Q52 Q53 Q54 Q55 o1a c1a c1b q0 q1 q2 q3 q4 q5 iw1 iw2 iw3 iw4
            go_wp2
            go_roundw
            case rel => exact ⟨k + 1, _, _, M' ++ [r ++ [b]], by omega, by go_num, fun _ => by simp, vl (HT.out.more HBD.out), vl (HD4.out.put (by omega) hpw), vl (HR4.out.far _ (by omega)), vl (HO4.out.far _ (by omega)), vl HG4.out, by simpa using hw64⟩
            case measure => simp [intOf]; omega
    · obtain rfl : k = m + 1 := by omega
      have r0 := HR.out.c0; have r1 := HR.out.c1; have r2 := HR.out.f0; have r3 := HR.out.f1
      have x0 := HX.out.c0; have x1 := HX.out.c1
      obtain ⟨V, d, rfl, _⟩ := own_src HM6.out.own
      obtain ⟨A, c, g, G, eA, hcc, hO⟩ := HM6.out.ownT hw6
      injection eA with e1 e2 e3
      subst e1; subst e3
      have HO := vl hO
      clear hO
      go_wp2
      refine bodyPost_ret (v := .agg #[.bool up, .slice V M.length d]) (by simp [results, Try.results96, go_sem, r0, r1]) rfl ?_
      have t : ∀ W' : World, Touch wr W' w.heap.size (w.heap.size + 1) → Drawn p w W' → TrainDrawn p id w (.returned (.agg #[.bool up, .slice V M.length d])) W' := fun W' t hd =>
        ⟨up, V, d, g, m + 1, G, M, rfl, by omega, by omega, HT.out, hcc, (HO.out.touch t (Or.inr (by omega))).wide (by omega) t.size, hd⟩
      refine t _ ?_ ((HD.out.put (Nat.le_refl _) hpw).put (Nat.le_refl _) hpw)
      iterate 2 (with_reducible refine Touch.set ?_ _ _ _ (by omega) (by omega))
      exact Touch.refl _ _ _
end Go.Proofs.Ytmfeleocjmdooaa.C1
