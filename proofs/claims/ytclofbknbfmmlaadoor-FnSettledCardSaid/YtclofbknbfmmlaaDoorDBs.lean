/- The drawn book, with its amounts; and the mathematics of its settlement. -/
import Derived.Test.YtclofbknbfmmlaaDoorDBk
import Derived.Test.YtclofbknbfmmlaaDoorStlM
import Derived.Test.YtclofbknbfmmlaaDoorBal
namespace Go.Proofs.YtclofbknbfmmlaaDoor.C1
open Go.ChangeShapes Go.WideShapes Go.ChangeAt Go.RowKit Go.Proofs.YtclofbknbfmmlaaDoor.Lift Go.Proofs.YtclofbknbfmmlaaDoor.ShareM
set_option linter.unusedVariables false

def sOk (b : En) : Bool := enOk b && decide (b.a ≤ 500)
def EntryDrS (p : Nat) (w : World) (e : Ending) (w' : World) : Prop := ∃ b : En, e = .returned (.agg #[.int .i64 b.f, .int .i64 b.t, .int .i64 b.a, .int .i64 b.m, .int .i64 b.y]) ∧ sOk b = true ∧ Drawn p w w'
set_option maxHeartbeats 2000000 in
theorem entry_drS (p : Nat) (w : World) (hc : Cur w p) : Calls Tryd.prog 89 #[.pointer (some ⟨p, 0, none⟩)] w (EntryDrS p w) := by
  have HC := vl hc
  have hpw := hc.lt
  have HR0 := vl (zr w)
  have hne : w.heap.size ≠ p := by omega
  have HN := vl hne
  clear hc hne
  go_enter Tryd.func89, Tryd.ntmps89
  go_wp2_with fail
  refine (below_draw p 12 _ (HC.out.below ((Below.refl _ _).alloc (Nat.le_refl _) _)) (by omega) (by omega)).mono ?_
  rintro e w1 ⟨x1, a1, b1, rfl, hd1⟩
  have HR1 := vl (HR0.out.drawn hd1 HN.out)
  have HD1 := vl (((Drawn.refl HC.out).alloc _).trans hd1)
  clear hd1
  go_wp2_with fail
  refine (below_draw p 5 _ HD1.out.cur (by omega) (by omega)).mono ?_
  rintro e w2 ⟨x2, a2, b2, rfl, hd2⟩
  have HR2 := vl (HR1.out.drawn hd2 HN.out)
  have HD2 := vl (HD1.out.trans hd2)
  clear hd2
  go_wp2_with fail
  refine (below_draw p 500 _ HD2.out.cur (by omega) (by omega)).mono ?_
  rintro e w3 ⟨x3, a3, b3, rfl, hd3⟩
  have HR3 := vl (HR2.out.drawn hd3 HN.out)
  have HD3 := vl (HD2.out.trans hd3)
  clear hd3
  go_wp2_with fail
  refine (below_draw p 90 _ HD3.out.cur (by omega) (by omega)).mono ?_
  rintro e w4 ⟨x4, a4, b4, rfl, hd4⟩
  have HR4 := vl (HR3.out.drawn hd4 HN.out)
  have HD4 := vl (HD3.out.trans hd4)
  clear hd4
  go_wp2_with fail
  refine (below_draw p 90 _ HD4.out.cur (by omega) (by omega)).mono ?_
  rintro e w5 ⟨x5, a5, b5, rfl, hd5⟩
  have HR5 := vl (HR4.out.drawn hd5 HN.out)
  have HD5 := vl (HD4.out.trans hd5)
  clear hd5
  obtain ⟨z0, z1, z2, z3, z4⟩ := HR5.out.at
  obtain ⟨f0, f1, f2, f3, f4⟩ := HR5.out.free
  obtain ⟨r0, r1⟩ := pos_rem (x1 + 1 + x2) 12 (by omega) (by omega)
  go_wp2
  have HD := vl (((((HD5.out.set1 (j := 0) (u := .int .i64 x1) (Nat.le_refl _) hpw).set1 (j := 1) (u := .int .i64 ((x1 + 1 + x2) % 12)) (Nat.le_refl _) hpw).set1 (j := 2) (u := .int .i64 (1 + x3)) (Nat.le_refl _) hpw).set1 (j := 3) (u := .int .i64 x4) (Nat.le_refl _) hpw).set1 (j := 4) (u := .int .i64 x5) (Nat.le_refl _) hpw)
  obtain ⟨y0, y1, y2, y3, y4⟩ := zset5 HR5.out x1 ((x1 + 1 + x2) % 12) (1 + x3) x4 x5
  generalize hW : (((((w5.setCell ⟨w.heap.size, 0, none⟩ (.int .i64 x1)).setCell ⟨w.heap.size, 1, none⟩ (.int .i64 ((x1 + 1 + x2) % 12))).setCell ⟨w.heap.size, 2, none⟩ (.int .i64 (1 + x3))).setCell ⟨w.heap.size, 3, none⟩ (.int .i64 x4)).setCell ⟨w.heap.size, 4, none⟩ (.int .i64 x5)) = w9 at HD y0 y1 y2 y3 y4 ⊢
  clear hW
  simp only at y0 y1 y2 y3 y4
  have hv := enOk_of (b := ⟨x1, (x1 + 1 + x2) % 12, 1 + x3, x4, x5⟩) (by show x1 ≠ (x1 + 1 + x2) % 12; omega) (by show 0 ≤ x1 ∧ x1 ≤ 11; omega) (by show 0 ≤ (x1 + 1 + x2) % 12 ∧ (x1 + 1 + x2) % 12 ≤ 11; omega) (by show 1 ≤ 1 + x3 ∧ 1 + x3 ≤ 1000000000; omega) (by show 0 ≤ x4 ∧ x4 ≤ 1000000; omega) (by show 0 ≤ x5 ∧ x5 ≤ 9999; omega)
  have HV := vl (show sOk ⟨x1, (x1 + 1 + x2) % 12, 1 + x3, x4, x5⟩ = true from by unfold sOk; rw [hv, Bool.true_and]; exact decide_eq_true (by show 1 + x3 ≤ 500; omega))
  clear hv
  refine bodyPost_ret (v := .agg #[.int .i64 x1, .int .i64 ((x1 + 1 + x2) % 12), .int .i64 (1 + x3), .int .i64 x4, .int .i64 x5]) (by simp [results, Tryd.results89, go_sem, y0, y1, y2, y3, y4]) rfl ?_
  exact ⟨⟨x1, (x1 + 1 + x2) % 12, 1 + x3, x4, x5⟩, rfl, HV.out, HD.out⟩
def BookToS (p : Nat) (w : World) (e : Ending) (w' : World) : Prop := ∃ (v : Value) (L : List En), e = .returned v ∧ L.all sOk = true ∧ L.length ≤ 8 ∧ w'.ownsRow w.heap.size 36 5 v L.length (enl L) ∧ Drawn p w w'
set_option maxHeartbeats 2000000 in
theorem book_drS (p : Nat) (w : World) (hc : Cur w p) : Calls Tryd.prog 50 #[.pointer (some ⟨p, 0, none⟩)] w (BookToS p w) := by
  obtain ⟨i0, hi, hz0, hz1, hz2⟩ := info_parts infoE
  have HC := vl hc
  have hpw := hc.lt
  clear hc
  have HO0 := vl (World.ownsRow_made (size := 5) (e := 36) w #[] 0 (Nat.le_refl _) (by decide) rfl)
  go_enter Tryd.func50, Tryd.ntmps50
  go_wp2_with fail
  refine (below_draw p 9 _ (HC.out.below ((Below.refl _ _).alloc (Nat.le_refl _) _)) (by omega) (by omega)).mono ?_
  rintro e w2 ⟨t, t0, t1, rfl, hd2⟩
  have HO2 := vl (own_drawn hd2 hpw HO0.out)
  have HD2 := vl (((Drawn.refl HC.out).alloc _).trans hd2)
  clear hd2 HO0
  go_wp2
  go_loopw [3, 4] (fun v s4 wr => ∃ (L : List En) (m : Int), s4 = .int .i64 m ∧ 0 ≤ m ∧ L.length + m ≤ 8 ∧ Veil (L.all sOk = true) ∧ Veil (Drawn p w wr) ∧ Veil (wr.ownsRow w.heap.size 36 5 v L.length (enl L))) (fun _ s4 _ => (intOf s4).toNat)
  case atStart => exact ⟨[], t, rfl, by omega, by simp; omega, vl rfl, HD2, HO2⟩
  case round =>
    obtain ⟨L, m, rfl, hm0, hm8, HA, HD, HO⟩ := hrel
    by_cases hm : 0 < m
    · have hlen : (L.length : Int) ≤ 7 := by omega
      go_wp2_with fail
      refine (entry_drS p _ HD.out.cur).mono ?_
      rintro e w4 ⟨b, rfl, hb, hd4⟩
      have HO4 := vl (own_drawn hd4 hpw HO.out)
      have HD5 := vl ((HD.out.trans hd4).alloc (.cells #[.int .i64 b.f, .int .i64 b.t, .int .i64 b.a, .int .i64 b.m, .int .i64 b.y] 36))
      have hs4 := (HD.out.trans hd4).2.2.1
      have HA4 := vl (show (L ++ [b]).all sOk = true from by rw [List.all_append, HA.out]; simp [hb])
      clear hb hd4 HD HO
      go_wp2_with (at_builtin; refine wpList_append_own _ rfl _ _ 32 rfl w.heap.size 36 i0 _ 5 40 Tryd.underlying32 hi hz0 hz1 hz2 rfl (by decide) _ _ _ rfl (HO4.out.alloc _) ⟨w4.heap.size, 0, none⟩ 1 1 b.cells rfl rfl ?c1 ?c2 ?c3 ?c4 ?c5 ?_)
      case c1 => exact newsE w4 w4.heap.size b 36 rfl
      case c2 => exact enOne b
      case c3 => unfold maxLen; omega
      case c4 => omega
      case c5 => simp; omega
      intro v' w6 hown6 hgrow _
      have HD6 := vl (HD5.out.app hpw hgrow (fun k hk => (HO4.out.lt k hk).1))
      have HO6 := vl (show w6.ownsRow w.heap.size 36 5 v' (L ++ [b]).length (enl (L ++ [b])) from by rw [enl_app, enl_one', List.length_append, List.length_singleton]; exact hown6)
      clear hown6 hgrow HO4 HD5
      go_wp2
      go_roundw
      case rel => exact ⟨L ++ [b], m - 1, by go_num, by omega, by simp; omega, HA4, HD6, HO6⟩
      case measure => simp [intOf]; omega
    · go_wp2
      go_ret
      exact ⟨_, L, rfl, HA.out, by omega, HO.out, HD.out⟩
set_option maxHeartbeats 1000000 in
theorem drawbookS (A : Option Addr) (n cap : Nat) (f : Nat → Int) (w : World) (hn : n ≤ 1048576) (hs : SrcB w A n f) :
    Calls Tryd.prog 17 #[.slice A n cap] w fun e w' => (∃ A' c' g L, e = .returned (.slice A' (List.length L) c') ∧ L.all sOk = true ∧ L.length ≤ 8 ∧ RowE w' A' L g ∧ w.heap.size ≤ g ∧ (0 < L.length → g < w'.heap.size)) ∧ Below w.heap.size w w' := by
  have HS := vl hs
  clear hs
  go_enter Tryd.func17, Tryd.ntmps17
  go_wp2_with fail
  refine (new_draw _ _ _ f _ hn HS.out).mono ?_
  rintro e w1 ⟨rfl, hb1, hs1, hc1⟩
  have HB1 := vl hb1
  have HC1 := vl hc1
  clear hb1 hc1
  go_wp2_with fail
  refine (book_drS _ _ HC1.out).mono ?_
  rintro e w2 ⟨v, L, rfl, hA, hl, ho, hd⟩
  have HB2 := vl (HB1.out.trans (hd.below (Nat.le_refl _)))
  have hs2 := hd.2.2.1
  obtain ⟨A', c', g, rfl, _, h1, _, h3, h4⟩ := rowE_of_own ho hs2
  have HX := vl (show (∃ A' c' g L, Ending.returned (.slice _ _ _) = .returned (.slice A' (List.length L) c') ∧ L.all sOk = true ∧ L.length ≤ 8 ∧ RowE w2 A' L g ∧ w.heap.size ≤ g ∧ (0 < L.length → g < w2.heap.size)) from ⟨A', c', g, L, rfl, hA, hl, h1, by omega, h4⟩)
  clear hA hl ho hd h1 h3 h4
  go_wp2
  go_ret
  exact ⟨HX.out, HB2.out⟩
theorem sOk_ok {b : En} (h : sOk b = true) : enOk b = true ∧ b.a ≤ 500 := by unfold sOk at h; simpa using h
theorem all_ok {L : List En} (h : L.all sOk = true) : L.all enOk = true := List.all_eq_true.2 fun b hb => (sOk_ok (List.all_eq_true.1 h b hb)).1
theorem bal_app (L M : List En) (k : Int) : bal (L ++ M) k = bal L k + bal M k := by
  induction L with
  | nil => simp [bal]
  | cons x L ih => simp only [List.cons_append, bal, ih]; omega
theorem sum_add (f g : Nat → Int) : ∀ n, sumTo (fun i => f i + g i) n = sumTo f n + sumTo g n
  | 0 => by simp [sumTo]
  | n + 1 => by simp only [sumTo]; rw [sum_add f g n]; omega
theorem sum_one {a : Int} {h n : Nat} (hn : h < n) : sumTo (fun i => if (h : Int) = (i : Int) then a else 0) n = a := by
  have h1 := sum_upd (fun _ => 0) h a hn
  rw [sum_const] at h1
  rw [sum_congr (g := upd (fun _ => 0) h a) (fun i hi => by
    unfold upd
    by_cases e : i = h
    · rw [if_pos e, if_pos (by omega)]
    · rw [if_neg e, if_neg (by omega)])]
  rw [h1]; simp
theorem balE_sum {e : En} (h : enOk e = true) : sumTo (fun i => balE e (i : Int)) 12 = 0 := by
  obtain ⟨_, h1, h2, _⟩ := enOk_in h
  obtain ⟨p, hp⟩ : ∃ p : Nat, e.f = (p : Int) := ⟨e.f.toNat, by omega⟩
  obtain ⟨q, hq⟩ : ∃ q : Nat, e.t = (q : Int) := ⟨e.t.toNat, by omega⟩
  have a1 := sum_one (a := e.a) (h := q) (n := 12) (by omega)
  have a2 := sum_one (a := e.a) (h := p) (n := 12) (by omega)
  have a3 := sum_add (fun i => balE e (i : Int)) (fun i => if (p : Int) = (i : Int) then e.a else 0) 12
  have a4 : sumTo (fun i => balE e (i : Int) + (if (p : Int) = (i : Int) then e.a else 0)) 12 = sumTo (fun i => if (q : Int) = (i : Int) then e.a else 0) 12 := sum_congr (fun i hi => by unfold balE; rw [hp, hq]; omega)
  rw [a4, a1] at a3
  omega
theorem bal_sum {L : List En} (h : L.all enOk = true) : sumTo (fun i => bal L (i : Int)) 12 = 0 := by
  induction L with
  | nil => simp [bal, sum_const]
  | cons e L ih =>
    simp only [List.all_cons, Bool.and_eq_true] at h
    have := sum_add (fun i => balE e (i : Int)) (fun i => bal L (i : Int)) 12
    rw [balE_sum h.1, ih h.2] at this
    simpa [bal] using this
theorem bal_small {L : List En} (h : L.all sOk = true) (k : Int) : -(500 * (L.length : Int)) ≤ bal L k ∧ bal L k ≤ 500 * (L.length : Int) := by
  induction L with
  | nil => simp [bal]
  | cons e L ih =>
    simp only [List.all_cons, Bool.and_eq_true] at h
    have h1 := ih h.2
    obtain ⟨h0, h4⟩ := sOk_ok h.1
    obtain ⟨_, _, _, h5, _⟩ := enOk_in h0
    simp only [bal, balE, List.length_cons]
    split <;> split <;> omega
theorem book_sti {L : List En} (h : L.all sOk = true) (hl : L.length ≤ 8) : StI (fun i => bal L (i : Int)) 12 :=
  ⟨Nat.le_refl _, fun i hi => by have := bal_small h (i : Int); show -1000000000 ≤ bal L (i : Int) ∧ bal L (i : Int) ≤ 1000000000; omega, bal_sum (all_ok h)⟩
theorem ent_ok {Z : Nat → Int} (h : StI Z 12) (ho : owes Z 12) : enOk (entZ Z 12 50) = true := by
  obtain ⟨a1, a2, p, q, hne⟩ := h.pos ho
  obtain ⟨b0, b1, b2, b3⟩ := h.amt ho
  exact enOk_of (by show (hiTo Z 12 : Int) ≠ (loTo Z 12 : Int); omega) (by show 0 ≤ (hiTo Z 12 : Int) ∧ (hiTo Z 12 : Int) ≤ 11; omega) (by show 0 ≤ (loTo Z 12 : Int) ∧ (loTo Z 12 : Int) ≤ 11; omega) (by show 1 ≤ amtZ Z 12 ∧ amtZ Z 12 ≤ 1000000000; omega) (by show (0 : Int) ≤ 50 ∧ (50 : Int) ≤ 1000000; omega) (by show (0 : Int) ≤ 0 ∧ (0 : Int) ≤ 9999; omega)
theorem setl_all : ∀ (k : Nat) (Z : Nat → Int), StI Z 12 → (setl 12 50 k Z).all enOk = true
  | 0, _, _ => rfl
  | k + 1, Z, h => by
    by_cases ho : owes Z 12
    · rw [setl_yes ho, List.all_cons, ent_ok h ho, setl_all k _ (h.next ho)]; rfl
    · rw [setl_no ho]; rfl
theorem all_zero {Z : Nat → Int} {n : Nat} (h : StI Z n) (ho : ¬ owes Z n) : ∀ i, i < n → Z i = 0 := fun i hi => by
  have h0 : Z (hiTo Z n) = 0 := by
    by_cases h1 : Z (hiTo Z n) = 0
    · exact h1
    · exact absurd ⟨by omega, h1⟩ ho
  exact sum_zero_of (fun j hj => by have := hi_ge Z n j hj; omega) h.s i hi
theorem next_bal {Z : Nat → Int} (h : StI Z 12) (ho : owes Z 12) (j : Nat) : nxtZ Z 12 j = Z j + balE (entZ Z 12 50) (j : Int) := by
  obtain ⟨a1, a2, p, q, hne⟩ := h.pos ho
  have e1 : balE (entZ Z 12 50) (j : Int) = (if (loTo Z 12 : Int) = (j : Int) then amtZ Z 12 else 0) - (if (hiTo Z 12 : Int) = (j : Int) then amtZ Z 12 else 0) := rfl
  rw [e1]
  by_cases h1 : j = hiTo Z 12
  · rw [h1, next_hi h ho, if_neg (by omega), if_pos rfl]; omega
  · by_cases h2 : j = loTo Z 12
    · rw [h2, next_lo, if_pos rfl, if_neg (by omega)]; omega
    · rw [next_ne h1 h2, if_neg (by omega), if_neg (by omega)]; omega
theorem setl_bal : ∀ (k : Nat) (Z : Nat → Int), StI Z 12 → cntZ Z 12 ≤ k → ∀ j, j < 12 → Z j + bal (setl 12 50 k Z) (j : Int) = 0
  | 0, Z, h, hc, j, hj => by
    have := cntZ_zero (Z := Z) (n := 12) (by omega) j hj
    simp [setl, bal, this]
  | k + 1, Z, h, hc, j, hj => by
    by_cases ho : owes Z 12
    · have h1 := h.cnt ho
      have h2 := setl_bal k _ (h.next ho) (by omega) j hj
      rw [next_bal h ho] at h2
      rw [setl_yes ho]
      simp only [bal]
      omega
    · rw [setl_no ho]
      have := all_zero h ho j hj
      simp [bal, this]
theorem cnt_two {Z : Nat → Int} (h : StI Z 12) (ho : owes Z 12) : 2 ≤ cntZ Z 12 := by
  obtain ⟨a1, a2, p, q, hne⟩ := h.pos ho
  have h1 := cntZ_lt (Y := upd Z (hiTo Z 12) 0) (Z := Z) (j := hiTo Z 12) (n := 12) a1 (fun i hi hz => by
    unfold upd at hz
    by_cases e : i = hiTo Z 12
    · rw [if_pos e] at hz; exact absurd rfl hz
    · rwa [if_neg e] at hz) (by omega) (upd_at _ _ _)
  have h2 : cntZ (upd Z (hiTo Z 12) 0) 12 ≠ 0 := fun e => by
    have := cntZ_zero e _ a2
    rw [upd_ne (fun e => hne e.symm)] at this
    omega
  omega
theorem setl_few : ∀ (k : Nat) (Z : Nat → Int), StI Z 12 → (setl 12 50 k Z).length = 0 ∨ (setl 12 50 k Z).length + 1 ≤ cntZ Z 12
  | 0, _, _ => Or.inl rfl
  | k + 1, Z, h => by
    by_cases ho : owes Z 12
    · have h1 := h.cnt ho
      have h2 := cnt_two h ho
      rw [setl_yes ho, List.length_cons]
      rcases setl_few k _ (h.next ho) with h3 | h3
      · right; omega
      · right; omega
    · rw [setl_no ho]; exact Or.inl rfl
/-- The settlement of a drawn book. -/
theorem settled {L : List En} (h : L.all sOk = true) (hl : L.length ≤ 8) :
    balN L = 12 ∧ (settleL 12 (fun i => bal L (i : Int)) 50).length < 12 ∧ postB L (settleL 12 (fun i => bal L (i : Int)) 50) = true ∧ postL L (settleL 12 (fun i => bal L (i : Int)) 50) = L ++ settleL 12 (fun i => bal L (i : Int)) 50 ∧
    balN (L ++ settleL 12 (fun i => bal L (i : Int)) 50) = 12 ∧ ∀ j : Nat, j < 12 → bal (L ++ settleL 12 (fun i => bal L (i : Int)) 50) (j : Int) = 0 := by
  have hI := book_sti h hl
  have e := settle_ok (t := 50) (can_iff.2 hI) (by decide)
  have hbk : bkOk L = true := by rw [bk_in (by omega)]; exact all_ok h
  have hlen := cntZ_le (fun i => bal L (i : Int)) 12
  have hf := setl_few 12 _ hI
  have hlt : (setl 12 50 12 (fun i => bal L (i : Int))).length < 12 := by omega
  have hb2 : bkOk (L ++ setl 12 50 12 (fun i => bal L (i : Int))) = true := bk_app hbk (setl_all _ _ hI) (by omega)
  obtain ⟨p1, p2⟩ := post_yes hbk hb2
  rw [e]
  refine ⟨by unfold balN; rw [if_pos hbk], hlt, p1, p2, by unfold balN; rw [if_pos hb2], fun j hj => ?_⟩
  rw [bal_app]
  exact setl_bal 12 _ hI (by omega) j hj
end Go.Proofs.YtclofbknbfmmlaaDoor.C1
