/- Whether a train may enter a lock: of the model and of the program. -/
import Derived.Test.YtmfeleocjmdooaaLkI
import Derived.Test.YtmfeleocjmdooaaBdM
import Derived.Test.YtmfeleocjmdooaaRchL
import Derived.Test.YtmfeleocjmdooaaTrI5
import Derived.Test.YtmfeleocjmdooaaLkW
import Derived.Deep.RegionHeld3
namespace Go.Proofs.Ytmfeleocjmdooaa.C1
open Go.ChangeShapes Go.WideShapes Go.ChangeAt Go.RowKit
set_option linter.unusedVariables false

/-- The sill of the gate that is open. -/
def sillK (k : Lk) : Int := if k.ga = 2 then k.sb else k.sa
def sillI (k : Lk) : Int := if k.ga = 1 then k.sa else k.sb
def gateU (up : Bool) : Int := if up = true then 2 else 1
def mayB (k : Lk) (S : List Tr) (r : Rc) (up : Bool) (T : List (List Bt)) : Bool := lkB k S && (rOk r && (tOk T && (decide (k.ga = gateU up) && decide (draT T ≤ levelR r - sillK k))))
theorem mayB_no1 {k : Lk} {S : List Tr} {r : Rc} {up : Bool} {T : List (List Bt)} (h : lkB k S = false) : mayB k S r up T = false := by unfold mayB; rw [h]; rfl
theorem mayB_no2 {k : Lk} {S : List Tr} {r : Rc} {up : Bool} {T : List (List Bt)} (h : rOk r = false) : mayB k S r up T = false := by unfold mayB; rw [h, Bool.false_and, Bool.and_false]
theorem mayB_no3 {k : Lk} {S : List Tr} {r : Rc} {up : Bool} {T : List (List Bt)} (h : tOk T = false) : mayB k S r up T = false := by unfold mayB; rw [h, Bool.false_and, Bool.and_false, Bool.and_false]
theorem mayB_no4 {k : Lk} {S : List Tr} {r : Rc} {up : Bool} {T : List (List Bt)} (h : k.ga ≠ gateU up) : mayB k S r up T = false := by unfold mayB; rw [decide_eq_false h, Bool.false_and, Bool.and_false, Bool.and_false, Bool.and_false]
theorem mayB_yes {k : Lk} {S : List Tr} {r : Rc} {up : Bool} {T : List (List Bt)} (h1 : lkB k S = true) (h2 : rOk r = true) (h3 : tOk T = true) (h4 : k.ga = gateU up) : mayB k S r up T = decide (draT T ≤ levelR r - sillK k) := by
  unfold mayB; rw [h1, h2, h3, decide_eq_true h4]; rfl
theorem sill_same {k : Lk} {up : Bool} (h : k.ga = gateU up) : sillI k = sillK k := by
  unfold sillI sillK
  cases up
  · have : k.ga = 1 := h
    rw [this]; rfl
  · have : k.ga = 2 := h
    rw [this]; rfl
/-- The boxes of a lock, a reach and a train. -/
structure LRT (w : World) (p : Nat) (k : Lk) (A : Option Addr) (n c : Nat) (q : Nat) (r : Rc) (B D : Option Addr) (b d : Nat) (s : Nat) (up : Bool) (C : Option Addr) (m e : Nat) : Prop where
  x : KBox w p k (.slice A n c)
  y : w.cell? ⟨q, 0, none⟩ = some (.slice B r.n b) ∧ w.cell? ⟨q, 1, none⟩ = some (.int .i64 r.v) ∧ w.cell? ⟨q, 2, none⟩ = some (.slice D r.m d)
  z : TBox w s up C m e
theorem LRT.below {w w' : World} {p : Nat} {k : Lk} {A : Option Addr} {n c q : Nat} {r : Rc} {B D : Option Addr} {b d s : Nat} {up : Bool} {C : Option Addr} {m e : Nat} (h : LRT w p k A n c q r B D b d s up C m e) (hb : Below w.heap.size w w') : LRT w' p k A n c q r B D b d s up C m e :=
  ⟨h.x.below hb, ⟨(hb.cell (cell_lt' h.y.1)).trans h.y.1, (hb.cell (cell_lt' h.y.2.1)).trans h.y.2.1, (hb.cell (cell_lt' h.y.2.2)).trans h.y.2.2⟩, h.z.below hb⟩
theorem LRT.all {w : World} {p : Nat} {k : Lk} {A : Option Addr} {n c q : Nat} {r : Rc} {B D : Option Addr} {b d s : Nat} {up : Bool} {C : Option Addr} {m e : Nat} (h : LRT w p k A n c q r B D b d s up C m e) :
    w.cell? ⟨p, 0, none⟩ = some (.int .i64 k.le) ∧ w.cell? ⟨p, 1, none⟩ = some (.int .i64 k.wi) ∧ w.cell? ⟨p, 2, none⟩ = some (.int .i64 k.sa) ∧ w.cell? ⟨p, 3, none⟩ = some (.int .i64 k.sb) ∧ w.cell? ⟨p, 4, none⟩ = some (.int .i64 k.ba) ∧ w.cell? ⟨p, 5, none⟩ = some (.int .i64 k.ar) ∧ w.cell? ⟨p, 6, none⟩ = some (.int .i64 k.ra) ∧ w.cell? ⟨p, 7, none⟩ = some (.int .i64 k.wa) ∧ w.cell? ⟨p, 8, none⟩ = some (.int .i64 k.ga) ∧ w.cell? ⟨p, 9, none⟩ = some (.slice A n c) ∧ w.cell? ⟨q, 0, none⟩ = some (.slice B r.n b) ∧ w.cell? ⟨q, 1, none⟩ = some (.int .i64 r.v) ∧ w.cell? ⟨q, 2, none⟩ = some (.slice D r.m d) ∧ w.cell? ⟨s, 0, none⟩ = some (.bool up) ∧ w.cell? ⟨s, 1, none⟩ = some (.slice C m e) := by
  obtain ⟨⟨a0, a1, a2, a3, a4, a5, a6, a7, a8, a9⟩, ⟨b0, b1, b2⟩, c0, c1⟩ := h
  exact ⟨a0, a1, a2, a3, a4, a5, a6, a7, a8, a9, b0, b1, b2, c0, c1⟩
theorem S5 {W w w' : World} {p q : Nat} {u0 u1 u2 v0 v1 : Value} (h0 : w.cell? ⟨p, 0, none⟩ = some u0) (h1 : w.cell? ⟨p, 1, none⟩ = some u1) (h2 : w.cell? ⟨p, 2, none⟩ = some u2) (h3 : w.cell? ⟨q, 0, none⟩ = some v0) (h4 : w.cell? ⟨q, 1, none⟩ = some v1) (hb : Below W.heap.size W w) (hb' : Below w.heap.size w w') :
    w'.cell? ⟨p, 0, none⟩ = some u0 ∧ w'.cell? ⟨p, 1, none⟩ = some u1 ∧ w'.cell? ⟨p, 2, none⟩ = some u2 ∧ w'.cell? ⟨q, 0, none⟩ = some v0 ∧ w'.cell? ⟨q, 1, none⟩ = some v1 ∧ Below W.heap.size W w' :=
  ⟨(hb'.cell (cell_lt' h0)).trans h0, (hb'.cell (cell_lt' h1)).trans h1, (hb'.cell (cell_lt' h2)).trans h2, (hb'.cell (cell_lt' h3)).trans h3, (hb'.cell (cell_lt' h4)).trans h4, hb.trans (hb'.mono hb.size)⟩
theorem lrt_new (k : Lk) (A : Option Addr) (c : Nat) (S : List Tr) (r : Rc) (B D : Option Addr) (b d : Nat) (up : Bool) (C : Option Addr) (e : Nat) (T : List (List Bt)) (w : World) :
    LRT (((w.alloc (.cells #[.int .i64 k.le, .int .i64 k.wi, .int .i64 k.sa, .int .i64 k.sb, .int .i64 k.ba, .int .i64 k.ar, .int .i64 k.ra, .int .i64 k.wa, .int .i64 k.ga, .slice A S.length c] 73)).alloc (.cells #[.slice B r.n b, .int .i64 r.v, .slice D r.m d] 92)).alloc (.cells #[.bool up, .slice C T.length e] 26)) w.heap.size k A S.length c (w.heap.size + 1) r B D b d (w.heap.size + 2) up C T.length e ∧ Below w.heap.size w (((w.alloc (.cells #[.int .i64 k.le, .int .i64 k.wi, .int .i64 k.sa, .int .i64 k.sb, .int .i64 k.ba, .int .i64 k.ar, .int .i64 k.ra, .int .i64 k.wa, .int .i64 k.ga, .slice A S.length c] 73)).alloc (.cells #[.slice B r.n b, .int .i64 r.v, .slice D r.m d] 92)).alloc (.cells #[.bool up, .slice C T.length e] 26)) := by
  have hb := (((Below.refl w.heap.size w).alloc (Nat.le_refl _) (.cells #[.int .i64 k.le, .int .i64 k.wi, .int .i64 k.sa, .int .i64 k.sb, .int .i64 k.ba, .int .i64 k.ar, .int .i64 k.ra, .int .i64 k.wa, .int .i64 k.ga, .slice A S.length c] 73)).alloc (by simp) (.cells #[.slice B r.n b, .int .i64 r.v, .slice D r.m d] 92)).alloc (by simp; omega) (.cells #[.bool up, .slice C T.length e] 26)
  refine ⟨⟨?_, ?_, ?_⟩, hb⟩
  · exact (((KBox.new w k (.slice A S.length c) 73).below ((Below.refl _ _).alloc (Nat.le_refl _) (.cells #[.slice B r.n b, .int .i64 r.v, .slice D r.m d] 92))).below ((Below.refl _ _).alloc (Nat.le_refl _) (.cells #[.bool up, .slice C T.length e] 26)))
  · have h := (Box.new (w.alloc (.cells #[.int .i64 k.le, .int .i64 k.wi, .int .i64 k.sa, .int .i64 k.sb, .int .i64 k.ba, .int .i64 k.ar, .int .i64 k.ra, .int .i64 k.wa, .int .i64 k.ga, .slice A S.length c] 73)) (.slice B r.n b) (.int .i64 r.v) (.slice D r.m d) 92).alloc (.cells #[.bool up, .slice C T.length e] 26)
    have h' : Box (((w.alloc (.cells #[.int .i64 k.le, .int .i64 k.wi, .int .i64 k.sa, .int .i64 k.sb, .int .i64 k.ba, .int .i64 k.ar, .int .i64 k.ra, .int .i64 k.wa, .int .i64 k.ga, .slice A S.length c] 73)).alloc (.cells #[.slice B r.n b, .int .i64 r.v, .slice D r.m d] 92)).alloc (.cells #[.bool up, .slice C T.length e] 26)) (w.heap.size + 1) (.slice B r.n b) (.int .i64 r.v) (.slice D r.m d) 92 := by simpa using h
    exact h'.at
  · have h := TBox.new ((w.alloc (.cells #[.int .i64 k.le, .int .i64 k.wi, .int .i64 k.sa, .int .i64 k.sb, .int .i64 k.ba, .int .i64 k.ar, .int .i64 k.ra, .int .i64 k.wa, .int .i64 k.ga, .slice A S.length c] 73)).alloc (.cells #[.slice B r.n b, .int .i64 r.v, .slice D r.m d] 92)) up C T.length e 26
    simpa using h
set_option maxRecDepth 100000 in
set_option maxHeartbeats 4000000 in
theorem deep_spec (k : Lk) (A : Option Addr) (c : Nat) (S : List Tr) (r : Rc) (B D : Option Addr) (b d : Nat) (up : Bool) (C : Option Addr) (e : Nat) (T : List (List Bt)) (w : World) (hk : lkB k S = true) (hn : r.n ≤ 1048576) (hm : r.m ≤ 1048576) (hr : Pts w B r.n r.X r.Y) (hd : Ints w D r.m r.Z) (hmt : Mod T) (ht : Trn w C T) :
    Calls Try.prog 142 #[.agg #[.int .i64 k.le, .int .i64 k.wi, .int .i64 k.sa, .int .i64 k.sb, .int .i64 k.ba, .int .i64 k.ar, .int .i64 k.ra, .int .i64 k.wa, .int .i64 k.ga, .slice A S.length c], .agg #[.slice B r.n b, .int .i64 r.v, .slice D r.m d], .agg #[.bool up, .slice C T.length e]] w fun en w' => en = .returned (.bool (decide (draT T ≤ levelR r - sillK k))) ∧ Below w.heap.size w w' := by
  obtain ⟨hL, hB⟩ := lrt_new k A c S r B D b d up C e T w
  have HB0 := vl hB
  have HR := vl (hr.below hB)
  have HD := vl (hd.below hB)
  have HT := vl (ht.below hB)
  have HMt := vl hmt
  have HI := lk_in hk
  have i0 := HI.sa0; have i1 := HI.sa1; have i2 := HI.sb0; have i3 := HI.sb1
  have HLv := levelR_bd r
  have HDr := draT_bd T
  have HLL := vl hL
  generalize hW : ((w.alloc (.cells #[.int .i64 k.le, .int .i64 k.wi, .int .i64 k.sa, .int .i64 k.sb, .int .i64 k.ba, .int .i64 k.ar, .int .i64 k.ra, .int .i64 k.wa, .int .i64 k.ga, .slice A S.length c] 73)).alloc (.cells #[.slice B r.n b, .int .i64 r.v, .slice D r.m d] 92)).alloc (.cells #[.bool up, .slice C T.length e] 26) = W at *
  obtain ⟨a0, a1, a2, a3, a4, a5, a6, a7, a8, a9, b0, b1, b2, c0, c1⟩ := HLL.out.all
  clear hB hr hd ht hmt HI hk hL
  obtain ⟨lv, hlv⟩ : ∃ lv, levelR r = lv := ⟨_, rfl⟩
  obtain ⟨dr, hdr⟩ : ∃ dr, draT T = dr := ⟨_, rfl⟩
  have HLe := vl (fun (w : World) (hr : Pts w B r.n r.X r.Y) (hd : Ints w D r.m r.Z) => by have h := level_spec r B D b d w hn hm hr hd; rw [hlv] at h; exact h)
  have HDe := vl (fun (w : World) (ht : Trn w C T) => by have h := dra_spec up C e T w HMt.out ht; rw [hdr] at h; exact h)
  rw [hlv] at HLv ⊢
  rw [hdr] at HDr ⊢
  clear hlv hdr
  obtain ⟨l0, l1⟩ := HLv
  obtain ⟨d0, d1⟩ := HDr
  by_cases hg : k.ga = 2
  · have HK := vl (show sillK k = k.sb by unfold sillK; rw [if_pos hg])
    have hg1 : (k.ga == 2) = true := by simp [hg]
    have iw : IntKind.i64.wrap (lv - k.sb) = lv - k.sb := IntWalk.i64_in _ (by omega)
    clear hg
    go_enter Try.func142, Try.ntmps142
    go_wp2
    clear hW
    go_region_held3 (fun w' => w'.cell? ⟨w.heap.size + 1, 0, none⟩ = some (.slice B r.n b) ∧ w'.cell? ⟨w.heap.size + 1, 1, none⟩ = some (.int .i64 r.v) ∧ w'.cell? ⟨w.heap.size + 1, 2, none⟩ = some (.slice D r.m d) ∧ w'.cell? ⟨w.heap.size + 2, 0, none⟩ = some (.bool up) ∧ w'.cell? ⟨w.heap.size + 2, 1, none⟩ = some (.slice C T.length e) ∧ Below W.heap.size W w')
      (first | exact ⟨b0, b1, b2, c0, c1, Below.refl _ _⟩ | exact ⟨b0, b1, b2, c0, c1, (Below.refl _ _).drew⟩ | assumption)
      (first
        | (go_at_call 186; obtain ⟨p0, p1, p2, p3, p4, hb7⟩ : _ ∧ _ ∧ _ ∧ _ ∧ _ ∧ Below W.heap.size W _ := by assumption
           with_reducible refine (HLe.out _ (HR.out.below hb7) (HD.out.below hb7)).mono ?_
           rintro en w' ⟨rfl, hb'⟩
           have S1 := S5 p0 p1 p2 p3 p4 hb7 hb'
           clear hb')
        | (go_at_call 62; obtain ⟨p0, p1, p2, p3, p4, hb7⟩ : _ ∧ _ ∧ _ ∧ _ ∧ _ ∧ Below W.heap.size W _ := by assumption
           with_reducible refine (HDe.out _ (HT.out.below hb7)).mono ?_
           rintro en w' ⟨rfl, hb'⟩
           have S1 := S5 p0 p1 p2 p3 p4 hb7 hb'
           clear hb'))
    all_goals
      obtain ⟨_, _, _, _, _, hb9⟩ : _ ∧ _ ∧ _ ∧ _ ∧ _ ∧ Below W.heap.size W _ := by assumption
      go_wp2
      go_ret
      exact ⟨by rw [HK.out]; rfl, HB0.out.trans (hb9.mono HB0.out.size)⟩
  · have HK := vl (show sillK k = k.sa by unfold sillK; rw [if_neg hg])
    have hg1 : (k.ga == 2) = false := beq_eq_false_iff_ne.2 hg
    have iw : IntKind.i64.wrap (lv - k.sa) = lv - k.sa := IntWalk.i64_in _ (by omega)
    clear hg
    go_enter Try.func142, Try.ntmps142
    go_wp2
    clear hW
    go_region_held3 (fun w' => w'.cell? ⟨w.heap.size + 1, 0, none⟩ = some (.slice B r.n b) ∧ w'.cell? ⟨w.heap.size + 1, 1, none⟩ = some (.int .i64 r.v) ∧ w'.cell? ⟨w.heap.size + 1, 2, none⟩ = some (.slice D r.m d) ∧ w'.cell? ⟨w.heap.size + 2, 0, none⟩ = some (.bool up) ∧ w'.cell? ⟨w.heap.size + 2, 1, none⟩ = some (.slice C T.length e) ∧ Below W.heap.size W w')
      (first | exact ⟨b0, b1, b2, c0, c1, Below.refl _ _⟩ | exact ⟨b0, b1, b2, c0, c1, (Below.refl _ _).drew⟩ | assumption)
      (first
        | (go_at_call 186; obtain ⟨p0, p1, p2, p3, p4, hb7⟩ : _ ∧ _ ∧ _ ∧ _ ∧ _ ∧ Below W.heap.size W _ := by assumption
           with_reducible refine (HLe.out _ (HR.out.below hb7) (HD.out.below hb7)).mono ?_
           rintro en w' ⟨rfl, hb'⟩
           have S1 := S5 p0 p1 p2 p3 p4 hb7 hb'
           clear hb')
        | (go_at_call 62; obtain ⟨p0, p1, p2, p3, p4, hb7⟩ : _ ∧ _ ∧ _ ∧ _ ∧ _ ∧ Below W.heap.size W _ := by assumption
           with_reducible refine (HDe.out _ (HT.out.below hb7)).mono ?_
           rintro en w' ⟨rfl, hb'⟩
           have S1 := S5 p0 p1 p2 p3 p4 hb7 hb'
           clear hb'))
    all_goals
      obtain ⟨_, _, _, _, _, hb9⟩ : _ ∧ _ ∧ _ ∧ _ ∧ _ ∧ Below W.heap.size W _ := by assumption
      go_wp2
      go_ret
      exact ⟨by rw [HK.out]; rfl, HB0.out.trans (hb9.mono HB0.out.size)⟩
set_option maxRecDepth 100000 in
set_option maxHeartbeats 4000000 in
theorem may_spec (k : Lk) (A : Option Addr) (c : Nat) (S : List Tr) (r : Rc) (B D : Option Addr) (b d : Nat) (up : Bool) (C : Option Addr) (e : Nat) (T : List (List Bt)) (w : World) (hm : ModS S) (hp : Trs w A S) (hn : r.n ≤ 1048576) (hmm : r.m ≤ 1048576) (hr : Pts w B r.n r.X r.Y) (hd : Ints w D r.m r.Z) (hmt : Mod T) (ht : Trn w C T) :
    Calls Try.prog 86 #[.agg #[.int .i64 k.le, .int .i64 k.wi, .int .i64 k.sa, .int .i64 k.sb, .int .i64 k.ba, .int .i64 k.ar, .int .i64 k.ra, .int .i64 k.wa, .int .i64 k.ga, .slice A S.length c], .agg #[.slice B r.n b, .int .i64 r.v, .slice D r.m d], .agg #[.bool up, .slice C T.length e]] w fun en w' => en = .returned (.bool (mayB k S r up T)) ∧ Below w.heap.size w w' := by
  obtain ⟨hL, hB⟩ := lrt_new k A c S r B D b d up C e T w
  have HB0 := vl hB
  have HP := vl (hp.below hB)
  have HR := vl (hr.below hB)
  have HD := vl (hd.below hB)
  have HT := vl (ht.below hB)
  have HM := vl hm
  have HMt := vl hmt
  have HL := vl hL
  generalize hW : ((w.alloc (.cells #[.int .i64 k.le, .int .i64 k.wi, .int .i64 k.sa, .int .i64 k.sb, .int .i64 k.ba, .int .i64 k.ar, .int .i64 k.ra, .int .i64 k.wa, .int .i64 k.ga, .slice A S.length c] 73)).alloc (.cells #[.slice B r.n b, .int .i64 r.v, .slice D r.m d] 92)).alloc (.cells #[.bool up, .slice C T.length e] 26) = W at HB0 HP HR HD HT HL
  clear hL hB hp hr hd ht hm hmt
  obtain ⟨a0, a1, a2, a3, a4, a5, a6, a7, a8, a9, b0, b1, b2, c0, c1⟩ := HL.out.all
  go_enter Try.func86, Try.ntmps86
  go_wp2_with fail
  clear hW
  refine (lok_spec k A c S _ HM.out HP.out).mono ?_
  rintro en w1 ⟨rfl, hb1⟩
  have HB1 := vl (HB0.out.trans (hb1.mono HB0.out.size))
  have HL1 := vl (HL.out.below hb1)
  have HC1 := vl hb1
  clear hb1 a0 a1 a2 a3 a4 a5 a6 a7 a8 a9 b0 b1 b2 c0 c1 HL
  obtain ⟨a0, a1, a2, a3, a4, a5, a6, a7, a8, a9, b0, b1, b2, c0, c1⟩ := HL1.out.all
  cases h1 : lkB k S with
  | false =>
    have HE := vl (mayB_no1 (r := r) (up := up) (T := T) h1)
    clear h1
    go_wp2
    go_ret
    exact ⟨ret_bool HE.out.symm, HB1.out⟩
  | true =>
  have H1 := vl h1
  clear h1
  go_wp2_with fail
  refine (ok_spec r B D b d _ hn hmm (HR.out.below HC1.out) (HD.out.below HC1.out)).mono ?_
  rintro en w2 ⟨rfl, hb2⟩
  have HB2 := vl (HB1.out.trans (hb2.mono HB1.out.size))
  have HL2 := vl (HL1.out.below hb2)
  have HC2 := vl (HC1.out.trans (hb2.mono HC1.out.size))
  clear hb2 a0 a1 a2 a3 a4 a5 a6 a7 a8 a9 b0 b1 b2 c0 c1 HL1
  obtain ⟨a0, a1, a2, a3, a4, a5, a6, a7, a8, a9, b0, b1, b2, c0, c1⟩ := HL2.out.all
  cases h2 : rOk r with
  | false =>
    have HE := vl (mayB_no2 (k := k) (S := S) (up := up) (T := T) h2)
    clear h2
    go_wp2
    go_ret
    exact ⟨ret_bool HE.out.symm, HB2.out⟩
  | true =>
  have H2 := vl h2
  clear h2
  go_wp2_with fail
  refine (tok_spec up C e T _ HMt.out (HT.out.below HC2.out)).mono ?_
  rintro en w3 ⟨rfl, hb3⟩
  have HB3 := vl (HB2.out.trans (hb3.mono HB2.out.size))
  have HL3 := vl (HL2.out.below hb3)
  have HC3 := vl (HC2.out.trans (hb3.mono HC2.out.size))
  clear hb3 a0 a1 a2 a3 a4 a5 a6 a7 a8 a9 b0 b1 b2 c0 c1 HL2
  obtain ⟨a0, a1, a2, a3, a4, a5, a6, a7, a8, a9, b0, b1, b2, c0, c1⟩ := HL3.out.all
  cases h3 : tOk T with
  | false =>
    have HE := vl (mayB_no3 (k := k) (S := S) (r := r) (up := up) h3)
    clear h3
    go_wp2
    go_ret
    exact ⟨ret_bool HE.out.symm, HB3.out⟩
  | true =>
  have H3 := vl h3
  clear h3
  cases up with
  | false =>
    by_cases hg : k.ga = 1
    · have HE := vl (mayB_yes (up := false) H1.out H2.out H3.out hg)
      have hg1 : (k.ga == 1) = true := by simp [hg]
      clear hg
      go_wp2_with fail
      refine (deep_spec k A c S r B D b d false C e T _ H1.out hn hmm (HR.out.below HC3.out) (HD.out.below HC3.out) HMt.out (HT.out.below HC3.out)).mono ?_
      rintro en w4 ⟨rfl, hb4⟩
      have HB4 := vl (HB3.out.trans (hb4.mono HB3.out.size))
      clear hb4
      go_wp2
      go_ret
      exact ⟨ret_bool HE.out.symm, HB4.out⟩
    · have HE := vl (mayB_no4 (k := k) (S := S) (r := r) (up := false) (T := T) hg)
      have hg1 : (k.ga == 1) = false := beq_eq_false_iff_ne.2 hg
      clear hg
      go_wp2
      go_ret
      exact ⟨ret_bool HE.out.symm, HB3.out⟩
  | true =>
    by_cases hg : k.ga = 2
    · have HE := vl (mayB_yes (up := true) H1.out H2.out H3.out hg)
      have hg1 : (k.ga == 2) = true := by simp [hg]
      clear hg
      go_wp2_with fail
      refine (deep_spec k A c S r B D b d true C e T _ H1.out hn hmm (HR.out.below HC3.out) (HD.out.below HC3.out) HMt.out (HT.out.below HC3.out)).mono ?_
      rintro en w4 ⟨rfl, hb4⟩
      have HB4 := vl (HB3.out.trans (hb4.mono HB3.out.size))
      clear hb4
      go_wp2
      go_ret
      exact ⟨ret_bool HE.out.symm, HB4.out⟩
    · have HE := vl (mayB_no4 (k := k) (S := S) (r := r) (up := true) (T := T) hg)
      have hg1 : (k.ga == 2) = false := beq_eq_false_iff_ne.2 hg
      clear hg
      go_wp2
      go_ret
      exact ⟨ret_bool HE.out.symm, HB3.out⟩
/-- The sill at a gate. -/
def sillG (k : Lk) (G : Int) : Int := if G = 1 then k.sa else k.sb
theorem sill_ga (k : Lk) : sillG k k.ga = sillI k := rfl
theorem gate_impl (up : Bool) (w : World) : Calls Try.prog 145 #[.bool (!up)] w fun en w' => en = .returned (.int .i64 (gateU up)) ∧ w = w' := by
  cases up
  · go_enter Try.func145, Try.ntmps145
    go_wp2
    go_ret
    exact ⟨rfl, rfl⟩
  · go_enter Try.func145, Try.ntmps145
    go_wp2
    go_ret
    exact ⟨rfl, rfl⟩
set_option maxRecDepth 100000 in
set_option maxHeartbeats 4000000 in
theorem depth_impl (k : Lk) (A : Option Addr) (n c : Nat) (r : Rc) (B D : Option Addr) (b d : Nat) (G : Int) (w : World) (hk : LIn k) (hn : r.n ≤ 1048576) (hm : r.m ≤ 1048576) (hr : Pts w B r.n r.X r.Y) (hd : Ints w D r.m r.Z) :
    Calls Try.prog 146 #[.agg #[.int .i64 k.le, .int .i64 k.wi, .int .i64 k.sa, .int .i64 k.sb, .int .i64 k.ba, .int .i64 k.ar, .int .i64 k.ra, .int .i64 k.wa, .int .i64 k.ga, .slice A n c], .int .i64 G, .agg #[.slice B r.n b, .int .i64 r.v, .slice D r.m d]] w fun en w' => en = .returned (.int .i64 (levelR r - sillG k G)) ∧ Below w.heap.size w w' := by
  have hB := ((Below.refl w.heap.size w).alloc (Nat.le_refl _) (.cells #[.int .i64 k.le, .int .i64 k.wi, .int .i64 k.sa, .int .i64 k.sb, .int .i64 k.ba, .int .i64 k.ar, .int .i64 k.ra, .int .i64 k.wa, .int .i64 k.ga, .slice A n c] 73)).alloc (by simp) (.cells #[.slice B r.n b, .int .i64 r.v, .slice D r.m d] 92)
  have HB0 := vl hB
  have HR := vl (hr.below hB)
  have HD := vl (hd.below hB)
  have hx := (KBox.new w k (.slice A n c) 73).below ((Below.refl _ _).alloc (Nat.le_refl _) (.cells #[.slice B r.n b, .int .i64 r.v, .slice D r.m d] 92))
  have i0 := hk.sa0; have i1 := hk.sa1; have i2 := hk.sb0; have i3 := hk.sb1
  obtain ⟨l0, l1⟩ := levelR_bd r
  obtain ⟨lv, hlv⟩ : ∃ lv, levelR r = lv := ⟨_, rfl⟩
  have HLe := vl (fun (w : World) (hr : Pts w B r.n r.X r.Y) (hd : Ints w D r.m r.Z) => by have h := level_impl r B D b d w hn hm hr hd; rw [hlv] at h; exact h)
  rw [hlv] at l0 l1 ⊢
  have hbx : Box ((w.alloc (.cells #[.int .i64 k.le, .int .i64 k.wi, .int .i64 k.sa, .int .i64 k.sb, .int .i64 k.ba, .int .i64 k.ar, .int .i64 k.ra, .int .i64 k.wa, .int .i64 k.ga, .slice A n c] 73)).alloc (.cells #[.slice B r.n b, .int .i64 r.v, .slice D r.m d] 92)) (w.heap.size + 1) (.slice B r.n b) (.int .i64 r.v) (.slice D r.m d) 92 := by
    have h := Box.new (w.alloc (.cells #[.int .i64 k.le, .int .i64 k.wi, .int .i64 k.sa, .int .i64 k.sb, .int .i64 k.ba, .int .i64 k.ar, .int .i64 k.ra, .int .i64 k.wa, .int .i64 k.ga, .slice A n c] 73)) (.slice B r.n b) (.int .i64 r.v) (.slice D r.m d) 92
    simpa using h
  obtain ⟨b0, b1, b2⟩ := hbx.at
  obtain ⟨a0, a1, a2, a3, a4, a5, a6, a7, a8, a9⟩ := hx
  generalize hW : (w.alloc (.cells #[.int .i64 k.le, .int .i64 k.wi, .int .i64 k.sa, .int .i64 k.sb, .int .i64 k.ba, .int .i64 k.ar, .int .i64 k.ra, .int .i64 k.wa, .int .i64 k.ga, .slice A n c] 73)).alloc (.cells #[.slice B r.n b, .int .i64 r.v, .slice D r.m d] 92) = W at *
  clear hB hr hd hlv hbx a0 a1 a4 a5 a6 a7 a9 hk
  by_cases hg : G = 1
  · have HK := vl (show sillG k G = k.sa by unfold sillG; rw [if_pos hg])
    have hg1 : (G == 1) = true := by simp [hg]
    have iw : IntKind.i64.wrap (lv - k.sa) = lv - k.sa := IntWalk.i64_in _ (by omega)
    clear hg
    go_enter Try.func146, Try.ntmps146
    go_wp2
    clear hW
    go_region_held3 (fun w' => w'.cell? ⟨w.heap.size + 1, 0, none⟩ = some (.slice B r.n b) ∧ w'.cell? ⟨w.heap.size + 1, 1, none⟩ = some (.int .i64 r.v) ∧ w'.cell? ⟨w.heap.size + 1, 2, none⟩ = some (.slice D r.m d) ∧ w'.cell? ⟨w.heap.size, 2, none⟩ = some (.int .i64 k.sa) ∧ Below W.heap.size W w')
      (first | exact ⟨b0, b1, b2, a2, Below.refl _ _⟩ | exact ⟨b0, b1, b2, a2, (Below.refl _ _).drew⟩ | assumption)
      (first
        | (go_at_call 188; obtain ⟨p0, p1, p2, p3, hb7⟩ : _ ∧ _ ∧ _ ∧ _ ∧ Below W.heap.size W _ := by assumption
           with_reducible refine (HLe.out _ (HR.out.below hb7) (HD.out.below hb7)).mono ?_
           rintro en w' ⟨rfl, hb'⟩
           have S1 := And.intro ((hb'.cell (cell_lt' p0)).trans p0) (And.intro ((hb'.cell (cell_lt' p1)).trans p1) (And.intro ((hb'.cell (cell_lt' p2)).trans p2) (And.intro ((hb'.cell (cell_lt' p3)).trans p3) (hb7.trans (hb'.mono hb7.size)))))
           clear hb'))
    all_goals
      obtain ⟨_, _, _, _, hb9⟩ : _ ∧ _ ∧ _ ∧ _ ∧ Below W.heap.size W _ := by assumption
      go_wp2
      go_ret
      exact ⟨by rw [HK.out]; rfl, HB0.out.trans (hb9.mono HB0.out.size)⟩
  · have HK := vl (show sillG k G = k.sb by unfold sillG; rw [if_neg hg])
    have hg1 : (G == 1) = false := beq_eq_false_iff_ne.2 hg
    have iw : IntKind.i64.wrap (lv - k.sb) = lv - k.sb := IntWalk.i64_in _ (by omega)
    clear hg
    go_enter Try.func146, Try.ntmps146
    go_wp2
    clear hW
    go_region_held3 (fun w' => w'.cell? ⟨w.heap.size + 1, 0, none⟩ = some (.slice B r.n b) ∧ w'.cell? ⟨w.heap.size + 1, 1, none⟩ = some (.int .i64 r.v) ∧ w'.cell? ⟨w.heap.size + 1, 2, none⟩ = some (.slice D r.m d) ∧ w'.cell? ⟨w.heap.size, 3, none⟩ = some (.int .i64 k.sb) ∧ Below W.heap.size W w')
      (first | exact ⟨b0, b1, b2, a3, Below.refl _ _⟩ | exact ⟨b0, b1, b2, a3, (Below.refl _ _).drew⟩ | assumption)
      (first
        | (go_at_call 188; obtain ⟨p0, p1, p2, p3, hb7⟩ : _ ∧ _ ∧ _ ∧ _ ∧ Below W.heap.size W _ := by assumption
           with_reducible refine (HLe.out _ (HR.out.below hb7) (HD.out.below hb7)).mono ?_
           rintro en w' ⟨rfl, hb'⟩
           have S1 := And.intro ((hb'.cell (cell_lt' p0)).trans p0) (And.intro ((hb'.cell (cell_lt' p1)).trans p1) (And.intro ((hb'.cell (cell_lt' p2)).trans p2) (And.intro ((hb'.cell (cell_lt' p3)).trans p3) (hb7.trans (hb'.mono hb7.size)))))
           clear hb'))
    all_goals
      obtain ⟨_, _, _, _, hb9⟩ : _ ∧ _ ∧ _ ∧ _ ∧ Below W.heap.size W _ := by assumption
      go_wp2
      go_ret
      exact ⟨by rw [HK.out]; rfl, HB0.out.trans (hb9.mono HB0.out.size)⟩
end Go.Proofs.Ytmfeleocjmdooaa.C1
