/- The laws' own functions on rivers, and a law's argument that is a river. -/
import Derived.Test.YtmfeleocjmdooaaRiv
import Derived.Test.YtmfeleocjmdooaaOpenR
import Derived.Test.YtmfeleocjmdooaaPts
import Derived.StillTailTactics
namespace Go.Proofs.Ytmfeleocjmdooaa.C1
open Go.ChangeShapes Go.WideShapes Go.ChangeAt Go.RowKit Go.Deep Go.Joins Go.Proofs.Ytmfeleocjmdooaa.Opened
set_option linter.unusedVariables false

instance instRc : Inhabited Rc := ⟨nilR⟩
/-- A law's slice of reaches, wherever it lies. -/
def SrcV (w : World) (A : Option Addr) (n : Nat) (R : Nat → Rc) : Prop :=
  0 < n → ∃ ad, A = some ad ∧ ∀ i, i < n → ∃ Ai Di ci di, w.cell? (ad.add (i * 3)) = some (.slice Ai (R i).n ci) ∧ w.cell? ⟨(ad.add (i * 3)).block, (ad.add (i * 3)).off + 1, none⟩ = some (.int .i64 (R i).v) ∧
    w.cell? ⟨(ad.add (i * 3)).block, (ad.add (i * 3)).off + 2, none⟩ = some (.slice Di (R i).m di) ∧ Hid (ArgR w (R i) Ai Di)
theorem ArgR.below {w w' : World} {r : Rc} {A D : Option Addr} (h : ArgR w r A D) (hb : Below w.heap.size w w') : ArgR w' r A D :=
  ⟨h.1, h.2.1, h.2.2.1, h.2.2.2.1, h.2.2.2.2.1.below hb, h.2.2.2.2.2.below hb⟩
theorem SrcV.below {w w' : World} {A : Option Addr} {n : Nat} {R : Nat → Rc} (h : SrcV w A n R) (hb : Below w.heap.size w w') : SrcV w' A n R := fun hn => by
  obtain ⟨ad, e, hc⟩ := h hn
  refine ⟨ad, e, fun i hi => ?_⟩
  obtain ⟨Ai, Di, ci, di, h1, h2, h3, h4⟩ := hc i hi
  exact ⟨Ai, Di, ci, di, (hb.cell (cell_lt h1)).trans h1, (hb.cell (cell_lt h2)).trans h2, (hb.cell (cell_lt h3)).trans h3, Lib.hid (h4.out.below hb)⟩
section
variable {H : Type} {enc : TypeId × Value → H} {w : World} {base : Nat} {spare : Nat → Bool} {held : Bool}
set_option maxRecDepth 100000 in
theorem reach_of_cells {fuel : Nat} {cs : List Value} {x : DataW H × List MemPlace} (h : DataW.trod enc Try.prog w base spare held fuel 87 cs = some x) :
    ∃ (r : Rc) (A D : Option Addr) (c d : Nat), cs = [.slice A r.n c, .int .i64 r.v, .slice D r.m d] ∧ ArgR w r A D := by
  obtain ⟨xs, n, _, _, hlen, hxl, hf⟩ := DataW.trod_struct Try.underlying87 h
  rw [show Try.prog.cellsOf 87 = 3 from by kernel_rfl] at hlen
  match cs, hlen with
  | [c0, c1, c2], _ =>
    have e0 : Try.prog.cellsOf 85 = 1 := by kernel_rfl
    have e1 : Try.prog.cellsOf 3 = 1 := by kernel_rfl
    have e2 : Try.prog.cellsOf 37 = 1 := by kernel_rfl
    have h0 := hf 0 _ rfl
    have h1 := hf 1 _ rfl
    have h2 := hf 2 _ rfl
    match xs, hxl with
    | [y0, y1, y2], _ =>
      simp [e0] at h0
      simp [e1] at h1
      simp [e2] at h2
      obtain ⟨r, A, D, c, d, rfl, rfl, rfl, hr⟩ := reach_cells (y0 := y0) (y1 := y1) (y2 := y2) h0 h1 h2
      exact ⟨r, A, D, c, d, rfl, hr⟩
set_option maxRecDepth 100000 in
theorem open_river {rr : Reach} {b0 : Nat} {v : Value} {d : DataW H} {ps : List MemPlace} (hv : Value.okWide Try.prog w rr b0 48 v) (h : DataW.Trod enc Try.prog w base spare held 48 v d ps) :
    ∃ (A : Option Addr) (n c : Nat) (R : Nat → Rc), v = .slice A n c ∧ n ≤ 9223372036854775807 ∧ SrcV w A n R := by
  obtain ⟨A, n, cap, rfl⟩ := okWide_slice Try.underlying48 hv
  obtain ⟨fuel, hf⟩ := h
  rcases open_slice Try.underlying48 hf with ⟨hcs, _⟩ | ⟨a, len, cap', m, fu, D, Pl, hcs, _, hl, hm, hmm, _, hi⟩
  · have : Value.slice A n cap = .slice none 0 0 := by simpa [Value.cells] using hcs
    injection this with h1 h2 h3
    exact ⟨A, n, cap, fun _ => ⟨0, fun _ => 0, fun _ => 0, 0, 0, fun _ => 0⟩, rfl, by omega, fun h => absurd h (by omega)⟩
  · have : Value.slice A n cap = .slice (some a) len cap' := by simpa [Value.cells] using hcs
    injection this with h1 h2 h3
    subst h1; subst h2; subst h3
    have hle : n ≤ m := by rw [hmm]; split <;> omega
    obtain ⟨R, hR⟩ := choose_lt (α := Rc) (n := n) (p := fun i r => ∃ Ai Di ci di, w.cell? (a.add (i * 3)) = some (.slice Ai r.n ci) ∧ w.cell? ⟨(a.add (i * 3)).block, (a.add (i * 3)).off + 1, none⟩ = some (.int .i64 r.v) ∧
        w.cell? ⟨(a.add (i * 3)).block, (a.add (i * 3)).off + 2, none⟩ = some (.slice Di r.m di) ∧ Hid (ArgR w r Ai Di)) (fun i hin => by
      obtain ⟨cs', hc, htr⟩ := hi i (by omega)
      rw [show Try.prog.cellsOf 87 = 3 from by kernel_rfl] at hc
      obtain ⟨_, hlen, hat⟩ := World.cells?_some hc
      obtain ⟨r, Ai, Di, ci, di, rfl, hr⟩ := reach_of_cells htr
      exact ⟨r, Ai, Di, ci, di, hat 0 (by decide), hat 1 (by decide), hat 2 (by decide), Lib.hid hr⟩)
    refine ⟨some a, n, cap, R, rfl, ?_, fun _ => ⟨a, rfl, hR⟩⟩
    unfold maxLen at hm; omega
end
/-- The sum of the slices' lengths. -/
def szT (R : Nat → Rc) : Nat → Nat
  | 0 => 0
  | k + 1 => szT R k + ((R k).n + (R k).m)
theorem szT_le {R : Nat → Rc} {n k : Nat} (h : k ≤ n) : szT R k ≤ szT R n := by
  obtain ⟨d, rfl⟩ : ∃ d, n = k + d := ⟨n - k, by omega⟩
  clear h
  induction d with
  | zero => exact Nat.le_refl _
  | succ d ih => show _ ≤ szT R (k + d) + _; omega
theorem szT_part {R : Nat → Rc} {n i : Nat} (h : i < n) : (R i).n + (R i).m ≤ szT R n := by
  have := szT_le (R := R) (show i + 1 ≤ n from h)
  have e : szT R (i + 1) = szT R i + ((R i).n + (R i).m) := rfl
  omega
set_option maxHeartbeats 1000000 in
theorem szS_no (A : Option Addr) (n c : Nat) (R : Nat → Rc) (w : World) (hn : n ≤ 9223372036854775807) (h : 1048576 < n + szT R n) (hv : SrcV w A n R) :
    Calls Try.prog 44 #[.slice A n c, .int .i64 1048576] w fun e w' => e = .returned (.int .i64 (-1)) ∧ Below w.heap.size w w' := by
  have HV := Lib.hid hv
  have HS := Lib.hid h
  clear hv h
  by_cases hb : 1048576 < n
  · go_enter Try.func44, Try.ntmps44
    go_wp2
    go_ret
    exact ⟨rfl, Below.refl _ _⟩
  have hn' : n ≤ 1048576 := by omega
  clear hb
  go_enter Try.func44, Try.ntmps44
  go_wp2
  go_loopw [1, 5] (fun l i wr => ∃ k : Nat, k ≤ n ∧ i = .int .i64 k ∧ (n : Int) + (szT R k : Int) ≤ 1048576 ∧ l = .int .i64 (1048576 - (n : Int) - (szT R k : Int)) ∧ Hid (Below w.heap.size w wr)) (fun _ i _ => n - (intOf i).toNat)
  case atStart => exact ⟨0, by omega, rfl, by show (n : Int) + ((0 : Nat) : Int) ≤ _; omega, by show _ = Value.int .i64 (1048576 - (n : Int) - ((0 : Nat) : Int)); rw [Int.natCast_zero, Int.sub_zero], Lib.hid (Below.refl _ _)⟩
  case round =>
    obtain ⟨k, hk, rfl, hsz, rfl, HB⟩ := hrel
    by_cases hlt : k < n
    · obtain ⟨ad, rfl, hc⟩ := (HV.out.below HB.out) (by omega)
      obtain ⟨Ai, Di, ci, di, c0, c1, c2, hr⟩ := hc k hlt
      have n1 := hr.out.1
      have m1 := hr.out.2.1
      have HE := Lib.hid (show szT R (k + 1) = szT R k + ((R k).n + (R k).m) from rfl)
      clear hc
      by_cases hbig : 1048576 - (n : Int) - (szT R k : Int) < (R k).n + (R k).m
      · go_wp2_with fail
        refine (szReach_no _ _ _ _ _ _ _ _ _ (by omega) (by omega) n1 m1 hbig).mono ?_
        rintro e w1 ⟨rfl, hb1⟩
        have HB1 := Lib.hid (HB.out.trans (hb1.mono HB.out.size))
        clear hb1
        go_wp2
        go_ret
        exact ⟨rfl, HB1.out⟩
      · have hok : ((R k).n : Int) + (R k).m ≤ 1048576 - (n : Int) - (szT R k : Int) := by omega
        clear hbig
        go_wp2_with fail
        refine (szReach_yes _ _ _ _ _ _ _ _ _ (by omega) (by omega) hok).mono ?_
        rintro e w1 ⟨rfl, hb1⟩
        have HB1 := Lib.hid (HB.out.trans (hb1.mono HB.out.size))
        clear hb1
        go_wp2
        go_roundw
        case rel => exact ⟨k + 1, by omega, by go_num, by rw [HE.out]; omega, congrArg (Value.int .i64) (by rw [HE.out]; omega), HB1⟩
        case measure => simp [intOf]; omega
    · obtain rfl : k = n := by omega
      exact absurd HS.out (by omega)
set_option maxHeartbeats 1000000 in
theorem szS_yes (A : Option Addr) (n c : Nat) (R : Nat → Rc) (w : World) (h : n + szT R n ≤ 1048576) (hv : SrcV w A n R) :
    Calls Try.prog 44 #[.slice A n c, .int .i64 1048576] w fun e w' => e = .returned (.int .i64 (1048576 - (n : Int) - (szT R n : Int))) ∧ Below w.heap.size w w' := by
  have HV := Lib.hid hv
  have hn' : n ≤ 1048576 := by omega
  clear hv
  go_enter Try.func44, Try.ntmps44
  go_wp2
  go_loopw [1, 5] (fun l i wr => ∃ k : Nat, k ≤ n ∧ i = .int .i64 k ∧ l = .int .i64 (1048576 - (n : Int) - (szT R k : Int)) ∧ Hid (Below w.heap.size w wr)) (fun _ i _ => n - (intOf i).toNat)
  case atStart => exact ⟨0, by omega, rfl, by show _ = Value.int .i64 (1048576 - (n : Int) - ((0 : Nat) : Int)); rw [Int.natCast_zero, Int.sub_zero], Lib.hid (Below.refl _ _)⟩
  case round =>
    obtain ⟨k, hk, rfl, rfl, HB⟩ := hrel
    have q0 := szT_le (R := R) hk
    by_cases hlt : k < n
    · obtain ⟨ad, rfl, hc⟩ := (HV.out.below HB.out) (by omega)
      obtain ⟨Ai, Di, ci, di, c0, c1, c2, hr⟩ := hc k hlt
      have q1 := szT_le (R := R) (show k + 1 ≤ n from hlt)
      have e1 : szT R (k + 1) = szT R k + ((R k).n + (R k).m) := rfl
      have hok : ((R k).n : Int) + (R k).m ≤ 1048576 - (n : Int) - (szT R k : Int) := by omega
      have HE := Lib.hid e1
      have hpos : 0 ≤ 1048576 - (n : Int) - (szT R k : Int) - ((R k).n : Int) - ((R k).m : Int) := by omega
      clear hc e1 q1
      go_wp2_with fail
      refine (szReach_yes _ _ _ _ _ _ _ _ _ (by omega) (by omega) hok).mono ?_
      rintro e w1 ⟨rfl, hb1⟩
      have HB1 := Lib.hid (HB.out.trans (hb1.mono HB.out.size))
      clear hb1
      go_wp2
      go_roundw
      case rel => exact ⟨k + 1, by omega, by go_num, congrArg (Value.int .i64) (by rw [HE.out]; omega), HB1⟩
      case measure => simp [intOf]; omega
    · obtain rfl : k = n := by omega
      go_wp2
      go_ret
      exact ⟨rfl, HB.out⟩
/-- The first k reaches of block g, each with slices of its own behind g. -/
def RvO (w : World) (g k : Nat) (R : Nat → Rc) : Prop :=
  ∀ i, i < k → ∃ Ai Di ci di L g1 g2, w.cell? ⟨g, i * 3, none⟩ = some (.slice Ai (R i).n ci) ∧ w.cell? ⟨g, i * 3 + 1, none⟩ = some (.int .i64 (R i).v) ∧ w.cell? ⟨g, i * 3 + 2, none⟩ = some (.slice Di (R i).m di) ∧ (R i).m ≤ di ∧ Hid (Owned w (g + 1) L Ai Di (R i) g1 g2)
theorem RvO.below {w w' : World} {g k : Nat} {R : Nat → Rc} (h : RvO w g k R) (hb : Below w.heap.size w w') : RvO w' g k R := fun i hi => by
  obtain ⟨Ai, Di, ci, di, L, g1, g2, h1, h2, h3, h4, h5⟩ := h i hi
  exact ⟨Ai, Di, ci, di, L, g1, g2, (hb.cell (cell_lt h1)).trans h1, (hb.cell (cell_lt h2)).trans h2, (hb.cell (cell_lt h3)).trans h3, h4, Lib.hid (h5.out.below hb)⟩
theorem RvO.rvr {w : World} {g k : Nat} {R : Nat → Rc} (h : RvO w g k R) : Rvr w (some ⟨g, 0, none⟩) k R := fun _ => ⟨g, 0, rfl, fun i hi => by
  obtain ⟨Ai, Di, ci, di, L, g1, g2, h1, h2, h3, h4, h5⟩ := h i hi
  rw [Nat.zero_add]
  exact ⟨Ai, Di, ci, di, h1, h2, h3, h4, Lib.hid h5.out.pts, Lib.hid h5.out.ints⟩⟩
theorem RvO.put {w : World} {g k : Nat} {R : Nat → Rc} (h : RvO w g k R) {Ai Di : Option Addr} {ci di L g1 g2 : Nat} {u0 u1 u2 : Value} (c0 : w.cell? ⟨g, k * 3, none⟩ = some u0) (c1 : w.cell? ⟨g, k * 3 + 1, none⟩ = some u1) (c2 : w.cell? ⟨g, k * 3 + 2, none⟩ = some u2) (hcd : (R k).m ≤ di) (ho : Owned w (g + 1) L Ai Di (R k) g1 g2) :
    RvO (((w.setCell ⟨g, k * 3, none⟩ (.slice Ai (R k).n ci)).setCell ⟨g, k * 3 + 1, none⟩ (.int .i64 (R k).v)).setCell ⟨g, k * 3 + 2, none⟩ (.slice Di (R k).m di)) g (k + 1) R := by
  have t := (((Touch.refl w g (g + 1)).set g (k * 3) (.slice Ai (R k).n ci) (Nat.le_refl _) (Nat.lt_succ_self _)).set g (k * 3 + 1) (.int .i64 (R k).v) (Nat.le_refl _) (Nat.lt_succ_self _)).set g (k * 3 + 2) (.slice Di (R k).m di) (Nat.le_refl _) (Nat.lt_succ_self _)
  have ne (a b : Nat) (h : a ≠ b) : (⟨g, a, none⟩ : Addr) ≠ ⟨g, b, none⟩ := fun e => h (by injection e with _ e)
  have oth {w : World} {a b : Nat} {v : Value} (h : b ≠ a) : (w.setCell ⟨g, a, none⟩ v).cell? ⟨g, b, none⟩ = w.cell? ⟨g, b, none⟩ := World.cell?_setCell_other _ _ _ _ (by first | exact ne _ _ h | exact ne _ _ (Ne.symm h))
  intro i hi
  by_cases e : i = k
  · subst e
    refine ⟨Ai, Di, ci, di, L, g1, g2, ?_, ?_, ?_, hcd, Lib.hid (ho.touch t (Or.inr (Nat.le_refl _)))⟩
    · rw [oth (by omega), oth (by omega)]; exact World.cell?_setCell_same _ _ _ c0
    · rw [oth (by omega)]; exact World.cell?_setCell_same _ _ _ ((oth (by omega)).trans c1)
    · exact World.cell?_setCell_same _ _ _ ((oth (by omega)).trans ((oth (by omega)).trans c2))
  · obtain ⟨Ai', Di', ci', di', L', g1', g2', h1, h2, h3, h4, h5⟩ := h i (by omega)
    refine ⟨Ai', Di', ci', di', L', g1', g2', ?_, ?_, ?_, h4, Lib.hid (h5.out.touch t (Or.inr (Nat.le_refl _)))⟩
    · rw [oth (by omega), oth (by omega), oth (by omega)]; exact h1
    · rw [oth (by omega), oth (by omega), oth (by omega)]; exact h2
    · rw [oth (by omega), oth (by omega), oth (by omega)]; exact h3
/-- The first m cells of block g are there, and may be written. -/
def Room (w : World) (g m : Nat) : Prop := ∀ j, j < m → (∃ u, w.cell? ⟨g, j, none⟩ = some u) ∧ w.frozen? ⟨g, j, none⟩ = false
theorem room_new {w : World} {g m : Nat} {cs : Array Value} {t : TypeId} (h : w.heap[g]? = some (.cells cs t (0, 0))) (hm : m ≤ cs.size) : Room w g m := fun j hj => by
  have hj' : j < cs.size := by omega
  exact ⟨⟨cs[j], by simp [World.cell?, h, hj']⟩, by simp [World.frozen?, h]⟩
theorem Room.below {w w' : World} {g m : Nat} (h : Room w g m) (hb : Below w.heap.size w w') : Room w' g m := fun j hj => by
  obtain ⟨⟨u, hu⟩, hf⟩ := h j hj
  exact ⟨⟨u, (hb.cell (cell_lt hu)).trans hu⟩, (hb.frozen (p := ⟨g, j, none⟩) (cell_lt hu)).trans hf⟩
theorem Room.set {w : World} {g m : Nat} (h : Room w g m) (k : Nat) (v : Value) : Room (w.setCell ⟨g, k, none⟩ v) g m := fun j hj => by
  obtain ⟨⟨u, hu⟩, hf⟩ := h j hj
  refine ⟨?_, by rw [World.frozen?_setCell]; exact hf⟩
  by_cases e : j = k
  · subst e; exact ⟨v, World.cell?_setCell_same _ _ _ hu⟩
  · exact ⟨u, (World.cell?_setCell_other _ _ _ _ (by intro h; injection h with _ h; omega)).trans hu⟩
theorem infoR : (Try.prog.info? 92).map (fun i => (i.zero, i.size, i.bytes)) = some (some (.agg #[.slice none 0 0, .int .i64 0, .slice none 0 0]), 3, 56) := by kernel_rfl
set_option maxHeartbeats 2000000 in
theorem toReachS (A : Option Addr) (n c : Nat) (R : Nat → Rc) (w : World) (hn : n ≤ 1048576) (hs : Small n R) (hv : SrcV w A n R) :
    Calls Try.prog 46 #[.slice A n c] w fun e w' => e = .returned (.slice (some ⟨w.heap.size, 0, none⟩) n n) ∧ Hid (RvO w' w.heap.size n R) ∧ Below w.heap.size w w' := by
  obtain ⟨i0, hi, hz0, hz1, hz2⟩ := info_parts infoR
  have hmk := make_eq (P := Try.prog) 51 92 i0 _ 3 56 Try.underlying51 hi hz0 hz1 hz2 n (by omega) (by omega)
  have HV := Lib.hid hv
  have HS := Lib.hid hs
  have HRoom := Lib.hid (show Room (w.alloc (.cells (madeCells #[.slice none 0 0, .int .i64 0, .slice none 0 0] (n * 3)) 92)) w.heap.size (n * 3) from room_new (heap_alloc_new w _) (by rw [size_madeCells]; exact Nat.le_refl _))
  clear hv hs
  go_enter Try.func46, Try.ntmps46
  go_wp2
  clear hmk hi hz0 hz1 hz2
  go_loopw [4] (fun i wr => ∃ k : Nat, k ≤ n ∧ i = .int .i64 k ∧ w.heap.size < wr.heap.size ∧ Hid (Below w.heap.size w wr) ∧ Hid (RvO wr w.heap.size k R) ∧ Hid (Room wr w.heap.size (n * 3))) (fun i _ => n - (intOf i).toNat)
  case atStart => exact ⟨0, by omega, rfl, by simp, Lib.hid ((Below.refl _ _).alloc (Nat.le_refl _) _), Lib.hid fun i hi => absurd hi (by omega), HRoom⟩
  case round =>
    obtain ⟨k, hk, rfl, hl, HB, HO, HM⟩ := hrel
    by_cases hlt : k < n
    · obtain ⟨ad, rfl, hc⟩ := (HV.out.below HB.out) (by omega)
      obtain ⟨Ai, Di, ci, di, c0, c1, c2, hr⟩ := hc k hlt
      obtain ⟨s1, s2⟩ := HS.out k hlt
      clear hc
      go_wp2_with fail
      refine (toReach (R k) _ _ _ _ _ s1 s2 hr.out.2.2.2.2.1 hr.out.2.2.2.2.2).mono ?_
      rintro e w1 ⟨⟨A1, b1, D1, d1, g1, g2, rfl, hcd, ho⟩, hb1⟩
      have HM1 := Lib.hid (HM.out.below hb1)
      have HO1 := Lib.hid (HO.out.below hb1)
      have HB1 := Lib.hid (HB.out.trans (hb1.mono HB.out.size))
      have hl1 : w.heap.size < w1.heap.size := by have := hb1.size; omega
      have HW := Lib.hid (ho.wide (show w.heap.size + 1 ≤ wr.heap.size by omega) (Nat.le_refl _))
      obtain ⟨⟨u0, e0⟩, f0⟩ := HM1.out (k * 3) (by omega)
      obtain ⟨⟨u1, e1⟩, f1⟩ := HM1.out (k * 3 + 1) (by omega)
      obtain ⟨⟨u2, e2⟩, f2⟩ := HM1.out (k * 3 + 2) (by omega)
      have HP := Lib.hid (HO1.out.put (ci := b1) e0 e1 e2 hcd HW.out)
      clear hb1 ho
      go_wp2
      go_roundw
      case rel =>
        exact ⟨k + 1, by omega, by go_num, by simpa using hl1, Lib.hid (((HB1.out.setCell (Nat.le_refl _) _).setCell (Nat.le_refl _) _).setCell (Nat.le_refl _) _), HP, Lib.hid (((HM1.out.set _ _).set _ _).set _ _)⟩
      case measure => simp [intOf]; omega
    · obtain rfl : k = n := by omega
      go_wp2
      go_ret
      exact ⟨rfl, HO, HB.out⟩
theorem Owned.drew' {w : World} {B L g1 g2 : Nat} {A D : Option Addr} {r : Rc} (h : Owned w B L A D r g1 g2) : Owned w.drew B L A D r g1 g2 := h
set_option maxRecDepth 100000 in
set_option maxHeartbeats 1000000 in
theorem eqReachS (g g' n c c' : Nat) (R : Nat → Rc) (w : World) (hn : n ≤ 1048576) (hs : Small n R) (h : RvO w g n R) (h' : RvO w g' n R) :
    Calls Try.prog 48 #[.slice (some ⟨g, 0, none⟩) n c, .slice (some ⟨g', 0, none⟩) n c'] w fun e w' => e = .returned (.bool true) ∧ Below w.heap.size w w' := by
  have H := Lib.hid h
  have H' := Lib.hid h'
  have HS := Lib.hid hs
  clear h h' hs
  go_enter Try.func48, Try.ntmps48
  go_wp2
  go_loopw [5] (fun i wr => ∃ k : Nat, k ≤ n ∧ i = .int .i64 k ∧ Hid (Below w.heap.size w wr)) (fun i _ => n - (intOf i).toNat)
  case atStart => exact ⟨0, by omega, rfl, Lib.hid (Below.refl _ _)⟩
  case round =>
    obtain ⟨k, hk, rfl, HB⟩ := hrel
    by_cases hlt : k < n
    · obtain ⟨Ai, Di, ci, di, L, g1, g2, c0, c1, c2, _, ho⟩ := (H.out.below HB.out) k hlt
      obtain ⟨Ai', Di', ci', di', L', g1', g2', c0', c1', c2', _, ho'⟩ := (H'.out.below HB.out) k hlt
      obtain ⟨s1, s2⟩ := HS.out k hlt
      go_wp2
      go_still_tail 8, (by kernel_rfl)
      change wpList _ _ _ _ _ wr.drew
      go_wp2_with (go_at_call 89; refine (eqReach (R k) _ _ _ _ _ _ _ _ _ s1 s2 ho.out.drew' ho'.out.drew').mono ?_; rintro e w1 ⟨rfl, hb1⟩; have HB1 := Lib.hid (HB.out.drew.trans (hb1.mono HB.out.size)); clear hb1)
      go_roundw
      case rel => exact ⟨k + 1, by omega, by go_num, HB1⟩
      case measure => simp [intOf]; omega
    · go_wp2
      go_ret
      exact ⟨rfl, HB.out⟩
end Go.Proofs.Ytmfeleocjmdooaa.C1
