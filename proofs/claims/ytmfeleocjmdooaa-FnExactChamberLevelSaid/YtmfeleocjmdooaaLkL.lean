/- Slices of trains and locks in memory; a law's argument opened to its cells; its size, its conversion, the comparison. -/
import Derived.Test.YtmfeleocjmdooaaLkM
import Derived.Test.YtmfeleocjmdooaaTrLw
import Derived.StillTailTactics
namespace Go.Proofs.Ytmfeleocjmdooaa.C1
open Go.ChangeShapes Go.WideShapes Go.ChangeAt Go.RowKit Go.Deep Go.Joins Go.Proofs.Ytmfeleocjmdooaa.Opened
set_option linter.unusedVariables false

/-- A slice of trains in a block of plain cells. -/
def Trs (w : World) (A : Option Addr) (S : List Tr) : Prop :=
  0 < S.length → ∃ g o, A = some ⟨g, o, none⟩ ∧ ∀ i t, S[i]? = some t → w.cell? ⟨g, o + i * 2, none⟩ = some (.bool t.up) ∧ ∃ Ai ci, w.cell? ⟨g, o + i * 2 + 1, none⟩ = some (.slice Ai t.R.length ci) ∧ Veil (Trn w Ai t.R)
theorem Trs.below {w w' : World} {A : Option Addr} {S : List Tr} (h : Trs w A S) (hb : Below w.heap.size w w') : Trs w' A S := fun hn => by
  obtain ⟨g, o, e, hc⟩ := h hn
  refine ⟨g, o, e, fun i t hi => ?_⟩
  obtain ⟨h0, Ai, ci, h1, h2⟩ := hc i t hi
  exact ⟨(hb.cell (cell_lt' h0)).trans h0, Ai, ci, (hb.cell (cell_lt' h1)).trans h1, vl (h2.out.below hb)⟩
theorem Trs.alloc {w : World} {A : Option Addr} {S : List Tr} (h : Trs w A S) (o : Obj) : Trs (w.alloc o) A S := h.below ((Below.refl _ _).alloc (Nat.le_refl _) _)
theorem Trs.drew {w : World} {A : Option Addr} {S : List Tr} (h : Trs w A S) : Trs w.drew A S := fun hn => by
  obtain ⟨g, o, e, hc⟩ := h hn
  exact ⟨g, o, e, fun i t hi => by
    obtain ⟨h0, Ai, ci, h1, h2⟩ := hc i t hi
    exact ⟨h0, Ai, ci, h1, vl h2.out.drew⟩⟩
/-- A slice of trains in memory of its own, from B on and below L: block g holds the trains, train i has its rows between lo i and hi i. -/
structure OwnTs (w : World) (B L : Nat) (A : Option Addr) (S : List Tr) (g : Nat) (lo hi gg : Nat → Nat) (GG : Nat → Nat → Nat) : Prop where
  head : 0 < S.length → A = some ⟨g, 0, none⟩
  inG : 0 < S.length → B ≤ g ∧ g < L
  row : ∀ i t, S[i]? = some t → w.cell? ⟨g, i * 2, none⟩ = some (.bool t.up) ∧ ∃ Ai ci, w.cell? ⟨g, i * 2 + 1, none⟩ = some (.slice Ai t.R.length ci) ∧ OwnT w (lo i) (hi i) Ai t.R (gg i) (GG i)
  free : Free w (S.length * 2) g
  inR : ∀ i, i < S.length → B ≤ lo i ∧ lo i ≤ hi i ∧ hi i ≤ L ∧ hi i ≤ w.heap.size ∧ (g < lo i ∨ hi i ≤ g)
  ord : ∀ i j, i < j → j < S.length → hi i ≤ lo j
section
variable {w w' : World} {B L g : Nat} {A : Option Addr} {S : List Tr} {lo hi gg : Nat → Nat} {GG : Nat → Nat → Nat}
theorem OwnTs.lt (h : OwnTs w B L A S g lo hi gg GG) (hn : 0 < S.length) : g < w.heap.size := by
  obtain ⟨t, ht⟩ := get_of hn
  exact cell_lt' (h.row 0 t ht).1
theorem OwnTs.trs (h : OwnTs w B L A S g lo hi gg GG) : Trs w A S := fun hn => by
  refine ⟨g, 0, h.head hn, fun i t ht => ?_⟩
  obtain ⟨h0, Ai, ci, h1, h2⟩ := h.row i t ht
  rw [Nat.zero_add]
  exact ⟨h0, Ai, ci, h1, vl h2.trn⟩
theorem OwnTs.below (h : OwnTs w B L A S g lo hi gg GG) (hb : Below w.heap.size w w') : OwnTs w' B L A S g lo hi gg GG :=
  ⟨h.head, h.inG, fun i t ht => by
    obtain ⟨h0, Ai, ci, h1, h2⟩ := h.row i t ht
    exact ⟨(hb.cell (cell_lt' h0)).trans h0, Ai, ci, (hb.cell (cell_lt' h1)).trans h1, h2.below hb⟩,
    h.free.block fun hn => hb.block g (h.lt (by omega)), fun i hi => by have := h.inR i hi; have := hb.size; omega, h.ord⟩
theorem OwnTs.touch {B' L' : Nat} (h : OwnTs w B L A S g lo hi gg GG) (t : Touch w w' B' L') (hd : L ≤ B' ∨ L' ≤ B) : OwnTs w' B L A S g lo hi gg GG :=
  ⟨h.head, h.inG, fun i u hu => by
    obtain ⟨h0, Ai, ci, h1, h2⟩ := h.row i u hu
    have hl := len_of hu
    have hg := h.inG (by omega)
    have hb := t.block g (cell_lt' h0) (by omega)
    have := h.inR i hl
    exact ⟨(World.cell?_of_block hb).trans h0, Ai, ci, (World.cell?_of_block hb).trans h1, h2.touch t (by omega)⟩,
    h.free.block fun hn => t.block g (h.lt (by omega)) (by have := h.inG (by omega); omega), fun i hi => by have := h.inR i hi; have := t.size; omega, h.ord⟩
theorem OwnTs.wide {B' L' : Nat} (h : OwnTs w B L A S g lo hi gg GG) (hB : B' ≤ B) (hL : L ≤ L') : OwnTs w B' L' A S g lo hi gg GG :=
  ⟨h.head, fun hn => by have := h.inG hn; omega, h.row, h.free, fun i hi => by have := h.inR i hi; omega, h.ord⟩
theorem OwnTs.nil (w : World) (B L : Nat) (A : Option Addr) (g : Nat) (lo hi gg : Nat → Nat) (GG : Nat → Nat → Nat) : OwnTs w B L A [] g lo hi gg GG :=
  ⟨fun h => absurd h (by simp), fun h => absurd h (by simp), fun i t h => by simp at h, fun i hi => absurd hi (by simp), fun i h => absurd h (by simp), fun i j _ h => absurd h (by simp)⟩
end
/-- What is known of an argument. -/
structure ArgTs (w : World) (A : Option Addr) (S : List Tr) : Prop where
  len : S.length ≤ 9223372036854775807
  src : 0 < S.length → ∃ ad, A = some ad ∧ ∀ i t, S[i]? = some t → w.cell? (ad.add (i * 2)) = some (.bool t.up) ∧ ∃ Ai ci, w.cell? ⟨(ad.add (i * 2)).block, (ad.add (i * 2)).off + 1, none⟩ = some (.slice Ai t.R.length ci) ∧ Veil (ArgT w Ai t.R)
theorem ArgTs.below {w w' : World} {A : Option Addr} {S : List Tr} (h : ArgTs w A S) (hb : Below w.heap.size w w') : ArgTs w' A S := ⟨h.len, fun hn => by
  obtain ⟨ad, e, hc⟩ := h.src hn
  refine ⟨ad, e, fun i t hi => ?_⟩
  obtain ⟨h0, Ai, ci, h1, h2⟩ := hc i t hi
  exact ⟨(hb.cell (cell_lt' h0)).trans h0, Ai, ci, (hb.cell (cell_lt' h1)).trans h1, vl (h2.out.below hb)⟩⟩
section
variable {H : Type} {enc : TypeId × Value → H} {w : World} {base : Nat} {spare : Nat → Bool} {held : Bool}
theorem flds_of {P : Program} {t : TypeId} {fs : Array Field} {fuel : Nat} {cs : List Value} {x : DataW H × List MemPlace} (hs : P.underlying t = some (.struct fs)) (hone : oneCellFields P fs = true) (hl : cs.length = fs.size)
    (h : DataW.trod enc P w base spare held fuel t cs = some x) : ∃ n, ∀ (j : Nat) (f : Field), fs[j]? = some f → ∃ c y, cs[j]? = some c ∧ DataW.trod enc P w base spare held n f.type [c] = some y := by
  obtain ⟨xs, n, _, _, hlen, _, hf⟩ := DataW.trod_struct hs h
  refine ⟨n, fun j f hj => ?_⟩
  have hjl : j < fs.size := (Array.getElem?_eq_some_iff.1 hj).1
  obtain ⟨ho, hk⟩ := hone_of hone j f hj
  have h1 := hf j f hj
  rw [ho, hk, List.drop_eq_getElem_cons (by omega), List.take_succ_cons, List.take_zero] at h1
  have hxs : ∃ y, xs[j]? = some y := by
    have : j < xs.length := by omega
    exact ⟨_, List.getElem?_eq_getElem this⟩
  obtain ⟨y, hy⟩ := hxs
  rw [hy] at h1
  exact ⟨_, y, List.getElem?_eq_getElem (by omega), h1⟩
theorem int_fld {n : Nat} {c : Value} {y : DataW H × List MemPlace} (h : DataW.trod enc Try.prog w base spare held n 3 [c] = some y) : ∃ z, c = .int .i64 z := by
  obtain ⟨z, hz, _⟩ := DataW.trod_int Try.underlying3 h
  exact ⟨z, (List.cons.inj hz).1⟩
set_option maxRecDepth 100000 in
theorem trains_of {fuel : Nat} {v : Value} {x : DataW H × List MemPlace} (h : DataW.trod enc Try.prog w base spare held fuel 66 [v] = some x) :
    ∃ (A : Option Addr) (c : Nat) (S : List Tr), v = .slice A S.length c ∧ ArgTs w A S := by
  rcases open_slice Try.underlying66 h with ⟨hcs, _⟩ | ⟨a, len, cap, m, fu, D, Pl, hcs, _, hl, hm, hmm, _, hi⟩
  · have hv : v = .slice none 0 0 := by simpa using hcs
    exact ⟨none, 0, [], hv, by simp, fun h => absurd h (by simp)⟩
  · have hv : v = .slice (some a) len cap := by simpa using hcs
    have hle : len ≤ m := by rw [hmm]; split <;> omega
    obtain ⟨f, hf⟩ := choose_lt (α := Tr) (n := len) (p := fun i t => w.cell? (a.add (i * 2)) = some (.bool t.up) ∧ ∃ Ai ci, w.cell? ⟨(a.add (i * 2)).block, (a.add (i * 2)).off + 1, none⟩ = some (.slice Ai t.R.length ci) ∧ ArgT w Ai t.R) (fun i hin => by
      obtain ⟨cs', hc, htr⟩ := hi i (by omega)
      rw [show Try.prog.cellsOf 58 = 2 from by kernel_rfl] at hc
      obtain ⟨_, hlen, hat⟩ := World.cells?_some hc
      obtain ⟨n', hfl⟩ := flds_of Try.underlying58 (by kernel_rfl) hlen htr
      obtain ⟨c0, y0, e0, t0⟩ := hfl 0 _ rfl
      obtain ⟨c1, y1, e1, t1⟩ := hfl 1 _ rfl
      obtain ⟨b, hb, _⟩ := DataW.trod_bool Try.underlying4 t0
      obtain ⟨A', c', T, hv', hT⟩ := rows_of t1
      exact ⟨⟨b, T⟩, (hat 0 (by decide)).trans (e0.trans (by rw [(List.cons.inj hb).1])), A', c', (hat 1 (by decide)).trans (e1.trans (by rw [hv'])), hT⟩)
    refine ⟨some a, cap, (List.range len).map f, by simp [hv], ⟨?_, fun _ => ⟨a, rfl, fun i t ht => ?_⟩⟩⟩
    · unfold maxLen at hm; simp; omega
    · obtain ⟨h1, rfl⟩ := map_range ht
      obtain ⟨h2, Ai, ci, h3, h4⟩ := hf i h1
      exact ⟨h2, Ai, ci, h3, vl h4⟩
set_option maxRecDepth 100000 in
theorem open_lock {r : Reach} {b0 : Nat} {v : Value} {d : DataW H} {ps : List MemPlace} (hv : Value.okWide Try.prog w r b0 68 v) (h : DataW.Trod enc Try.prog w base spare held 68 v d ps) :
    ∃ (k : Lk) (A : Option Addr) (c : Nat) (S : List Tr), v = .agg #[.int .i64 k.le, .int .i64 k.wi, .int .i64 k.sa, .int .i64 k.sb, .int .i64 k.ba, .int .i64 k.ar, .int .i64 k.ra, .int .i64 k.wa, .int .i64 k.ga, .slice A S.length c] ∧ ArgTs w A S := by
  obtain ⟨cs, rfl, hsz⟩ := okWide_struct Try.underlying68 hv
  obtain ⟨fuel, hf⟩ := h
  obtain ⟨l⟩ := cs
  match l, hsz.trans (show Try.prog.cellsOf 68 = 10 by kernel_rfl) with
  | [c0, c1, c2, c3, c4, c5, c6, c7, c8, c9], _ =>
    obtain ⟨n, hfl⟩ := flds_of Try.underlying68 (by kernel_rfl) rfl hf
    obtain ⟨u0, y0, e0, t0⟩ := hfl 0 _ rfl
    obtain ⟨u1, y1, e1, t1⟩ := hfl 1 _ rfl
    obtain ⟨u2, y2, e2, t2⟩ := hfl 2 _ rfl
    obtain ⟨u3, y3, e3, t3⟩ := hfl 3 _ rfl
    obtain ⟨u4, y4, e4, t4⟩ := hfl 4 _ rfl
    obtain ⟨u5, y5, e5, t5⟩ := hfl 5 _ rfl
    obtain ⟨u6, y6, e6, t6⟩ := hfl 6 _ rfl
    obtain ⟨u7, y7, e7, t7⟩ := hfl 7 _ rfl
    obtain ⟨u8, y8, e8, t8⟩ := hfl 8 _ rfl
    obtain ⟨u9, y9, e9, t9⟩ := hfl 9 _ rfl
    obtain ⟨z0, rfl⟩ := int_fld t0
    obtain ⟨z1, rfl⟩ := int_fld t1
    obtain ⟨z2, rfl⟩ := int_fld t2
    obtain ⟨z3, rfl⟩ := int_fld t3
    obtain ⟨z4, rfl⟩ := int_fld t4
    obtain ⟨z5, rfl⟩ := int_fld t5
    obtain ⟨z6, rfl⟩ := int_fld t6
    obtain ⟨z7, rfl⟩ := int_fld t7
    obtain ⟨z8, rfl⟩ := int_fld t8
    obtain ⟨A, c, S, rfl, hS⟩ := trains_of t9
    obtain rfl := Option.some.inj (show some c0 = _ from e0)
    obtain rfl := Option.some.inj (show some c1 = _ from e1)
    obtain rfl := Option.some.inj (show some c2 = _ from e2)
    obtain rfl := Option.some.inj (show some c3 = _ from e3)
    obtain rfl := Option.some.inj (show some c4 = _ from e4)
    obtain rfl := Option.some.inj (show some c5 = _ from e5)
    obtain rfl := Option.some.inj (show some c6 = _ from e6)
    obtain rfl := Option.some.inj (show some c7 = _ from e7)
    obtain rfl := Option.some.inj (show some c8 = _ from e8)
    obtain rfl := Option.some.inj (show some c9 = _ from e9)
    exact ⟨⟨z0, z1, z2, z3, z4, z5, z6, z7, z8⟩, A, c, S, rfl, hS⟩
end
/-- A lock's box. -/
def KBox (w : World) (g : Nat) (k : Lk) (v : Value) : Prop :=
  w.cell? ⟨g, 0, none⟩ = some (.int .i64 k.le) ∧ w.cell? ⟨g, 1, none⟩ = some (.int .i64 k.wi) ∧ w.cell? ⟨g, 2, none⟩ = some (.int .i64 k.sa) ∧ w.cell? ⟨g, 3, none⟩ = some (.int .i64 k.sb) ∧ w.cell? ⟨g, 4, none⟩ = some (.int .i64 k.ba) ∧
  w.cell? ⟨g, 5, none⟩ = some (.int .i64 k.ar) ∧ w.cell? ⟨g, 6, none⟩ = some (.int .i64 k.ra) ∧ w.cell? ⟨g, 7, none⟩ = some (.int .i64 k.wa) ∧ w.cell? ⟨g, 8, none⟩ = some (.int .i64 k.ga) ∧ w.cell? ⟨g, 9, none⟩ = some v
theorem KBox.new (w : World) (k : Lk) (v : Value) (t : TypeId) : KBox (w.alloc (.cells #[.int .i64 k.le, .int .i64 k.wi, .int .i64 k.sa, .int .i64 k.sb, .int .i64 k.ba, .int .i64 k.ar, .int .i64 k.ra, .int .i64 k.wa, .int .i64 k.ga, v] t)) w.heap.size k v :=
  ⟨by simp, by simp, by simp, by simp, by simp, by simp, by simp, by simp, by simp, by simp⟩
theorem KBox.lt {w : World} {g : Nat} {k : Lk} {v : Value} (h : KBox w g k v) : g < w.heap.size := cell_lt' h.1
theorem KBox.block {w w' : World} {g : Nat} {k : Lk} {v : Value} (h : KBox w g k v) (hb : w'.heap[g]? = w.heap[g]?) : KBox w' g k v := by
  unfold KBox at *
  have e : ∀ j, w'.cell? ⟨g, j, none⟩ = w.cell? ⟨g, j, none⟩ := fun j => World.cell?_of_block hb
  rw [e, e, e, e, e, e, e, e, e, e]; exact h
theorem KBox.below {w w' : World} {g : Nat} {k : Lk} {v : Value} (h : KBox w g k v) (hb : Below w.heap.size w w') : KBox w' g k v := h.block (hb.block g h.lt)
theorem KBox.touch {w w' : World} {g B L : Nat} {k : Lk} {v : Value} (h : KBox w g k v) (t : Touch w w' B L) (hg : g < B ∨ L ≤ g) : KBox w' g k v := h.block (t.block g h.lt hg)
/-- All slices of trains are of modest length. -/
structure ModS (S : List Tr) : Prop where
  len : S.length ≤ 1048576
  all : ∀ t ∈ S, Mod t.R
  boz : (boz S).length ≤ 1048576
def sumS (S : List Tr) : Nat := (S.map fun t => szT t.R).sum
def szS (S : List Tr) : Nat := S.length + sumS S
theorem sumS_app (S U : List Tr) : sumS (S ++ U) = sumS S + sumS U := by simp [sumS]
theorem sumS_take {S : List Tr} {k : Nat} {t : Tr} (h : S[k]? = some t) : sumS (S.take (k + 1)) = sumS (S.take k) + szT t.R := by
  rw [List.take_add_one, h]; simp [sumS]
theorem sumS_boz (S : List Tr) : (C1.boz S).length ≤ sumS S := by
  induction S with
  | nil => simp [C1.boz]
  | cons t S ih =>
    have e : C1.boz (t :: S) = bts t.R ++ C1.boz S := by simp [C1.boz]
    have e2 : sumS (t :: S) = szT t.R + sumS S := by simp [sumS]
    rw [e, e2, List.length_append]; unfold szT; omega
theorem sumS_mem {S : List Tr} {t : Tr} (h : t ∈ S) : szT t.R ≤ sumS S := by
  induction S with
  | nil => cases h
  | cons a S ih =>
    have e2 : sumS (a :: S) = szT a.R + sumS S := by simp [sumS]
    rw [e2]
    rcases List.mem_cons.1 h with rfl | h
    · omega
    · have := ih h; omega
theorem mods_of {S : List Tr} (h : (szS S : Int) ≤ 1048576) : ModS S := by
  unfold szS at h
  refine ⟨by omega, fun t ht => mod_of ?_, ?_⟩
  · have := sumS_mem ht; omega
  · have := sumS_boz S; omega
theorem ModS.row {S : List Tr} (h : ModS S) {t : Tr} (ht : t ∈ S) : ∀ r ∈ t.R, r.length ≤ 1048576 := fun r hr => (h.all t ht).row hr
set_option maxHeartbeats 1000000 in
theorem szTS_no (A : Option Addr) (c : Nat) (S : List Tr) (w : World) (l : Int) (h1 : 0 ≤ l) (h2 : l ≤ 1048576) (ht : ArgTs w A S) (h : l < (szS S : Int)) :
    Calls Try.prog 76 #[.slice A S.length c, .int .i64 l] w fun e w' => e = .returned (.int .i64 (-1)) ∧ Below w.heap.size w w' := by
  have HT := vl ht
  have HS := vl (show l < (S.length : Int) + (sumS S : Int) by unfold szS at h; omega)
  have hn := ht.len
  clear ht h
  by_cases hb : l < (S.length : Int)
  · go_enter Try.func76, Try.ntmps76
    go_wp2
    go_ret
    exact ⟨rfl, Below.refl _ _⟩
  have hb' : (S.length : Int) ≤ l := by omega
  clear hb hn
  go_enter Try.func76, Try.ntmps76
  go_wp2
  go_loopw [1, 5] (fun v i wr => ∃ k : Nat, k ≤ S.length ∧ i = .int .i64 k ∧ Veil ((S.length : Int) + (sumS (S.take k) : Int) ≤ l) ∧ v = .int .i64 (l - (S.length : Int) - (sumS (S.take k) : Int)) ∧ Veil (Below w.heap.size w wr)) (fun _ i _ => S.length - (intOf i).toNat)
  case atStart => exact ⟨0, by omega, rfl, vl (by simp [sumS]; omega), by simp [sumS], vl (Below.refl _ _)⟩
  case round =>
    obtain ⟨k, hk, rfl, HZ, rfl, HB⟩ := hrel
    by_cases hlt : k < S.length
    · obtain ⟨t, hr⟩ := get_of hlt
      obtain ⟨ad, rfl, hc⟩ := (HT.out.below HB.out).src (by omega)
      obtain ⟨c0, Ai, ci, c1, HR⟩ := hc k t hr
      have HE := vl (sumS_take hr)
      have hz0 := HZ.out
      generalize sumS (S.take k) = q at hz0 HE ⊢
      clear hc hr HZ
      by_cases hbig : l - (S.length : Int) - (q : Int) < (szT t.R : Int)
      · go_wp2_with fail
        refine (szTrain_no _ _ _ _ _ _ (by omega) (by omega) HR.out hbig).mono ?_
        rintro e w' ⟨rfl, hb1⟩
        have HB1 := vl (HB.out.trans (hb1.mono HB.out.size))
        clear hb1
        go_wp2
        go_ret
        exact ⟨rfl, HB1.out⟩
      · have hok : (szT t.R : Int) ≤ l - (S.length : Int) - (q : Int) := by omega
        clear hbig
        go_wp2_with fail
        refine (szTrain_yes _ _ _ _ _ _ (by omega) HR.out hok).mono ?_
        rintro e w' ⟨rfl, hb1⟩
        have HB1 := vl (HB.out.trans (hb1.mono HB.out.size))
        have hz1 : 0 ≤ l - (S.length : Int) - (q : Int) - (szT t.R : Int) := by omega
        clear hb1
        go_wp2
        go_roundw
        case rel => exact ⟨k + 1, by omega, by go_num, vl (by rw [HE.out]; omega), congrArg (Value.int .i64) (by rw [HE.out]; omega), HB1⟩
        case measure => simp [intOf]; omega
    · obtain rfl : k = S.length := by omega
      have := HZ.out
      rw [List.take_length] at this
      exact absurd HS.out (by omega)
set_option maxHeartbeats 1000000 in
theorem szTS_yes (A : Option Addr) (c : Nat) (S : List Tr) (w : World) (l : Int) (h2 : l ≤ 1048576) (ht : ArgTs w A S) (h : (szS S : Int) ≤ l) :
    Calls Try.prog 76 #[.slice A S.length c, .int .i64 l] w fun e w' => e = .returned (.int .i64 (l - (szS S : Int))) ∧ Below w.heap.size w w' := by
  have HT := vl ht
  have hs : (S.length : Int) + (sumS S : Int) ≤ l := by unfold szS at h; omega
  have HS := vl hs
  have HF := vl (show l - (szS S : Int) = l - (S.length : Int) - (sumS S : Int) by unfold szS; omega)
  have h1 : (0 : Int) ≤ l := by omega
  have hb' : (S.length : Int) ≤ l := by omega
  have HM := vl (fun (t : Tr) (h : t ∈ S) => sumS_mem h)
  clear ht h hs
  rw [HF.out]
  go_enter Try.func76, Try.ntmps76
  go_wp2
  go_loopw [1, 5] (fun v i wr => ∃ k : Nat, k ≤ S.length ∧ i = .int .i64 k ∧ v = .int .i64 (l - (S.length : Int) - (sumS (S.take k) : Int)) ∧ Veil (Below w.heap.size w wr)) (fun _ i _ => S.length - (intOf i).toNat)
  case atStart => exact ⟨0, by omega, rfl, by simp [sumS], vl (Below.refl _ _)⟩
  case round =>
    obtain ⟨k, hk, rfl, rfl, HB⟩ := hrel
    by_cases hlt : k < S.length
    · obtain ⟨t, hr⟩ := get_of hlt
      obtain ⟨ad, rfl, hc⟩ := (HT.out.below HB.out).src (by omega)
      obtain ⟨c0, Ai, ci, c1, HR⟩ := hc k t hr
      have HE := vl (sumS_take hr)
      have hle : sumS (S.take (k + 1)) ≤ sumS S := by
        have e : sumS S = sumS (S.take (k + 1)) + sumS (S.drop (k + 1)) := by
          rw [← sumS_app, List.take_append_drop]
        omega
      rw [HE.out] at hle
      have hs := HS.out
      generalize sumS (S.take k) = q at hle HE ⊢
      clear hc hr
      have hok : (szT t.R : Int) ≤ l - (S.length : Int) - (q : Int) := by omega
      have hz1 : 0 ≤ l - (S.length : Int) - (q : Int) - (szT t.R : Int) := by omega
      clear hs
      go_wp2_with fail
      refine (szTrain_yes _ _ _ _ _ _ (by omega) HR.out hok).mono ?_
      rintro e w' ⟨rfl, hb1⟩
      have HB1 := vl (HB.out.trans (hb1.mono HB.out.size))
      clear hb1
      go_wp2
      go_roundw
      case rel => exact ⟨k + 1, by omega, by go_num, congrArg (Value.int .i64) (by rw [HE.out]; omega), HB1⟩
      case measure => simp [intOf]; omega
    · obtain rfl : k = S.length := by omega
      rw [List.take_length]
      go_wp2
      go_ret
      exact ⟨rfl, HB.out⟩
set_option maxRecDepth 100000 in
set_option maxHeartbeats 1000000 in
theorem eqTrainS (A A' : Option Addr) (c c' : Nat) (S : List Tr) (w : World) (hm : ModS S) (hp : Trs w A S) (hp' : Trs w A' S) :
    Calls Try.prog 80 #[.slice A S.length c, .slice A' S.length c'] w fun e w' => e = .returned (.bool true) ∧ Below w.heap.size w w' := by
  have HP := vl hp
  have HP' := vl hp'
  have HM := vl hm
  have hn := hm.len
  clear hp hp' hm
  go_enter Try.func80, Try.ntmps80
  go_wp2
  go_loopw [5] (fun i wr => ∃ k : Nat, k ≤ S.length ∧ i = .int .i64 k ∧ Veil (Below w.heap.size w wr)) (fun i _ => S.length - (intOf i).toNat)
  case atStart => exact ⟨0, by omega, rfl, vl (Below.refl _ _)⟩
  case round =>
    obtain ⟨k, hk, rfl, HB⟩ := hrel
    by_cases hlt : k < S.length
    · obtain ⟨t, ht⟩ := get_of hlt
      obtain ⟨g, o, rfl, hc⟩ := (HP.out.below HB.out) (by omega)
      obtain ⟨x0, Ai, ci, x1, HA⟩ := hc k t ht
      obtain ⟨g', o', rfl, hc'⟩ := (HP'.out.below HB.out) (by omega)
      obtain ⟨y0, Ai', ci', y1, HA'⟩ := hc' k t ht
      have HK := vl (mem_of ht)
      clear hc hc' ht
      go_wp2
      go_still_tail 8, (by kernel_rfl)
      change wpList _ _ _ _ _ wr.drew
      go_wp2_with (go_at_call 54; refine (eqTrain t.up Ai Ai' ci ci' t.R _ (HM.out.all t HK.out).rows (HM.out.row HK.out) HA.out.drew HA'.out.drew).mono ?_; rintro e w1 ⟨rfl, hb1⟩)
      have HB1 := vl (HB.out.drew.trans (hb1.mono HB.out.size))
      clear hb1
      go_roundw
      case rel => exact ⟨k + 1, by omega, by go_num, HB1⟩
      case measure => simp [intOf]; omega
    · go_wp2
      go_ret
      exact ⟨rfl, HB.out⟩
theorem infoT : (Try.prog.info? 26).map (fun i => (i.zero, i.size, i.bytes)) = some (some (.agg #[.bool false, .slice none 0 0]), 2, 32) := by kernel_rfl
/-- The trains that are converted already. -/
structure PartS (b0 : Nat) (wr : World) (S : List Tr) (k : Nat) (F : Nat → Value) (lo hi gg : Nat → Nat) (GG : Nat → Nat → Nat) : Prop where
  row : wr.rowIs b0 26 (S.length * 2) F
  tr : ∀ i t, i < k → S[i]? = some t → F (i * 2) = .bool t.up ∧ ∃ Ai ci, F (i * 2 + 1) = .slice Ai t.R.length ci ∧ OwnT wr (lo i) (hi i) Ai t.R (gg i) (GG i)
  inR : ∀ i, i < k → b0 < lo i ∧ lo i ≤ hi i ∧ hi i ≤ wr.heap.size
  ord : ∀ i j, i < j → j < k → hi i ≤ lo j
theorem PartS.own {b0 : Nat} {w : World} {S : List Tr} {F : Nat → Value} {lo hi gg : Nat → Nat} {GG : Nat → Nat → Nat} (h : PartS b0 w S S.length F lo hi gg GG) : OwnTs w b0 w.heap.size (some ⟨b0, 0, none⟩) S b0 lo hi gg GG := by
  have hl := h.row.lt
  refine ⟨fun _ => rfl, fun _ => ⟨Nat.le_refl _, hl⟩, fun i t ht => ?_, fun i hi => h.row.frozen i, fun i hi => ?_, h.ord⟩
  · have hlt := len_of ht
    obtain ⟨h0, Ai, ci, h1, h2⟩ := h.tr i t hlt ht
    exact ⟨by rw [h.row.cell (i := i * 2) (by omega), h0], Ai, ci, by rw [h.row.cell (i := i * 2 + 1) (by omega), h1], h2⟩
  · have := h.inR i hi; omega
set_option maxHeartbeats 1000000 in
theorem toTrainS (A : Option Addr) (c : Nat) (S : List Tr) (w : World) (hm : ModS S) (hp : ArgTs w A S) :
    Calls Try.prog 78 #[.slice A S.length c] w fun e w' => e = .returned (.slice (some ⟨w.heap.size, 0, none⟩) S.length S.length) ∧ Below w.heap.size w w' ∧ ∃ lo hi gg GG, OwnTs w' w.heap.size w'.heap.size (some ⟨w.heap.size, 0, none⟩) S w.heap.size lo hi gg GG := by
  obtain ⟨i0, hi, hz0, hz1, hz2⟩ := info_parts infoT
  have hn := hm.len
  have hmk := make_eq (P := Try.prog) 71 26 i0 _ 2 32 Try.underlying71 hi hz0 hz1 hz2 S.length (by omega) (by omega)
  have HP := vl hp
  have HM := vl hm
  clear hp hm
  go_enter Try.func78, Try.ntmps78
  go_wp2
  clear hmk hi hz0 hz1 hz2
  go_loopw [4] (fun i wr => ∃ k : Nat, k ≤ S.length ∧ i = .int .i64 k ∧ Veil (Below w.heap.size w wr) ∧ ∃ F lo hi gg GG, Veil (PartS w.heap.size wr S k F lo hi gg GG)) (fun i _ => S.length - (intOf i).toNat)
  case atStart =>
    refine ⟨0, by omega, rfl, vl ((Below.refl _ _).alloc (Nat.le_refl _) _), fun j => if j % 2 = 0 then .bool false else .slice none 0 0, fun _ => 0, fun _ => 0, fun _ => 0, fun _ _ => 0, vl ⟨?_, fun i t h => by omega, fun i h => by omega, fun i j _ h => by omega⟩⟩
    have h := World.rowIs_alloc w (madeCells #[.bool false, .slice none 0 0] (S.length * 2)) 26 (fun j => if j % 2 = 0 then .bool false else .slice none 0 0) (fun i hi => by
      rw [size_madeCells] at hi
      have : i % 2 = 0 ∨ i % 2 = 1 := by omega
      rcases this with h | h <;> simp [madeCells, hi, h])
    rw [size_madeCells] at h
    exact h
  case round =>
    obtain ⟨k, hk, rfl, HB, F, lo, hi, gg, GG, HG⟩ := hrel
    by_cases hlt : k < S.length
    · obtain ⟨t, ht⟩ := get_of hlt
      obtain ⟨ad, rfl, hsrc⟩ := (HP.out.below HB.out).src (by omega)
      obtain ⟨x0, Ai, ci, x1, HS⟩ := hsrc k t ht
      have HK := vl ht
      have hz := HG.out.row.lt
      have HMt := vl (HM.out.all t (mem_of ht))
      clear hsrc ht
      go_wp2_with fail
      refine (toTrain t.up Ai ci t.R _ HMt.out.rows (fun r hr => HMt.out.row hr) HS.out.src).mono ?_
      rintro e w1 ⟨⟨A1, c1, g1, G1, rfl, _, ho1⟩, hb1⟩
      have HR1 := vl (HG.out.row.of_block (hb1.block _ hz))
      have HB1 := vl (HB.out.trans (hb1.mono (by omega)))
      have HW := vl hb1
      have HO1 := vl ho1
      obtain ⟨u0, y0⟩ : ∃ u, w1.cell? ⟨w.heap.size, k * 2, none⟩ = some u := ⟨_, HR1.out.cell (by omega)⟩
      obtain ⟨u1, y1⟩ : ∃ u, w1.cell? ⟨w.heap.size, k * 2 + 1, none⟩ = some u := ⟨_, HR1.out.cell (by omega)⟩
      have z0 := HR1.out.frozen (k * 2); have z1 := HR1.out.frozen (k * 2 + 1)
      clear hb1 ho1 x0 x1
      go_wp2
      go_roundw
      case rel =>
        refine ⟨k + 1, by omega, by go_num, vl ((HB1.out.setCell (Nat.le_refl _) _).setCell (Nat.le_refl _) _), _, fun i => if i = k then wr.heap.size else lo i, fun i => if i = k then w1.heap.size else hi i, fun i => if i = k then g1 else gg i, fun i => if i = k then G1 else GG i, vl ⟨(HR1.out.set _ _).set _ _, fun i s hik hs => ?_, fun i hik => ?_, fun i j hij hjk => ?_⟩⟩
        · have hT := (Touch.refl w1 w.heap.size (w.heap.size + 1)).set w.heap.size (k * 2) (.bool t.up) (Nat.le_refl _) (Nat.lt_succ_self _) |>.set w.heap.size (k * 2 + 1) (.slice A1 t.R.length c1) (Nat.le_refl _) (Nat.lt_succ_self _)
          by_cases e : i = k
          · subst e
            rw [HK.out] at hs
            injection hs with hs
            subst hs
            refine ⟨by simp, A1, c1, by simp, ?_⟩
            simp only [if_true]
            exact HO1.out.touch hT (Or.inr hz)
          · obtain ⟨h0, A2, c2, h1, h2⟩ := HG.out.tr i s (by omega) hs
            have hi2 := HG.out.inR i (by omega)
            refine ⟨?_, A2, c2, ?_, ?_⟩
            · rw [if_neg (by omega), if_neg (by omega)]; exact h0
            · rw [if_neg (by omega), if_neg (by omega)]; exact h1
            · simp only [if_neg e]
              exact (h2.below HW.out).touch hT (Or.inr hi2.1)
        · have := HW.out.size
          have hss : ∀ (a b : Addr) (u v : Value), ((w1.setCell a u).setCell b v).heap.size = w1.heap.size := by simp
          rw [hss]
          by_cases e : i = k
          · simp only [if_pos e]; omega
          · have hi2 := HG.out.inR i (by omega)
            simp only [if_neg e]; omega
        · by_cases e : j = k
          · have hi2 := HG.out.inR i (by omega)
            simp only [if_pos e, if_neg (show i ≠ k by omega)]; omega
          · simp only [if_neg e, if_neg (show i ≠ k by omega)]; exact HG.out.ord i j hij (by omega)
      case measure => simp [intOf]; omega
    · obtain rfl : k = S.length := by omega
      go_wp2
      go_ret
      exact ⟨rfl, HB.out, lo, hi, gg, GG, HG.out.own⟩
theorem szLock_no (k : Lk) (A : Option Addr) (c : Nat) (S : List Tr) (w : World) (l : Int) (h1 : 0 ≤ l) (h2 : l ≤ 1048576) (ht : ArgTs w A S) (h : l < (szS S : Int)) :
    Calls Try.prog 69 #[.agg #[.int .i64 k.le, .int .i64 k.wi, .int .i64 k.sa, .int .i64 k.sb, .int .i64 k.ba, .int .i64 k.ar, .int .i64 k.ra, .int .i64 k.wa, .int .i64 k.ga, .slice A S.length c], .int .i64 l] w fun e w' => e = .returned (.int .i64 (-1)) ∧ Below w.heap.size w w' := by
  have HB0 := vl ((Below.refl w.heap.size w).alloc (Nat.le_refl _) (.cells #[.int .i64 k.le, .int .i64 k.wi, .int .i64 k.sa, .int .i64 k.sb, .int .i64 k.ba, .int .i64 k.ar, .int .i64 k.ra, .int .i64 k.wa, .int .i64 k.ga, .slice A S.length c] 68))
  have HT := vl (ht.below HB0.out)
  clear ht
  go_enter Try.func69, Try.ntmps69
  go_wp2_with fail
  refine (szTS_no _ _ _ _ _ h1 h2 HT.out h).mono ?_
  rintro e w1 ⟨rfl, hb1⟩
  have HB1 := vl (HB0.out.trans (hb1.mono HB0.out.size))
  clear hb1
  go_wp2
  go_ret
  exact ⟨rfl, HB1.out⟩
theorem szLock_yes (k : Lk) (A : Option Addr) (c : Nat) (S : List Tr) (w : World) (l : Int) (h2 : l ≤ 1048576) (ht : ArgTs w A S) (h : (szS S : Int) ≤ l) :
    Calls Try.prog 69 #[.agg #[.int .i64 k.le, .int .i64 k.wi, .int .i64 k.sa, .int .i64 k.sb, .int .i64 k.ba, .int .i64 k.ar, .int .i64 k.ra, .int .i64 k.wa, .int .i64 k.ga, .slice A S.length c], .int .i64 l] w fun e w' => e = .returned (.int .i64 (l - (szS S : Int))) ∧ Below w.heap.size w w' := by
  have HB0 := vl ((Below.refl w.heap.size w).alloc (Nat.le_refl _) (.cells #[.int .i64 k.le, .int .i64 k.wi, .int .i64 k.sa, .int .i64 k.sb, .int .i64 k.ba, .int .i64 k.ar, .int .i64 k.ra, .int .i64 k.wa, .int .i64 k.ga, .slice A S.length c] 68))
  have HT := vl (ht.below HB0.out)
  have h0 : 0 ≤ l - (szS S : Int) := by omega
  clear ht
  go_enter Try.func69, Try.ntmps69
  go_wp2_with fail
  refine (szTS_yes _ _ _ _ _ h2 HT.out h).mono ?_
  rintro e w1 ⟨rfl, hb1⟩
  have HB1 := vl (HB0.out.trans (hb1.mono HB0.out.size))
  clear hb1
  go_wp2
  go_ret
  exact ⟨rfl, HB1.out⟩
/-- What a function that gives a lock leaves: its trains in memory of their own, all else as it was. -/
def GivesK (w : World) (k : Lk) (S : List Tr) (e : Ending) (w' : World) : Prop :=
  (∃ A c g lo hi gg GG, e = .returned (.agg #[.int .i64 k.le, .int .i64 k.wi, .int .i64 k.sa, .int .i64 k.sb, .int .i64 k.ba, .int .i64 k.ar, .int .i64 k.ra, .int .i64 k.wa, .int .i64 k.ga, .slice A S.length c]) ∧ S.length ≤ c ∧ OwnTs w' w.heap.size w'.heap.size A S g lo hi gg GG) ∧ Below w.heap.size w w'
set_option maxRecDepth 100000 in
set_option maxHeartbeats 2000000 in
theorem toLock (k : Lk) (A : Option Addr) (c : Nat) (S : List Tr) (w : World) (hm : ModS S) (hp : ArgTs w A S) :
    Calls Try.prog 71 #[.agg #[.int .i64 k.le, .int .i64 k.wi, .int .i64 k.sa, .int .i64 k.sb, .int .i64 k.ba, .int .i64 k.ar, .int .i64 k.ra, .int .i64 k.wa, .int .i64 k.ga, .slice A S.length c]] w (GivesK w k S) := by
  have HP := vl hp
  have HM := vl hm
  clear hp hm
  go_enter Try.func71, Try.ntmps71
  go_wp2_with fail
  have HB0 := vl ((((Below.refl w.heap.size w).alloc (Nat.le_refl _) (.cells #[.int .i64 k.le, .int .i64 k.wi, .int .i64 k.sa, .int .i64 k.sb, .int .i64 k.ba, .int .i64 k.ar, .int .i64 k.ra, .int .i64 k.wa, .int .i64 k.ga, .slice A S.length c] 68)).alloc (by simp) (.cells #[.int .i64 0, .int .i64 0, .int .i64 0, .int .i64 0, .int .i64 0, .int .i64 0, .int .i64 0, .int .i64 0, .int .i64 0, .slice none 0 0] 73)).alloc (by simp; omega) (.cells #[.int .i64 k.le, .int .i64 k.wi, .int .i64 k.sa, .int .i64 k.sb, .int .i64 k.ba, .int .i64 k.ar, .int .i64 k.ra, .int .i64 k.wa, .int .i64 k.ga, .slice none 0 0] 73))
  refine (toTrainS A c S _ HM.out (HP.out.below HB0.out)).mono ?_
  have HZ0 : KBox (((w.alloc (.cells #[.int .i64 k.le, .int .i64 k.wi, .int .i64 k.sa, .int .i64 k.sb, .int .i64 k.ba, .int .i64 k.ar, .int .i64 k.ra, .int .i64 k.wa, .int .i64 k.ga, .slice A S.length c] 68)).alloc (.cells #[.int .i64 0, .int .i64 0, .int .i64 0, .int .i64 0, .int .i64 0, .int .i64 0, .int .i64 0, .int .i64 0, .int .i64 0, .slice none 0 0] 73)).alloc (.cells #[.int .i64 k.le, .int .i64 k.wi, .int .i64 k.sa, .int .i64 k.sb, .int .i64 k.ba, .int .i64 k.ar, .int .i64 k.ra, .int .i64 k.wa, .int .i64 k.ga, .slice none 0 0] 73)) (w.heap.size + 1) ⟨0, 0, 0, 0, 0, 0, 0, 0, 0⟩ (.slice none 0 0) := by
    have h := (KBox.new (w.alloc (.cells #[.int .i64 k.le, .int .i64 k.wi, .int .i64 k.sa, .int .i64 k.sb, .int .i64 k.ba, .int .i64 k.ar, .int .i64 k.ra, .int .i64 k.wa, .int .i64 k.ga, .slice A S.length c] 68)) ⟨0, 0, 0, 0, 0, 0, 0, 0, 0⟩ (.slice none 0 0) 73).below ((Below.refl _ _).alloc (Nat.le_refl _) (.cells #[.int .i64 k.le, .int .i64 k.wi, .int .i64 k.sa, .int .i64 k.sb, .int .i64 k.ba, .int .i64 k.ar, .int .i64 k.ra, .int .i64 k.wa, .int .i64 k.ga, .slice none 0 0] 73))
    simpa using h
  rintro e w1 ⟨rfl, hb1, lo, hi, gg, GG, hG⟩
  have HZ1 := vl (HZ0.below hb1)
  have q1 : w.heap.size + 1 + 1 + 1 ≤ w1.heap.size := by have := hb1.size; simpa using this
  have q2 : w.heap.size + 1 + 1 < w1.heap.size := by omega
  have q3 : w.heap.size + 1 < w1.heap.size := by omega
  have HB1 := vl (HB0.out.trans (hb1.mono (by simp; omega)))
  obtain ⟨k1, f1⟩ := bcell hb1
  have HG := vl hG
  clear hb1 hG
  clear HZ0
  go_wp2
  clear k1 f1
  obtain ⟨y0, y1, y2, y3, y4, y5, y6, y7, y8, y9⟩ := HZ1.out
  refine bodyPost_ret (v := .agg #[.int .i64 k.le, .int .i64 k.wi, .int .i64 k.sa, .int .i64 k.sb, .int .i64 k.ba, .int .i64 k.ar, .int .i64 k.ra, .int .i64 k.wa, .int .i64 k.ga, .slice (some ⟨w.heap.size + 1 + 1 + 1, 0, none⟩) S.length S.length]) (by simp [results, Try.results71, go_sem, y0, y1, y2, y3, y4, y5, y6, y7, y8, y9]) rfl ?_
  clear y0 y1 y2 y3 y4 y5 y6 y7 y8 y9
  have hG := HG.out
  simp only [World.size_alloc] at hG
  have key : ∀ W' : World, Touch w1 W' (w.heap.size + 1) (w.heap.size + 1 + 1 + 1) → GivesK w k S (.returned (.agg #[.int .i64 k.le, .int .i64 k.wi, .int .i64 k.sa, .int .i64 k.sb, .int .i64 k.ba, .int .i64 k.ar, .int .i64 k.ra, .int .i64 k.wa, .int .i64 k.ga, .slice (some ⟨w.heap.size + 1 + 1 + 1, 0, none⟩) S.length S.length])) W' := fun W' hT =>
    ⟨⟨_, _, w.heap.size + 1 + 1 + 1, lo, hi, gg, GG, rfl, Nat.le_refl _, (hG.touch hT (Or.inr (Nat.le_refl _))).wide (by omega) hT.size⟩, hT.below HB1.out (by omega)⟩
  refine key _ ?_
  iterate 11 (with_reducible refine Touch.set ?_ _ _ _ (by omega) (by omega))
  exact Touch.refl _ _ _
set_option maxRecDepth 100000 in
set_option maxHeartbeats 2000000 in
theorem eqLock (k : Lk) (A A' : Option Addr) (c c' : Nat) (S : List Tr) (w : World) (hm : ModS S) (hp : Trs w A S) (hp' : Trs w A' S) :
    Calls Try.prog 73 #[.agg #[.int .i64 k.le, .int .i64 k.wi, .int .i64 k.sa, .int .i64 k.sb, .int .i64 k.ba, .int .i64 k.ar, .int .i64 k.ra, .int .i64 k.wa, .int .i64 k.ga, .slice A S.length c], .agg #[.int .i64 k.le, .int .i64 k.wi, .int .i64 k.sa, .int .i64 k.sb, .int .i64 k.ba, .int .i64 k.ar, .int .i64 k.ra, .int .i64 k.wa, .int .i64 k.ga, .slice A' S.length c']] w fun e w' => e = .returned (.bool true) ∧ Below w.heap.size w w' := by
  have HB0 := vl (((Below.refl w.heap.size w).alloc (Nat.le_refl _) (.cells #[.int .i64 k.le, .int .i64 k.wi, .int .i64 k.sa, .int .i64 k.sb, .int .i64 k.ba, .int .i64 k.ar, .int .i64 k.ra, .int .i64 k.wa, .int .i64 k.ga, .slice A S.length c] 73)).alloc (by simp) (.cells #[.int .i64 k.le, .int .i64 k.wi, .int .i64 k.sa, .int .i64 k.sb, .int .i64 k.ba, .int .i64 k.ar, .int .i64 k.ra, .int .i64 k.wa, .int .i64 k.ga, .slice A' S.length c'] 73))
  have HP := vl (hp.below HB0.out)
  have HP' := vl (hp'.below HB0.out)
  have HM := vl hm
  clear hp hp' hm
  go_enter Try.func73, Try.ntmps73
  go_wp2_with fail
  refine (eqTrainS _ _ _ _ _ _ HM.out HP.out HP'.out).mono ?_
  rintro e w1 ⟨rfl, hb1⟩
  have HB1 := vl (HB0.out.trans (hb1.mono HB0.out.size))
  clear hb1
  go_wp2
  go_ret
  exact ⟨rfl, HB1.out⟩
end Go.Proofs.Ytmfeleocjmdooaa.C1
