/- Vessels side by side: of the program. -/
import Derived.Test.YtneapghhnjheaaaVRow
namespace Go.Proofs.Ytneapghhnjheaaa.C1
open Go.ChangeShapes Go.WideShapes Go.ChangeAt Go.RowKit
set_option linter.unusedVariables false

/-- A vessel: its value, its length, its width. -/
structure Vs where
  v : Value
  l : Int
  wd : Int
instance : Inhabited Vs := ⟨⟨.bool false, 0, 0⟩⟩
/-- The value v is a vessel of width n, now and later. -/
def WidV (w : World) (v : Value) (n : Int) : Prop :=
  ∃ (T : TypeId) (x : Value) (fn : FuncId), v = .iface T x ∧ (∀ w' : World, (method 303 T x "loop.example/g03317/impl.width").run Try.prog w' = .ok (fn, x) w') ∧ (∀ (xs : Array Value) (w' : World), (callFunc fn xs).run Try.prog w' = .ok (.enter fn xs) w') ∧ ∀ w', Below w.heap.size w w' → Calls Try.prog fn #[x] w' fun e w'' => e = .returned (.int .i64 n) ∧ Below w'.heap.size w' w''
def LenV (w : World) (v : Value) (n : Int) : Prop :=
  ∃ (T : TypeId) (x : Value) (fn : FuncId), v = .iface T x ∧ (∀ w' : World, (method 303 T x "loop.example/g03317/impl.length").run Try.prog w' = .ok (fn, x) w') ∧ (∀ (xs : Array Value) (w' : World), (callFunc fn xs).run Try.prog w' = .ok (.enter fn xs) w') ∧ ∀ w', Below w.heap.size w w' → Calls Try.prog fn #[x] w' fun e w'' => e = .returned (.int .i64 n) ∧ Below w'.heap.size w' w''
theorem WidV.later {w w2 : World} {v : Value} {n : Int} (h : WidV w v n) (hb : Below w.heap.size w w2) : WidV w2 v n := by
  obtain ⟨T, x, fn, e, h1, h3, h2⟩ := h
  exact ⟨T, x, fn, e, h1, h3, fun w' hb' => h2 w' (hb.trans (hb'.mono hb.size))⟩
theorem LenV.later {w w2 : World} {v : Value} {n : Int} (h : LenV w v n) (hb : Below w.heap.size w w2) : LenV w2 v n := by
  obtain ⟨T, x, fn, e, h1, h3, h2⟩ := h
  exact ⟨T, x, fn, e, h1, h3, fun w' hb' => h2 w' (hb.trans (hb'.mono hb.size))⟩
theorem WidV.one {w : World} {v : Value} {n : Int} (h : WidV w v n) : v.oneCell' = true := by
  obtain ⟨T, x, fn, rfl, _⟩ := h
  rfl
/-- A slice of vessels in memory. -/
def VsR (w : World) (A : Option Addr) (L : List Vs) : Prop := 0 < L.length → ∃ g, A = some ⟨g, 0, none⟩ ∧ ∀ i a, L[i]? = some a → w.cell? ⟨g, i, none⟩ = some a.v
theorem VsR.below {w w' : World} {A : Option Addr} {L : List Vs} (h : VsR w A L) (hb : Below w.heap.size w w') : VsR w' A L := fun hn => by
  obtain ⟨g, e, hc⟩ := h hn
  exact ⟨g, e, fun i a hi => (hb.cell (cell_lt' (hc i a hi))).trans (hc i a hi)⟩
theorem vsr_of_own {w : World} {B : Nat} {t : TypeId} {A : Option Addr} {c : Nat} {L : List Vs} (h : w.ownsRow B t 1 (.slice A L.length c) L.length (L.map Vs.v)) : VsR w A L := fun hn => by
  rcases h.2 with ⟨_, h0⟩ | ⟨g, cap, cur, e, _⟩
  · omega
  · injection e with e1 _ e3
    subst e1; subst e3
    exact ⟨g, rfl, fun i a hi => by
      have hl := len_of hi
      rw [h.cellAt i (by omega), List.getElem?_map, hi]; rfl⟩
set_option maxRecDepth 100000 in
set_option maxHeartbeats 1000000 in
theorem sumV (A : Option Addr) (c : Nat) (L : List Vs) (w : World) (hn : L.length ≤ 8) (hb : ∀ a ∈ L, 0 ≤ a.wd ∧ a.wd ≤ 200) (hw : ∀ a ∈ L, WidV w a.v a.wd) (hp : VsR w A L) :
    Calls Try.prog 98 #[.slice A L.length c] w fun e w' => e = .returned (.int .i64 (sumG Vs.wd L)) ∧ Below w.heap.size w w' := by
  have HP := vl hp
  have HW := vl hw
  have HBd := vl hb
  clear hp hw hb
  go_enter Try.func98, Try.ntmps98
  go_wp2
  go_loopw [3, 8] (fun n i wr => ∃ k : Nat, k ≤ L.length ∧ i = .int .i64 k ∧ n = .int .i64 (fk (fun n (b : Vs) => n + b.wd) 0 L k) ∧ Veil (Below w.heap.size w wr)) (fun _ i _ => L.length - (intOf i).toNat)
  case atStart => exact ⟨0, by omega, rfl, by rw [fk_zero], vl (Below.refl _ _)⟩
  case round =>
    obtain ⟨k, hk, rfl, rfl, HB⟩ := hrel
    by_cases hlt : k < L.length
    · obtain ⟨b, hb⟩ := get_of hlt
      obtain ⟨g, rfl, hc⟩ := (HP.out.below HB.out) (by omega)
      have x0 := hc k b hb
      have HS := vl (fk_succ (f := fun (n : Int) (b : Vs) => n + b.wd) (a := (0 : Int)) hb)
      obtain ⟨s0, s1⟩ := fk_sum (g := Vs.wd) (L := L) (s := 200) (by omega) (fun x hx => (HBd.out x hx).1) (fun x hx => (HBd.out x hx).2) k
      obtain ⟨w0, w1⟩ := HBd.out b (mem_of hb)
      obtain ⟨T, x, fn, e1, hm, he, h2⟩ := HW.out b (mem_of hb)
      rw [e1] at x0
      have HC := vl (h2 wr HB.out)
      clear hc hb h2 e1
      generalize fk (fun n (b : Vs) => n + b.wd) 0 L k = n at HS s0 s1 ⊢
      have s2 : n ≤ 1600 := by omega
      clear s1
      go_wp2_with fail
      refine HC.out.mono ?_
      rintro e w1 ⟨rfl, hb1⟩
      have HB1 := vl (HB.out.trans (hb1.mono HB.out.size))
      clear hb1 hm he x0
      go_wp2
      all_goals
        go_roundw
        case rel => exact ⟨k + 1, by omega, by go_num, congrArg (Value.int .i64) (by rw [HS.out]), HB1⟩
        case measure => simp [intOf]; omega
    · obtain rfl : k = L.length := by omega
      go_wp2
      go_ret
      exact ⟨by rw [fk_end]; rfl, HB.out⟩
def topG (L : List Vs) : Int := L.foldl (fun n a => max n a.l) 0
set_option maxRecDepth 100000 in
set_option maxHeartbeats 1000000 in
theorem greatV (A : Option Addr) (c : Nat) (L : List Vs) (w : World) (hn : L.length ≤ 8) (hw : ∀ a ∈ L, LenV w a.v a.l) (hp : VsR w A L) :
    Calls Try.prog 99 #[.slice A L.length c] w fun e w' => e = .returned (.int .i64 (topG L)) ∧ Below w.heap.size w w' := by
  have HP := vl hp
  have HW := vl hw
  clear hp hw
  go_enter Try.func99, Try.ntmps99
  go_wp2
  go_loopw [3, 8] (fun n i wr => ∃ k : Nat, k ≤ L.length ∧ i = .int .i64 k ∧ n = .int .i64 (fk (fun n (b : Vs) => max n b.l) 0 L k) ∧ Veil (Below w.heap.size w wr)) (fun _ i _ => L.length - (intOf i).toNat)
  case atStart => exact ⟨0, by omega, rfl, by rw [fk_zero], vl (Below.refl _ _)⟩
  case round =>
    obtain ⟨k, hk, rfl, rfl, HB⟩ := hrel
    by_cases hlt : k < L.length
    · obtain ⟨b, hb⟩ := get_of hlt
      obtain ⟨g, rfl, hc⟩ := (HP.out.below HB.out) (by omega)
      have x0 := hc k b hb
      have HS := vl (fk_succ (f := fun (n : Int) (b : Vs) => max n b.l) (a := (0 : Int)) hb)
      obtain ⟨T, x, fn, e1, hm, he, h2⟩ := HW.out b (mem_of hb)
      rw [e1] at x0
      have HC := vl (h2 wr HB.out)
      clear hc hb h2 e1
      generalize fk (fun n (b : Vs) => max n b.l) 0 L k = n at HS ⊢
      go_wp2_with fail
      refine HC.out.mono ?_
      rintro e w1 ⟨rfl, hb1⟩
      have HB1 := vl (HB.out.trans (hb1.mono HB.out.size))
      clear hb1 hm he x0
      go_wp2
      all_goals
        go_roundw
        case rel => exact ⟨k + 1, by omega, by go_num, congrArg (Value.int .i64) (by rw [HS.out]; omega), HB1⟩
        case measure => simp [intOf]; omega
    · obtain rfl : k = L.length := by omega
      go_wp2
      go_ret
      exact ⟨by rw [fk_end]; rfl, HB.out⟩
theorem own_rowV (w : World) (v : Value) : (w.alloc (.cells #[v] 153)).ownsRow w.heap.size 153 1 (.slice (some ⟨w.heap.size, 0, none⟩) 1 1) 1 [v] :=
  ⟨rfl, Or.inr ⟨w.heap.size, 1, _, rfl, Nat.le_refl _, heap_alloc_new _ _, Nat.le_refl _, by decide, rfl, rfl⟩⟩
theorem VRows.slot {w w2 : World} {B g0 d g cap : Nat} {M : List (List Value)} {r r' : List Value} {xs : List Value} {x : Value}
    (h : VRows w B (.slice (some ⟨g0, 0, none⟩) (M.length + 1) d) (M ++ [r]) (xs ++ [x])) (hown : w2.ownsRow B 153 1 (.slice (some ⟨g, 0, none⟩) r'.length cap) r'.length r')
    (hgr : w.grownBy w2 x.ownBlock) : w2.cell? ⟨g0, M.length, none⟩ = some x ∧ w2.frozen? ⟨g0, M.length, none⟩ = false := by
  have hl : xs.length = M.length := by have := h.len; simp at this; exact this
  have hne30 : (153 : TypeId) ≠ 105 := by decide
  obtain ⟨x', hx', hx⟩ := h.row M.length r (by simp)
  have ex : x' = x := by
    rw [List.getElem?_append_right (by omega), hl, Nat.sub_self] at hx'
    simpa using hx'.symm
  subst ex
  have hs2 : w2.ownsRow B 105 1 (.slice (some ⟨g0, 0, none⟩) (M.length + 1) d) (M.length + 1) (xs ++ [x']) := by
    have := h.own.kept hgr (by
      rcases own_ne hx h.own hne30 with h1 | h1
      · rw [h1]; exact Or.inr (by simp [Value.ownBlock])
      · exact Or.inr fun e => h1 e.symm)
    simpa using this
  exact ⟨by rw [hs2.cellAt _ (by omega)]; exact hx', hs2.frozenAt _⟩
theorem infoVS : (Try.prog.info? 105).map (fun i => (i.zero, i.size, i.bytes)) = some (some (.slice none 0 0), 1, 24) := by kernel_rfl
def rowsV (M : List (List Vs)) : List (List Value) := M.map (List.map Vs.v)
theorem rowsV_len (M : List (List Vs)) : (rowsV M).length = M.length := by simp [rowsV]
theorem rowsV_snoc (M : List (List Vs)) (r : List Vs) : rowsV (M ++ [r]) = rowsV M ++ [r.map Vs.v] := by simp [rowsV]
set_option maxRecDepth 100000 in
set_option maxHeartbeats 4000000 in
theorem side_impl (W : Int) (A : Option Addr) (c : Nat) (L : List Vs) (w : World) (hn : L.length ≤ 8) (hb : ∀ a ∈ L, 0 ≤ a.wd ∧ a.wd ≤ 200) (hw : ∀ a ∈ L, WidV w a.v a.wd) (hp : VsR w A L) :
    Calls Try.prog 85 #[.int .i64 W, .slice A L.length c] w fun e w' => (∃ v xs, e = .returned v ∧ VRows w' w.heap.size v (rowsV (sideG W Vs.wd L)) xs) ∧ Below w.heap.size w w' := by
  have HP := vl hp
  have HW := vl hw
  have HBd := vl hb
  clear hp hw hb
  obtain ⟨i0, hi, hz0, hz1, hz2⟩ := info_parts infoV
  obtain ⟨j0, hj, hy0, hy1, hy2⟩ := info_parts infoVS
  go_enter Try.func85, Try.ntmps85
  go_wp2
  go_loopw [5, 11] (fun v i wr => ∃ (k : Nat) (xs : List Value), k ≤ L.length ∧ i = .int .i64 k ∧ Veil (Below w.heap.size w wr) ∧ Veil (VRows wr w.heap.size v (rowsV (sideG W Vs.wd (L.take k))) xs)) (fun _ i _ => L.length - (intOf i).toNat)
  case atStart => exact ⟨0, [], by omega, rfl, vl (Below.refl _ _), vl (VRows.nil _ _)⟩
  case round =>
    obtain ⟨k, xs, hk, rfl, HB, HM⟩ := hrel
    by_cases hlt : k < L.length
    · obtain ⟨⟨av, al, aw⟩, ha⟩ := get_of hlt
      obtain ⟨T, x, fn, e1, hm, he, h2⟩ := (HW.out ⟨av, al, aw⟩ (mem_of ha)).later HB.out
      simp only at e1
      subst e1
      have HWa := vl (And.intro hm (And.intro he h2))
      clear hm he h2
      obtain ⟨g, rfl, hc⟩ := HP.out (by omega)
      have x0 := (HB.out.cell (cell_lt' (hc k _ ha))).trans (hc k _ ha)
      have HS := vl (sideG_take (W := W) (wd := Vs.wd) ha)
      obtain ⟨w0, w1⟩ := HBd.out _ (mem_of ha)
      simp only at w0 w1 x0
      have hMl : (sideG W Vs.wd (L.take k)).length ≤ k := by
        have := sideG_len (W := W) (wd := Vs.wd) (L := L.take k)
        rw [List.length_take] at this; omega
      have HRow := vl (fun r hr => sideG_row (W := W) (wd := Vs.wd) (L := L.take k) (r := r) hr)
      have HTk := vl (fun (x : Vs) (hx : x ∈ L.take k) => List.mem_of_mem_take hx)
      clear hc ha
      generalize sideG W Vs.wd (L.take k) = M at HM HS hMl HRow ⊢
      rcases lastG M with rfl | ⟨M', r, rfl⟩
      · have HQ := vl (show sideG W Vs.wd (L.take (k + 1)) = [[⟨.iface T x, al, aw⟩]] from HS.out)
        have hxs : xs = [] := List.eq_nil_of_length_eq_zero (by have := HM.out.len; simpa [rowsV] using this)
        subst hxs
        obtain ⟨V, d, rfl, _⟩ := own_src HM.out.own
        rw [show (rowsV []).length = 0 from rfl] at HM ⊢
        have hba := (Below.refl wr.heap.size wr).alloc (Nat.le_refl _) (.cells #[.iface T x] 153)
        have HMa := vl (HM.out.below hba)
        have HU := vl (own_rowV wr (.iface T x))
        have HBa := vl hba
        clear hba
        go_wp2_with (at_builtin; refine wpList_app rfl _ _ 103 rfl w.heap.size 105 j0 _ 1 24 Try.underlying103 hj hy0 hy1 hy2 rfl (by decide) (.slice V 0 d) 0 [] rfl (HMa.out.own.alloc _) (some ⟨wr.heap.size + 1, 0, none⟩) 1 1 [.slice (some ⟨wr.heap.size, 0, none⟩) 1 1] rfl rfl (fun _ => ⟨⟨wr.heap.size + 1, 0, none⟩, rfl, fun j u hu => World.news_of_block (by have := heap_alloc_new (wr.alloc (.cells #[.iface T x] 153)) (.cells #[.slice (some ⟨wr.heap.size, 0, none⟩) 1 1] 105); simpa using this) j u (by simpa using hu)⟩) (fun x hx => by simp at hx; subst hx; rfl) (by unfold maxLen; omega) (by omega) (by have := HB.out.size; simp; omega) ?_)
        intro v' w3 hown hgr
        have HM3 := vl (HM.out.snoc HB.out.size HBa.out HU.out (by simpa [rowsV] using hown) hgr)
        have hb3 : Below w.heap.size wr w3 := (HBa.out.mono HB.out.size).trans (((Below.refl w.heap.size _).alloc (by have := HB.out.size; simp; omega) _).trans (below_app' (HMa.out.own.alloc _) hgr (by have := HB.out.size; simp; omega)))
        have HB3 := vl (HB.out.trans hb3)
        clear hown hgr hb3
        go_wp2
        go_roundw
        case rel => exact ⟨k + 1, _, by omega, by go_num, HB3, vl (by rw [HQ.out]; exact HM3.out)⟩
        case measure => simp [intOf]; omega
      · have hrl : (rowsV (M' ++ [r])).length = M'.length + 1 := by rw [rowsV_len]; simp
        have hm' : (rowsV M').length = M'.length := rowsV_len M'
        have hMk : M'.length + 1 ≤ k := by simp at hMl; exact hMl
        obtain ⟨V, d, rfl, _⟩ := own_src HM.out.own
        rw [hrl] at HM ⊢
        obtain ⟨g0, rfl⟩ : ∃ g0, V = some ⟨g0, 0, none⟩ := by
          rcases HM.out.own.2 with ⟨_, h0⟩ | ⟨g, cap, cur, e, _⟩
          · rw [hrl] at h0; omega
          · injection e with e1; exact ⟨g, e1⟩
        obtain ⟨xs', u, rfl⟩ : ∃ xs' u, xs = xs' ++ [u] := by
          rcases lastG (α := Value) [xs] with h | ⟨_, _, h⟩
          · cases h
          · rcases List.eq_nil_or_concat xs with h | ⟨M2, r2, h⟩
            · have := HM.out.len; rw [hrl, h] at this; simp at this
            · exact ⟨M2, r2, by simpa using h⟩
        have hxl : xs'.length = M'.length := by have := HM.out.len; rw [hrl] at this; simpa using this
        obtain ⟨u', hu', hxo⟩ := HM.out.row M'.length (r.map Vs.v) (by rw [rowsV_snoc, List.getElem?_append_right (by omega), hm', Nat.sub_self]; rfl)
        have eu : u' = u := by
          rw [List.getElem?_append_right (by omega), hxl, Nat.sub_self] at hu'
          simpa using hu'.symm
        subst eu
        rw [List.length_map] at hxo
        obtain ⟨Ax, cx, rfl, _⟩ := own_src hxo
        have hrr := HRow.out r (by simp)
        have hr8 : r.length ≤ 8 := by have := hrr.1; rw [List.length_take] at this; omega
        have c1 : wr.cell? ⟨g0, M'.length, none⟩ = some (.slice Ax r.length cx) := by
          have h := HM.out.own
          rw [hrl] at h
          rw [h.cellAt _ (by omega)]; exact hu'
        have HV := vl (vsr_of_own hxo)
        have HRb := vl (fun (b : Vs) (hb : b ∈ r) => HBd.out b (HTk.out b (hrr.2 b hb)))
        have HRw := vl (fun (b : Vs) (hb : b ∈ r) => (HW.out b (HTk.out b (hrr.2 b hb))).later HB.out)
        obtain ⟨s0, s1⟩ := sumG_bd (wd := Vs.wd) (r := r) (hi := 200) (by omega) HRb.out
        have HXO := vl hxo
        have hB0 := HB.out.size
        clear hxo hu' hrr hMl
        go_wp2_with fail
        refine (sumV Ax cx r _ hr8 HRb.out HRw.out HV.out).mono ?_
        rintro e w2 ⟨rfl, hb2⟩
        have HB2 := vl hb2
        clear hb2
        have HSM := vl (show ∀ z, z = sumG Vs.wd r → (z + aw ≤ W → sideG W Vs.wd (L.take (k + 1)) = M' ++ [r ++ [⟨.iface T x, al, aw⟩]]) ∧ (¬ z + aw ≤ W → sideG W Vs.wd (L.take (k + 1)) = (M' ++ [r]) ++ [[⟨.iface T x, al, aw⟩]]) from fun z hz => ⟨fun h => by rw [HS.out]; exact putG_in (by rw [← hz]; exact h), fun h => by rw [HS.out]; exact putG_new (by rw [← hz]; exact h)⟩)
        obtain ⟨sm, hsm⟩ : ∃ sm, sm = sumG Vs.wd r := ⟨_, rfl⟩
        have HSM2 := vl (HSM.out sm hsm)
        rw [← hsm] at s0 s1 ⊢
        have s2 : sm ≤ 1600 := by omega
        clear hsm HSM s1
        obtain ⟨hm, he, h2⟩ := HWa.out
        have HC := vl (h2 w2 HB2.out)
        clear h2
        go_wp2_with fail
        refine HC.out.mono ?_
        rintro e w3 ⟨rfl, hb3⟩
        have HB3 := vl (HB2.out.trans (hb3.mono HB2.out.size))
        have hB3 := HB3.out.size
        have HM3 := vl (HM.out.below HB3.out)
        have HX3 := vl (own_below HXO.out HB3.out)
        have c3 := (HB3.out.cell (cell_lt' c1)).trans c1
        have hg0 := HM.out.own.lt g0 rfl
        clear hb3 hm he HC c1
        rw [rowsV_snoc] at HM3
        by_cases hfit : sm + aw ≤ W
        · have HQ := vl (HSM2.out.1 hfit)
          have hba := (Below.refl w3.heap.size w3).alloc (Nat.le_refl _) (.cells #[.iface T x] 153)
          have HMa := vl (HM3.out.below hba)
          have hrv : (r.map Vs.v ++ [Value.iface T x]).length = r.length + 1 := by simp
          clear hba
          go_wp2_with (at_builtin; refine wpList_append_lies _ rfl _ _ 105 rfl w.heap.size 153 i0 .nilIface 1 16 Try.underlying105 hi hz0 hz1 hz2 rfl (by decide) (.slice Ax r.length cx) r.length (r.map Vs.v) rfl (HX3.out.alloc _) ⟨w3.heap.size, 0, none⟩ 1 1 [.iface T x] rfl rfl (fun j u hu => World.news_of_block (heap_alloc_new _ _) j u (by simpa using hu)) (fun u hu => by simp at hu; subst hu; rfl) (by omega) (by unfold maxLen; omega) (by omega) (by simp; omega) _ rfl ?_)
          intro g3 cap w4 hown hgrow hat hlt3
          have hown' : w4.ownsRow w.heap.size 153 1 (.slice (some ⟨g3, 0, none⟩) (r.map Vs.v ++ [Value.iface T x]).length cap) (r.map Vs.v ++ [Value.iface T x]).length (r.map Vs.v ++ [Value.iface T x]) := by rw [hrv]; exact hown
          have hMa : VRows (w3.alloc (.cells #[.iface T x] 153)) w.heap.size (.slice (some ⟨g0, 0, none⟩) ((rowsV M').length + 1) d) (rowsV M' ++ [r.map Vs.v]) (xs' ++ [.slice Ax r.length cx]) := by rw [hm']; exact HMa.out
          have HG4 := vl (hMa.growLast hown' hgrow (by rw [World.size_alloc]; exact hat))
          obtain ⟨d1, d2⟩ := hMa.slot hown' hgrow
          rw [hm'] at d1 d2
          have hb4 : Below w.heap.size wr w4 := (HB3.out.mono hB0).trans (((Below.refl w.heap.size w3).alloc (by omega) (.cells #[.iface T x] 153)).trans (below_app' (HX3.out.alloc (.cells #[.iface T x] 153)) hgrow (by simp; omega)))
          have HB4 := vl (HB.out.trans hb4)
          clear hown hown' hgrow hat hlt3 hMa hb4 HMa
          rw [hm', hrv] at HG4
          go_wp2
          go_roundw
          case rel => exact ⟨k + 1, _, by omega, by go_num, vl (HB4.out.setCell hg0.1 _), vl (by rw [HQ.out, rowsV_snoc, List.map_append]; exact HG4.out)⟩
          case measure => simp [intOf]; omega
        · have hov : W < sm + aw := by omega
          have HQ := vl (HSM2.out.2 (by first | exact hov | exact hfit))
          clear hfit
          have hba := (Below.refl w3.heap.size w3).alloc (Nat.le_refl _) (.cells #[.iface T x] 153)
          have HMa := vl (HM3.out.below hba)
          have HU := vl (own_rowV w3 (.iface T x))
          have HBa := vl hba
          have hml : (rowsV M' ++ [r.map Vs.v]).length = M'.length + 1 := by simp [rowsV]
          clear hba
          go_wp2_with (at_builtin; refine wpList_app rfl _ _ 103 rfl w.heap.size 105 j0 _ 1 24 Try.underlying103 hj hy0 hy1 hy2 rfl (by decide) (.slice (some ⟨g0, 0, none⟩) (M'.length + 1) d) (M'.length + 1) (xs' ++ [.slice Ax r.length cx]) rfl (by have := HMa.out.own; rw [hml] at this; exact this.alloc _) (some ⟨w3.heap.size + 1, 0, none⟩) 1 1 [.slice (some ⟨w3.heap.size, 0, none⟩) 1 1] rfl rfl (fun _ => ⟨⟨w3.heap.size + 1, 0, none⟩, rfl, fun j u hu => World.news_of_block (by have := heap_alloc_new (w3.alloc (.cells #[.iface T x] 153)) (.cells #[.slice (some ⟨w3.heap.size, 0, none⟩) 1 1] 105); simpa using this) j u (by simpa using hu)⟩) (fun x hx => by simp at hx; subst hx; rfl) (by unfold maxLen; omega) (by omega) (by simp; omega) ?_)
          intro v' w4 hown hgr
          have HM4 := vl (HM3.out.snoc (by omega) HBa.out HU.out (by rw [hml, List.append_assoc]; exact hown) hgr)
          have hb4 : Below w.heap.size wr w4 := (HB3.out.mono hB0).trans ((HBa.out.mono (by omega)).trans (((Below.refl w.heap.size _).alloc (by simp; omega) _).trans (below_app' (HMa.out.own.alloc _) hgr (by simp; omega))))
          have HB4 := vl (HB.out.trans hb4)
          clear hown hgr hb4
          go_wp2
          go_roundw
          case rel => exact ⟨k + 1, _, by omega, by go_num, HB4, vl (by rw [HQ.out, rowsV_snoc, rowsV_snoc]; exact HM4.out)⟩
          case measure => simp [intOf]; omega
    · obtain rfl : k = L.length := by omega
      have HM2 := HM
      rw [List.take_length] at HM2
      go_wp2
      go_ret
      exact ⟨⟨_, xs, rfl, HM2.out⟩, HB.out⟩
end Go.Proofs.Ytneapghhnjheaaa.C1
