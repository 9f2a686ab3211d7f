/- ShareOut of the model. -/
import Derived.Test.YtngmpimoebggdaaShare
import Derived.Maps.AppendAt
import Derived.Deep.AppendLies
namespace Go.Proofs.Ytngmpimoebggdaa.C1
open Go.ChangeShapes Go.WideShapes Go.ChangeAt Go.RowKit Go.Proofs.Ytngmpimoebggdaa.ShareM
set_option linter.unusedVariables false

def ints (n : Nat) (F : Nat → Int) : List Value := (List.range n).map fun i => Value.int .i64 (F i)
theorem ints_len (n : Nat) (F : Nat → Int) : (ints n F).length = n := by simp [ints]
theorem ints_at (n k : Nat) (F : Nat → Int) (h : k < n) : (ints n F)[k]? = some (.int .i64 (F k)) := by
  unfold ints; rw [List.getElem?_map, List.getElem?_range h]; rfl
theorem ints_snoc (n : Nat) (F : Nat → Int) : ints (n + 1) F = ints n F ++ [.int .i64 (F n)] := by
  unfold ints; rw [List.range_succ, List.map_append]; rfl
theorem ints_congr {n : Nat} {F G : Nat → Int} (h : ∀ i, i < n → F i = G i) : ints n F = ints n G := by
  unfold ints; exact List.map_congr_left fun i hi => by rw [h i (List.mem_range.1 hi)]
theorem ints_set (n b : Nat) (F : Nat → Int) (x : Int) (h : b < n) : (ints n F).set b (.int .i64 x) = ints n (fun i => if i = b then x else F i) := by
  apply List.ext_getElem?
  intro i
  by_cases hi : i < n
  · rw [List.getElem?_set, ints_at n i _ hi, ints_at n i _ hi]
    by_cases e : b = i
    · subst e; rw [if_pos rfl, if_pos (by rw [ints_len]; exact h), if_pos rfl]
    · rw [if_neg e, if_neg (fun e2 => e e2.symm)]
  · rw [List.getElem?_eq_none (by rw [List.length_set, ints_len]; omega), List.getElem?_eq_none (by rw [ints_len]; omega)]
theorem one1i (a : Int) : ∀ x ∈ ([.int .i64 a] : List Value), x.oneCell' = true := by
  intro x hx
  simp at hx
  subst hx
  rfl
theorem news1i {w : World} {g : Nat} {t : TypeId} {u : Value} (h : w.heap[g]? = some (.cells #[u] t (0, 0))) : ∀ (j : Nat) (x : Value), [u][j]? = some x → w.cell? ((⟨g, 0, none⟩ : Addr).add j) = some x :=
  fun j x hx => World.news_of_block h j x hx
theorem own_formI {w : World} {base n size : Nat} {e : TypeId} {v : Value} {xs : List Value} (h : w.ownsRow base e size v n xs) : ∃ A cap, v = .slice A n cap := by
  rcases h.2 with ⟨h0, h1⟩ | ⟨g, cap, cur, h1, _⟩
  · exact ⟨none, 0, by rw [h0, h1]⟩
  · exact ⟨_, cap, h1⟩
theorem SrcG.of_own {w : World} {A : Option Addr} {n cap B : Nat} {F : Nat → Int} (h : w.ownsRow B 3 1 (.slice A n cap) n (ints n F)) : SrcG w A n F := fun hn => by
  obtain ⟨g, e, _, _, _, _⟩ := own_at h hn
  refine ⟨g, e, fun i hi => ?_⟩
  obtain ⟨g', e', _, _, hc, _⟩ := own_at h hi
  rw [e] at e'
  injection e' with e'
  injection e' with e'
  subst e'
  rw [hc, ints_at n i F hi]
/-- Two rows in blocks of their own. -/
def Two (w : World) (B : Nat) (v u : Value) (n : Nat) (F G : Nat → Int) : Prop :=
  w.ownsRow B 3 1 v n (ints n F) ∧ w.ownsRow B 3 1 u n (ints n G) ∧ v.ownBlock ≠ u.ownBlock
theorem infoI : (Try.prog.info? 3).map (fun i => (i.zero, i.size, i.bytes)) = some (some (.int .i64 0), 1, 8) := by kernel_rfl
set_option maxHeartbeats 2000000 in
theorem share_spec_no (total : Int) (A : Option Addr) (n c : Nat) (W : Nat → Int) (w : World) (hn : n ≤ 1048576) (hs : SrcG w A n W) (hf : ¬ Fine total n W) :
    Calls Try.prog 98 #[.int .i64 total, .slice A n c] w fun e w' => (∃ A' cap, e = .returned (.slice A' 0 cap)) ∧ Below w.heap.size w w' := by
  have HS := Lib.hid hs
  have HF := Lib.hid hf
  clear hs hf
  go_enter Try.func98, Try.ntmps98
  go_wp2
  have HB := Lib.hid (((Below.refl w.heap.size w).alloc (Nat.le_refl _) (.cells #[] 3)).alloc (by simp) (.cells #[] 3))
  go_loopw [7, 8] (fun s i wr => ∃ k : Nat, k ≤ n ∧ i = .int .i64 k ∧ s = .int .i64 (sumTo W k) ∧ (k = 0 ∨ n ≤ 12) ∧ Hid (∀ i, i < k → 0 ≤ W i ∧ W i ≤ 1000000) ∧ wr = (w.alloc (.cells #[] 3)).alloc (.cells #[] 3)) (fun _ i _ => n - (intOf i).toNat)
  case atStart => exact ⟨0, by omega, rfl, rfl, Or.inl rfl, fun i hi => by omega, rfl⟩
  case round =>
    obtain ⟨k, hk, rfl, rfl, hk12, HW, rfl⟩ := hrel
    have hkk : k ≤ 12 := by omega
    have hb := sum_part (n := n) hkk HW
    by_cases hlt : k < n
    · obtain ⟨g, rfl, hc⟩ := HS.out (by omega)
      have c0 := hc k hlt
      have hgl : g < w.heap.size := World.block_lt_of_cell? _ _ c0
      clear hc
      by_cases h0 : 0 ≤ W k ∧ W k ≤ 1000000
      · have hi : inB (W k) 0 1000000 = true := inB_yes h0.1 h0.2
        by_cases hl : n ≤ 12
        · obtain ⟨h0, h1⟩ := h0
          go_wp2_with (go_at_call 65; refine (in_spec _ _ _ _).mono ?_; rintro e w' ⟨rfl, rfl⟩)
          go_roundw
          case rel => exact ⟨k + 1, by omega, by go_num, rfl, Or.inr hl, fun i hi => by
            rcases Nat.lt_or_ge i k with h | h
            · exact HW i h
            · obtain rfl : i = k := by omega
              exact ⟨h0, h1⟩, trivial⟩
          case measure => simp [intOf]; omega
        · have hl' : 12 < n := by omega
          clear hl h0
          go_wp2_with (go_at_call 65; refine (in_spec _ _ _ _).mono ?_; rintro e w' ⟨rfl, rfl⟩)
          go_ret
          exact ⟨⟨_, _, rfl⟩, HB.out⟩
      · have hi : inB (W k) 0 1000000 = false := inB_no (by omega)
        clear h0
        go_wp2_with (go_at_call 65; refine (in_spec _ _ _ _).mono ?_; rintro e w' ⟨rfl, rfl⟩)
        go_ret
        exact ⟨⟨_, _, rfl⟩, HB.out⟩
    · obtain rfl : k = n := by omega
      by_cases hz : sumTo W k = 0
      · have hz' : (sumTo W k == 0) = true := by rw [hz]; rfl
        clear hz
        go_wp2
        go_ret
        exact ⟨⟨_, _, rfl⟩, HB.out⟩
      · have hz' : (sumTo W k == 0) = false := by simp [hz]
        have ht : inB total 0 1000000000 = false := inB_no (by
          refine Classical.byContradiction fun h => HF.out ⟨by omega, by omega, hkk, HW, by omega⟩)
        clear hz
        go_wp2_with (go_at_call 65; refine (in_spec _ _ _ _).mono ?_; rintro e w' ⟨rfl, rfl⟩)
        go_ret
        exact ⟨⟨_, _, rfl⟩, HB.out⟩
set_option maxRecDepth 100000 in
set_option maxHeartbeats 8000000 in
theorem share_spec (total : Int) (A : Option Addr) (n c : Nat) (W : Nat → Int) (w : World) (hs : SrcG w A n W) (F : Fine total n W) :
    Calls Try.prog 98 #[.int .i64 total, .slice A n c] w fun e w' => (∃ A' cap E, Sel (rem total (sumTo W n) W) n (left total (sumTo W n) W n).toNat E ∧ e = .returned (.slice A' n cap) ∧ w'.ownsRow w.heap.size 3 1 (.slice A' n cap) n (ints n (share total n W E))) ∧ Below w.heap.size w w' := by
  obtain ⟨i0, hi, hz0, hz1, hz2⟩ := info_parts infoI
  have HS := Lib.hid hs
  have HF := Lib.hid F
  have t0 := F.t0
  have t1 := F.t1
  have n12 := F.n12
  have s0 := F.s
  have hn0 : 0 < n := by
    rcases Nat.eq_zero_or_pos n with e | e
    · rw [e] at s0; exact absurd s0 (Int.lt_irrefl 0)
    · exact e
  have s1 := sum_bd12 F
  have ht : inB total 0 1000000000 = true := inB_yes t0 t1
  have hsz : (sumTo W n == 0) = false := by simp; omega
  have HB := Lib.hid (((Below.refl w.heap.size w).alloc (Nat.le_refl _) (.cells #[] 3)).alloc (by simp) (.cells #[] 3))
  have HO5 := Lib.hid ((World.ownsRow_made (base := w.heap.size) (size := 1) (e := 3) w #[] 0 (Nat.le_refl _) (by decide) rfl).alloc (.cells #[] 3))
  have HO6 := Lib.hid (World.ownsRow_made (base := w.heap.size) (size := 1) (e := 3) (w.alloc (.cells #[] 3)) #[] 0 (by simp) (by decide) rfl)
  clear hs F
  go_enter Try.func98, Try.ntmps98
  go_wp2
  go_loopw [7, 8] (fun s i wr => ∃ k : Nat, k ≤ n ∧ i = .int .i64 k ∧ s = .int .i64 (sumTo W k) ∧ wr = (w.alloc (.cells #[] 3)).alloc (.cells #[] 3)) (fun _ i _ => n - (intOf i).toNat)
  case atStart => exact ⟨0, by omega, rfl, rfl, rfl⟩
  case round =>
    obtain ⟨k, hk, rfl, rfl, rfl⟩ := hrel
    have hb := sum_part (n := n) (by omega : k ≤ 12) (fun i hi => HF.out.w i (by omega))
    by_cases hlt : k < n
    · obtain ⟨g, rfl, hc⟩ := HS.out (by omega)
      have c0 := hc k hlt
      have hgl : g < w.heap.size := World.block_lt_of_cell? _ _ c0
      have hw := HF.out.w k hlt
      have hi : inB (W k) 0 1000000 = true := inB_yes hw.1 hw.2
      clear hc
      go_wp2_with (go_at_call 65; refine (in_spec _ _ _ _).mono ?_; rintro e w' ⟨rfl, rfl⟩)
      go_roundw
      case rel => exact ⟨k + 1, by omega, by go_num, rfl, trivial⟩
      case measure => simp [intOf]; omega
    · obtain rfl : k = n := by omega
      go_wp2_with (go_at_call 65; refine (in_spec _ _ _ _).mono ?_; rintro e w' ⟨rfl, rfl⟩)
      go_loopw [5, 6, 9, 10] (fun v u l i wr => ∃ j : Nat, j ≤ k ∧ i = .int .i64 j ∧ l = .int .i64 (total - sumTo (quo total (sumTo W k) W) j) ∧ Two wr w.heap.size v u j (quo total (sumTo W k) W) (rem total (sumTo W k) W) ∧ Below w.heap.size w wr) (fun _ _ _ i _ => k - (intOf i).toNat)
      case atStart => exact ⟨0, by omega, rfl, by show _ = Value.int .i64 (total - 0); rw [Int.sub_zero], ⟨HO5.out, by have := HO6.out; rw [size_alloc1] at this; exact this, by simp [Value.ownBlock]⟩, HB.out⟩
      case round =>
        obtain ⟨j, hj, rfl, rfl, ⟨ho5, ho6, hne⟩, hb2⟩ := hrel
        have hps := part_sum_bd HF.out hj
        have HB2 := Lib.hid hb2
        have HNE := Lib.hid hne
        by_cases hlt2 : j < k
        · obtain ⟨g, rfl, hc⟩ := (HS.out.below hb2) (by omega)
          have c0 := hc j hlt2
          have HSb := Lib.hid (HS.out.below hb2)
          have hpb := prod_bd HF.out hlt2
          have hqb : 0 ≤ total * W j / sumTo W k ∧ total * W j / sumTo W k ≤ 1000000000 := quo_bd HF.out hlt2
          have hrb : 0 ≤ total * W j % sumTo W k ∧ total * W j % sumTo W k < sumTo W k := rem_bd HF.out hlt2
          have hb2s := hb2.size
          have HX5 := Lib.hid (fun q hq => (ho5.lt q hq))
          have HX6 := Lib.hid (fun q hq => (ho6.lt q hq))
          clear hc hne hb2
          go_wp2_with (at_builtin; refine wpList_append_own_at _ rfl (.tmp 54) (.tmp 63) 47 rfl w.heap.size 3 i0 _ 1 8 Try.underlying47 hi hz0 hz1 hz2 rfl (by decide) _ _ _ rfl (ho5.alloc _) ⟨wr.heap.size, 0, none⟩ 1 1 [.int .i64 (total * W j / sumTo W k)] rfl rfl ?c1 ?c2 ?c3 ?c4 ?c5 ?_)
          case c1 => exact news1i (heap_alloc_new _ _)
          case c2 => exact one1i _
          case c3 => unfold maxLen; omega
          case c4 => omega
          case c5 => simp; omega
          intro v' w4 hown4 hgrow _ hat
          have hb4 := (HB2.out.alloc hb2s (.cells #[.int .i64 (total * W j / sumTo W k)] 3)).grown hgrow (by simp; omega) (fun q hq => (HX5.out q hq).1)
          have HB4 := Lib.hid hb4
          have hb4s := hb4.size
          have h6 := (ho6.alloc (.cells #[.int .i64 (total * W j / sumTo W k)] 3)).kept hgrow (.inr (Ne.symm HNE.out))
          have c0' := ((HS.out.below hb4) (by omega))
          obtain ⟨g', e', hc'⟩ := c0'
          injection e' with e'
          injection e' with e'
          subst e'
          have c1 := hc' j hlt2
          rw [show [Value.int .i64 (total * W j / sumTo W k)] = [.int .i64 (quo total (sumTo W k) W j)] from rfl, ← ints_snoc] at hown4
          have HNE4 : Hid (v'.ownBlock ≠ u6.ownBlock) := by
            rcases hat with e | e
            · rw [e]; exact HNE.out
            · rw [e]; intro e2; have := (HX6.out _ e2.symm).2; omega
          have HX5' := Lib.hid (fun q hq => (hown4.lt q hq))
          have HX6' := Lib.hid (fun q hq => (h6.lt q hq))
          clear hat hgrow hb4 hc' ho5 ho6 c0
          go_wp2_with (at_builtin; refine wpList_append_own_at _ rfl (.tmp 65) (.tmp 74) 47 rfl w.heap.size 3 i0 _ 1 8 Try.underlying47 hi hz0 hz1 hz2 rfl (by decide) _ _ _ rfl (h6.alloc _) ⟨w4.heap.size, 0, none⟩ 1 1 [.int .i64 (total * W j % sumTo W k)] rfl rfl ?d1 ?d2 ?d3 ?d4 ?d5 ?_)
          case d2 => rfl
          case d3 => unfold maxLen; omega
          case d4 => omega
          case d5 => omega
          intro u' w5 hown5 hgrow5 _ hat5
          have hb5 := (HB4.out.alloc hb4s (.cells #[.int .i64 (total * W j % sumTo W k)] 3)).grown hgrow5 (by simp; omega) (fun q hq => (HX6'.out q hq).1)
          have HB5 := Lib.hid hb5
          have h5 := (hown4.alloc (.cells #[.int .i64 (total * W j % sumTo W k)] 3)).kept hgrow5 (.inr HNE4.out)
          rw [show [Value.int .i64 (total * W j % sumTo W k)] = [.int .i64 (rem total (sumTo W k) W j)] from rfl, ← ints_snoc] at hown5
          have HNE5 : Hid (v'.ownBlock ≠ u'.ownBlock) := by
            rcases hat5 with e | e
            · rw [e]; exact HNE4.out
            · rw [e]; intro e2; have := (HX5'.out _ e2).2; omega
          obtain ⟨A5, c5, rfl⟩ := own_formI h5
          have HT := Lib.hid (show Two w5 w.heap.size (.slice A5 (j + 1) c5) u' (j + 1) (quo total (sumTo W k) W) (rem total (sumTo W k) W) from ⟨h5, hown5, HNE5.out⟩)
          obtain ⟨g5, rfl, _, _, c5c, _⟩ := own_at h5 (show j < j + 1 by omega)
          rw [ints_at _ j _ (by omega)] at c5c
          have hps' := part_sum_bd HF.out (k := j + 1) (by omega)
          have hqb2 := quo_bd HF.out hlt2
          clear hat5 hgrow5 hb5 hown4 hown5 h5 h6
          go_wp2
          go_roundw
          case rel => exact ⟨j + 1, by omega, by go_num, congrArg (Value.int .i64) (by
            have e : sumTo (quo total (sumTo W k) W) (j + 1) = sumTo (quo total (sumTo W k) W) j + quo total (sumTo W k) W j := rfl
            omega), HT.out, HB5.out⟩
          case measure => simp [intOf]; omega
        · obtain rfl : k = j := by omega
          clear hlt2 hlt hj hps
          obtain ⟨A5, c5, rfl⟩ := own_formI ho5
          obtain ⟨A6, c6, rfl⟩ := own_formI ho6
          obtain ⟨g5, rfl, hg5, _⟩ := own_at ho5 hn0
          obtain ⟨g6, rfl, hg6, _⟩ := own_at ho6 hn0
          have hg56 : g5 ≠ g6 := by
            intro e; exact hne (by rw [e]; rfl)
          have hlb := left_bd HF.out
          obtain ⟨L, hL⟩ := Int.eq_ofNat_of_zero_le hlb.1
          have hLn : L ≤ k := by omega
          have HL := Lib.hid hL
          have hl : total - sumTo (quo total (sumTo W k) W) k = (L : Int) := hL
          rw [hl]
          have HO5' := Lib.hid ho5
          have HO6' := Lib.hid ho6
          have hz5 : wr.heap.size = wr.heap.size := rfl
          clear hl hL hlb ho5 ho6 hne hz5 hb HO5 HO6
          go_wp2
          go_loopw [9] (fun l w3 => ∃ (t : Nat) (E : Nat → Nat), t ≤ L ∧ l = .int .i64 ((L - t : Nat) : Int) ∧ Hid (Sel (rem total (sumTo W k) W) k t E) ∧ w3.ownsRow w.heap.size 3 1 (.slice (some ⟨g5, 0, none⟩) k c5) k (ints k (fun i => quo total (sumTo W k) W i + inc E t i)) ∧ w3.ownsRow w.heap.size 3 1 (.slice (some ⟨g6, 0, none⟩) k c6) k (ints k (rest (rem total (sumTo W k) W) E t)) ∧ Below w.heap.size w w3) (fun l _ => (intOf l).toNat)
          case atStart =>
            refine ⟨0, fun _ => 0, by omega, rfl, ⟨fun t ht => by omega, fun s t h1 h2 => by omega, fun t ht => by omega⟩, ?_, ?_, HB2.out⟩
            · rw [ints_congr (G := quo total (sumTo W k) W) (fun i _ => by show _ + 0 = _; rw [Int.add_zero])]; exact HO5'.out
            · rw [ints_congr (F := rest (rem total (sumTo W k) W) (fun _ => 0) 0) (G := rem total (sumTo W k) W) (fun i _ => by show (if (0 : Int) = 1 then -1 else _) = _; rw [if_neg (by decide)])]; exact HO6'.out
          case round =>
            obtain ⟨t, E, ht, rfl, HS3, h5, h6, hb3⟩ := hrel
            have H5 := Lib.hid h5
            have H6 := Lib.hid h6
            have HB3 := Lib.hid hb3
            clear h5 h6 hb3
            by_cases hlt3 : t < L
            · obtain ⟨d, hd⟩ : ∃ d, L - t = d + 1 := ⟨L - t - 1, by omega⟩
              have HD := Lib.hid hd
              have hdL : d ≤ 12 := by omega
              have hd' : ((L - t : Nat) : Int) = (d : Int) + 1 := by omega
              rw [hd']
              clear hd hd'
              obtain ⟨w3, rfl⟩ : ∃ w3 : World, w3 = wr := ⟨_, rfl⟩
              go_wp2
              go_loopw [11, 12] (fun b m wi => ∃ bb kk : Nat, b = .int .i64 (bb : Int) ∧ m = .int .i64 (kk : Int) ∧ 1 ≤ kk ∧ kk ≤ k ∧ bb < kk ∧ Hid (∀ j, j < kk → rest (rem total (sumTo W k) W) E t j ≤ rest (rem total (sumTo W k) W) E t bb) ∧ Hid (∀ j, j < bb → rest (rem total (sumTo W k) W) E t j < rest (rem total (sumTo W k) W) E t bb) ∧ ∃ q, wi = w3.drewN q) (fun _ m _ => k - (intOf m).toNat)
              case atStart => exact ⟨0, 1, rfl, rfl, by omega, by omega, by omega, fun j hj => (show j = 0 by omega) ▸ Int.le_refl _, fun j hj => by omega, 0, rfl⟩
              case round =>
                obtain ⟨bb, kk, rfl, rfl, hk1, hkk, hbk, M1, M2, q, rfl⟩ := hrel
                by_cases hlt4 : kk < k
                · obtain ⟨_, e, _, _, ca, _⟩ := own_at H6.out hlt4
                  obtain ⟨_, e', _, _, cb, _⟩ := own_at H6.out (show bb < k by omega)
                  injection e with e
                  injection e with e
                  subst e
                  injection e' with e'
                  injection e' with e'
                  subst e'
                  rw [ints_at k kk _ hlt4] at ca
                  rw [ints_at k bb _ (by omega)] at cb
                  by_cases hgt : rest (rem total (sumTo W k) W) E t bb < rest (rem total (sumTo W k) W) E t kk
                  · go_wp2
                    go_quiet (fail)
                    go_wp2
                    go_roundw
                    case rel => exact ⟨kk, kk + 1, rfl, by go_num, by omega, by omega, by omega, fun j hj => by
                      by_cases e : j = kk
                      · rw [e]; exact Int.le_refl _
                      · have := M1 j (by omega); omega, fun j hj => by have := M1 j (by omega); omega, _, rfl⟩
                    case measure => simp [intOf]; omega
                  · have hle : rest (rem total (sumTo W k) W) E t kk ≤ rest (rem total (sumTo W k) W) E t bb := by omega
                    clear hgt
                    go_wp2
                    go_quiet (fail)
                    go_wp2
                    go_roundw
                    case rel => exact ⟨bb, kk + 1, rfl, by go_num, by omega, by omega, by omega, fun j hj => by
                      by_cases e : j = kk
                      · rw [e]; exact hle
                      · exact M1 j (by omega), M2, _, rfl⟩
                    case measure => simp [intOf]; omega
                · obtain rfl : kk = k := by omega
                  have HN := Lib.hid (sel_next (fun i hi => (rem_bd HF.out hi).1) HS3 (by omega) hbk M1 M2)
                  have hin : inc E t bb = 0 := by
                    rw [← sel_keep (r := fun _ => 0) (t := t) (b := bb) (E := E) bb]
                    exact inc_no fun s hs => by
                      have := HN.out.new s t hs (by omega)
                      simpa using this
                  have HIN := Lib.hid hin
                  obtain ⟨_, e, _, hl5, ca, za⟩ := own_at H5.out hbk
                  obtain ⟨_, e', _, hl6, cb, zb⟩ := own_at H6.out hbk
                  injection e with e
                  injection e with e
                  subst e
                  injection e' with e'
                  injection e' with e'
                  subst e'
                  rw [ints_at kk bb _ hbk, hin, Int.add_zero] at ca
                  rw [ints_at kk bb _ hbk] at cb
                  have hqb := quo_bd HF.out hbk
                  have hst5 := (own_drewN H5.out q).stored bb (.int .i64 (quo total (sumTo W kk) W bb + 1))
                  have hs5 := hst5.1
                  have h6' := (own_drewN H6.out q).kept (grown_set (j := bb) (u := .int .i64 (quo total (sumTo W kk) W bb + 1)) (World.grownBy.refl (w3.drewN q) (some g5))) (.inr (by intro e; injection e with e; exact hg56 e.symm))
                  have hst6 := h6'.stored bb (.int .i64 (-1))
                  have hs6 := hst6.1
                  have hs5' := hs5.kept (grown_set (j := bb) (u := .int .i64 (-1)) (World.grownBy.refl _ (some g6))) (.inr (by intro e; injection e with e; exact hg56 e))
                  rw [ints_set kk bb _ _ hbk] at hs5' hs6
                  have HR5 := Lib.hid hs5'
                  have HR6 := Lib.hid hs6
                  have HBB := Lib.hid (((HB3.out.drewN' q).setCell (p := ⟨g5, bb, none⟩) hg5 (.int .i64 (quo total (sumTo W kk) W bb + 1))).setCell (p := ⟨g6, bb, none⟩) hg6 (.int .i64 (-1)))
                  clear hin hst5 hs5 h6' hst6 hs6 hs5'
                  go_wp2
                  go_roundw
                  case rel =>
                    refine ⟨t + 1, fun s => if s = t then bb else E s, by omega, congrArg (Value.int .i64) (by have := HD.out; omega), HN.out, ?_, ?_, HBB.out⟩
                    · rw [ints_congr (G := fun i => if i = bb then quo total (sumTo W kk) W bb + 1 else quo total (sumTo W kk) W i + inc E t i)]
                      · exact HR5.out
                      · intro i hi
                        simp only [inc_succ, if_pos]
                        rw [sel_keep (r := fun _ => 0)]
                        by_cases e : i = bb
                        · rw [if_pos e, if_pos e.symm, e]
                        · rw [if_neg e, if_neg (fun e2 => e e2.symm)]
                    · rw [ints_congr (G := fun i => if i = bb then -1 else rest (rem total (sumTo W kk) W) E t i)]
                      · exact HR6.out
                      · intro i hi
                        rw [rest_succ]
                        simp only [if_pos]
                        by_cases e : i = bb
                        · rw [if_pos e, if_pos e]
                        · rw [if_neg e, if_neg e]
                          unfold rest
                          rw [sel_keep (r := fun _ => 0)]
                  case measure => simp [intOf]
            · obtain rfl : t = L := by omega
              have hz : ((t - t : Nat) : Int) = 0 := by omega
              rw [hz]
              clear hz
              go_wp2
              go_ret
              exact ⟨⟨_, _, E, by rw [HL.out]; exact HS3, rfl, by
                rw [ints_congr (G := fun i => quo total (sumTo W k) W i + inc E t i)]
                · exact H5.out
                · intro i hi; unfold share; rw [HL.out]; rfl⟩, HB3.out⟩
end Go.Proofs.Ytngmpimoebggdaa.C1
