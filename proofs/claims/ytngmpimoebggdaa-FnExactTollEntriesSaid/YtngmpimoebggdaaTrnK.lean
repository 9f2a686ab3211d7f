/- The laws' marking of boats and trains, and their look back. -/
import Derived.Test.YtngmpimoebggdaaTrLw
import Derived.Test.YtngmpimoebggdaaTch
import Derived.Test.YtngmpimoebggdaaIntK
import Derived.Laws.IdiomCopy
namespace Go.Proofs.Ytngmpimoebggdaa.C1
open Go.ChangeShapes Go.WideShapes Go.ChangeAt Go.RowKit
set_option linter.unusedVariables false

/-- The boat that is marked with six numbers from K + 6 i on. -/
def mkB (K i : Nat) : Bt := ⟨((K + 6 * i : Nat) : Int), ((K + 6 * i + 1 : Nat) : Int), ((K + 6 * i + 2 : Nat) : Int), ((K + 6 * i + 3 : Nat) : Int), ((K + 6 * i + 4 : Nat) : Int), ((K + 6 * i + 5 : Nat) : Int)⟩
def markL (K n : Nat) : List Bt := (List.range n).map (mkB K)
theorem markL_len (K n : Nat) : (markL K n).length = n := by simp [markL]
theorem markL_at {K n i : Nat} (h : i < n) : (markL K n)[i]? = some (mkB K i) := by simp [markL, h]
theorem markL_of {K n i : Nat} {b : Bt} (h : (markL K n)[i]? = some b) : i < n ∧ b = mkB K i := map_range h
theorem eq_mark {M : List Bt} {K n : Nat} (hl : M.length = n) (h : ∀ i, i < n → M[i]? = some (mkB K i)) : M = markL K n := by
  refine List.ext_getElem? fun i => ?_
  rcases Nat.lt_or_ge i n with hi | hi
  · rw [h i hi, markL_at hi]
  · rw [List.getElem?_eq_none (by omega), List.getElem?_eq_none (by rw [markL_len]; omega)]
theorem RowB.set6 {w : World} {A : Option Addr} {L : List Bt} {g k : Nat} (h : RowB w A L g) (hk : k < L.length) (v : Bt) : RowB (w.setCells g (k * 6) v.cells) A (L.set k v) g := by
  refine ⟨fun hn => h.1 (by omega), fun i b hi => ?_⟩
  obtain ⟨x, hx⟩ := get_of hk
  obtain ⟨c0, c1, c2, c3, c4, c5⟩ := h.2 k x hx
  by_cases e : i = k
  · subst e
    rw [List.getElem?_set_self hk] at hi
    injection hi with hi
    subst hi
    have H := World.cell?_setCells_in g v.cells (i * 6) w (fun j hj => by
      have hj6 : j < 6 := hj
      match j, hj6 with
      | 0, _ => rw [show i * 6 + 0 = i * 6 from rfl, c0]; rfl
      | 1, _ => rw [c1]; rfl
      | 2, _ => rw [c2]; rfl
      | 3, _ => rw [c3]; rfl
      | 4, _ => rw [c4]; rfl
      | 5, _ => rw [c5]; rfl)
    exact ⟨H 0 (by show 0 < 6; omega), H 1 (by show 1 < 6; omega), H 2 (by show 2 < 6; omega), H 3 (by show 3 < 6; omega), H 4 (by show 4 < 6; omega), H 5 (by show 5 < 6; omega)⟩
  · rw [List.getElem?_set_ne (fun h => e h.symm)] at hi
    have H : ∀ j, j < 6 → (w.setCells g (k * 6) v.cells).cell? ⟨g, i * 6 + j, none⟩ = w.cell? ⟨g, i * 6 + j, none⟩ := fun j hj => World.cell?_setCells_out _ _ _ _ _ (fun _ _ => by show i * 6 + j < k * 6 ∨ k * 6 + 6 ≤ i * 6 + j; omega)
    obtain ⟨d0, d1, d2, d3, d4, d5⟩ := h.2 i b hi
    exact ⟨(H 0 (by omega)).trans d0, (H 1 (by omega)).trans d1, (H 2 (by omega)).trans d2, (H 3 (by omega)).trans d3, (H 4 (by omega)).trans d4, (H 5 (by omega)).trans d5⟩
set_option maxHeartbeats 2000000 in
theorem markBoatS (A : Option Addr) (c g K : Nat) (L : List Bt) (w : World) (hn : L.length ≤ 1048576) (hK : K ≤ 100000000) (ha : RowB w A L g) (hf : Free w (L.length * 6) g) :
    Calls Try.prog 168 #[.slice A L.length c, .int .i64 (K : Int)] w fun e w' => e = .returned (.int .i64 ((K + 6 * L.length : Nat) : Int)) ∧ RowB w' A (markL K L.length) g ∧ Free w' (L.length * 6) g ∧ w.grownBy w' (some g) := by
  have HA := vl ha
  have HF := vl hf
  clear ha hf
  go_enter Try.func168, Try.ntmps168
  go_wp2
  go_loopw [1, 5] (fun m i wr => ∃ k : Nat, k ≤ L.length ∧ i = .int .i64 k ∧ m = .int .i64 ((K + 6 * k : Nat) : Int) ∧ (∃ M : List Bt, M.length = L.length ∧ Veil (RowB wr A M g) ∧ Veil (∀ i, i < k → M[i]? = some (mkB K i))) ∧ Veil (Free wr (L.length * 6) g) ∧ Veil (w.grownBy wr (some g))) (fun _ i _ => L.length - (intOf i).toNat)
  case atStart => exact ⟨0, by omega, rfl, rfl, ⟨L, rfl, HA, vl fun i hi => by omega⟩, HF, vl (World.grownBy.refl _ _)⟩
  case round =>
    obtain ⟨k, hk, rfl, rfl, ⟨M, hM, HR, HM⟩, H2, HG⟩ := hrel
    by_cases hlt : k < L.length
    · obtain rfl := HA.out.1 (by omega)
      obtain ⟨b, hb⟩ := get_of (L := M) (k := k) (by omega)
      obtain ⟨c0, c1, c2, c3, c4, c5⟩ := HR.out.2 k b hb
      have z0 := H2.out (k * 6) (by omega)
      have z1 := H2.out (k * 6 + 1) (by omega)
      have z2 := H2.out (k * 6 + 2) (by omega)
      have z3 := H2.out (k * 6 + 3) (by omega)
      have z4 := H2.out (k * 6 + 4) (by omega)
      have z5 := H2.out (k * 6 + 5) (by omega)
      have hw : IntKind.i64.wrap ((K + 6 * k : Nat) : Int) = ((K + 6 * k : Nat) : Int) := IntWalk.i64_in _ (by omega)
      clear hb
      go_wp2
      go_roundw
      case rel =>
        have e0 : (K : Int) + 6 * (k : Int) = (mkB K k).i := by unfold mkB; simp only; omega
        have e1 : (K : Int) + 6 * (k : Int) + 1 = (mkB K k).l := by unfold mkB; simp only; omega
        have e2 : (K : Int) + 6 * (k : Int) + 1 + 1 = (mkB K k).w := by unfold mkB; simp only; omega
        have e3 : (K : Int) + 6 * (k : Int) + 1 + 1 + 1 = (mkB K k).d := by unfold mkB; simp only; omega
        have e4 : (K : Int) + 6 * (k : Int) + 1 + 1 + 1 + 1 = (mkB K k).s := by unfold mkB; simp only; omega
        have e5 : (K : Int) + 6 * (k : Int) + 1 + 1 + 1 + 1 + 1 = (mkB K k).c := by unfold mkB; simp only; omega
        refine ⟨k + 1, by omega, by go_num, congrArg (Value.int .i64) (by omega), ?_⟩
        rw [e5, e4, e3, e2, e1, e0]
        refine ⟨⟨M.set k (mkB K k), by rw [List.length_set, hM], vl (HR.out.set6 (k := k) (by omega) (mkB K k)), vl fun i hi => ?_⟩, vl fun i hi => ?_, vl (grown_sets (mkB K k).cells (k * 6) HG.out)⟩
        · by_cases e : i = k
          · subst e; rw [List.getElem?_set_self (by omega)]
          · rw [List.getElem?_set_ne (fun h => e h.symm)]; exact HM.out i (by omega)
        · exact (World.frozen?_setCells g (mkB K k).cells (k * 6) wr _).trans (H2.out i hi)
      case measure => simp [intOf]; omega
    · obtain rfl : k = L.length := by omega
      have he := eq_mark hM HM.out
      subst he
      go_wp2
      go_ret
      exact ⟨rfl, HR.out, H2.out, HG.out⟩
theorem markB (A : Option Addr) (c g K : Nat) (L : List Bt) (w : World) (hn : L.length ≤ 1048576) (hK : K ≤ 100000000) (ha : RowB w A L g) (hf : Free w (L.length * 6) g) :
    Calls Try.prog 168 #[.slice A L.length c, .int .i64 (K : Int)] w fun e w' => e = .returned (.int .i64 ((K + 6 * L.length : Nat) : Int)) ∧ RowB w' A (markL K L.length) g ∧ Free w' (L.length * 6) g ∧ TouchAt w w' g L.length := by
  by_cases h : 0 < L.length
  · exact (markBoatS A c g K L w hn hK ha hf).mono fun e w' ⟨h1, h2, h3, h4⟩ => ⟨h1, h2, h3, fun B Lm hBL => Touch.of_grown h4 (hBL h).1 (hBL h).2⟩
  · have e0 : L = [] := List.eq_nil_of_length_eq_zero (by omega)
    exact (markBoatS A c w.heap.size K L w hn hK ⟨fun h' => absurd h' h, fun i b hi => by have := len_of hi; omega⟩ (fun i hi => by omega)).mono fun e w' ⟨h1, h2, h3, h4⟩ =>
      ⟨h1, ⟨fun h' => by rw [markL_len] at h'; omega, fun i b hi => by have := len_of hi; rw [markL_len] at this; omega⟩, fun i hi => by omega, fun _ _ _ => touch_new' h4⟩
theorem OwnT.setRow {w w' : World} {B L g k c' : Nat} {A Ak : Option Addr} {M : List (List Bt)} {G : Nat → Nat} {r r' : List Bt} (h : OwnT w B L A M g G) (hr : M[k]? = some r) (hl : r'.length = r.length)
    (hc : w.cell? ⟨g, k, none⟩ = some (.slice Ak r.length c')) (hR : RowB w' Ak r' (G k)) (hF : Free w' (r.length * 6) (G k)) (t : TouchAt w w' (G k) r.length) : OwnT w' B L A (M.set k r') g G := by
  have hk := len_of hr
  have hg := h.lt (by omega)
  have hgb : w'.heap[g]? = w.heap[g]? := t.block hg fun hn => fun e => (h.inR k r hr hn).2.2 e.symm
  have hs : ∀ (i : Nat) (s : List Bt), (M.set k r')[i]? = some s → ∃ s0 : List Bt, M[i]? = some s0 ∧ s0.length = s.length := fun i s hi => by
    by_cases e : i = k
    · subst e; rw [List.getElem?_set_self hk] at hi; injection hi with hi; exact ⟨r, hr, by rw [← hi, hl]⟩
    · rw [List.getElem?_set_ne (fun h => e h.symm)] at hi; exact ⟨s, hi, rfl⟩
  refine ⟨fun hn => h.head (by omega), fun _ => h.inG (by omega), fun i s hi => ?_, fun i s hi hn => ?_, fun i j s u hi hj hn hm hne => ?_⟩
  · by_cases e : i = k
    · subst e
      rw [List.getElem?_set_self hk] at hi
      injection hi with hi
      subst hi
      exact ⟨Ak, c', by rw [hl]; exact (World.cell?_of_block hgb).trans hc, hR, by rw [hl]; exact hF⟩
    · rw [List.getElem?_set_ne (fun h => e h.symm)] at hi
      obtain ⟨Ai, ci, c1, c2, c3⟩ := h.row i s hi
      have hb : 0 < s.length → w'.heap[G i]? = w.heap[G i]? := fun hn => t.block (c2.lt hn) fun hn' => h.ne i k s r hi hr hn hn' e
      exact ⟨Ai, ci, (World.cell?_of_block hgb).trans c1, c2.block hb, c3.block fun hn => hb (by omega)⟩
  · obtain ⟨s0, h1, h2⟩ := hs i s hi
    exact h.inR i s0 h1 (by omega)
  · obtain ⟨s0, h1, h2⟩ := hs i s hi
    obtain ⟨u0, h3, h4⟩ := hs j u hj
    exact h.ne i j s0 u0 h1 h3 (by omega) (by omega) hne
/-- Row i, marked; a train, marked. -/
def markRow (T : List (List Bt)) (K i : Nat) : List Bt := markL (K + 6 * (bts (T.take i)).length) ((T[i]?).getD []).length
def markT (T : List (List Bt)) (K : Nat) : List (List Bt) := (List.range T.length).map (markRow T K)
theorem markT_len (T : List (List Bt)) (K : Nat) : (markT T K).length = T.length := by simp [markT]
theorem markT_at {T : List (List Bt)} {K i : Nat} (h : i < T.length) : (markT T K)[i]? = some (markRow T K i) := by simp [markT, h]
theorem markRow_of {T : List (List Bt)} {K i : Nat} {r : List Bt} (h : T[i]? = some r) : markRow T K i = markL (K + 6 * (bts (T.take i)).length) r.length := by unfold markRow; rw [h]; rfl
theorem eq_markT {M T : List (List Bt)} {K : Nat} (hl : M.length = T.length) (h : ∀ i, i < T.length → M[i]? = some (markRow T K i)) : M = markT T K := by
  refine List.ext_getElem? fun i => ?_
  rcases Nat.lt_or_ge i T.length with hi | hi
  · rw [h i hi, markT_at hi]
  · rw [List.getElem?_eq_none (by omega), List.getElem?_eq_none (by rw [markT_len]; omega)]
set_option maxHeartbeats 2000000 in
theorem markBoatSS (A : Option Addr) (c K : Nat) (T : List (List Bt)) (w : World) (hm : Mod T) (hK : K ≤ 50000000) {B L g : Nat} {G : Nat → Nat} (h : OwnT w B L A T g G) :
    Calls Try.prog 103 #[.slice A T.length c, .int .i64 (K : Int)] w fun e w' => e = .returned (.int .i64 ((K + 6 * (bts T).length : Nat) : Int)) ∧ OwnT w' B L A (markT T K) g G ∧ Touch w w' B L := by
  have HO := vl h
  have HM := vl hm
  have hn := hm.rows
  have ha := hm.all
  clear h hm
  go_enter Try.func103, Try.ntmps103
  go_wp2
  go_loopw [1, 5] (fun m i wr => ∃ k : Nat, k ≤ T.length ∧ i = .int .i64 k ∧ m = .int .i64 ((K + 6 * (bts (T.take k)).length : Nat) : Int) ∧ (∃ M : List (List Bt), M.length = T.length ∧ Veil (OwnT wr B L A M g G) ∧ Veil (∀ i, i < k → M[i]? = some (markRow T K i)) ∧ Veil (∀ i, k ≤ i → M[i]? = T[i]?)) ∧ Veil (Touch w wr B L)) (fun _ i _ => T.length - (intOf i).toNat)
  case atStart => exact ⟨0, by omega, rfl, by simp [bts], ⟨T, rfl, HO, vl fun i hi => by omega, vl fun i hi => rfl⟩, vl (Touch.refl _ _ _)⟩
  case round =>
    obtain ⟨k, hk, rfl, rfl, ⟨M, hM, HR, H1, H2⟩, HT⟩ := hrel
    by_cases hlt : k < T.length
    · obtain ⟨r, hr⟩ := get_of hlt
      have hr' : M[k]? = some r := (H2.out k (Nat.le_refl _)).trans hr
      obtain rfl := HR.out.head (by omega)
      obtain ⟨Ak, ck, c0, hR, hF⟩ := HR.out.row k r hr'
      have HK := vl hr
      have HK' := vl hr'
      have HC := vl c0
      have HRF := vl (And.intro hR hF)
      have hq := take_le T (k + 1)
      have he : (bts (T.take (k + 1))).length = (bts (T.take k)).length + r.length := by rw [take_flat hr, List.length_append]
      have HE := vl he
      have hrn := HM.out.row (mem_of hr)
      have HW := vl (markRow_of (K := K) hr)
      clear hr hr' hR hF
      obtain ⟨q, hq0⟩ : ∃ q, q = (bts (T.take k)).length := ⟨_, rfl⟩
      obtain ⟨K1, hK1⟩ : ∃ K1, K1 = K + 6 * q := ⟨_, rfl⟩
      rw [← hq0] at HE HW he ⊢
      rw [← hK1] at HW ⊢
      have hK2 : K1 ≤ 100000000 := by omega
      have hz : (0 : Int) ≤ (K1 : Int) := by omega
      have HK1 := vl hK1
      clear hK1 hq0 he
      go_wp2_with fail
      refine (markB Ak ck (G k) K1 r _ hrn hK2 HRF.out.1 HRF.out.2).mono ?_
      rintro e w1 ⟨rfl, hr1, hf1, ht1⟩
      have HN := vl (HR.out.setRow HK'.out (markL_len K1 r.length) HC.out hr1 hf1 ht1)
      have HT1 := vl (HT.out.trans (ht1 B L fun hn => by have := HR.out.inR k r HK'.out hn; exact ⟨this.1, this.2.1⟩))
      clear hr1 hf1 ht1 c0
      go_wp2
      go_roundw
      case rel =>
        refine ⟨k + 1, by omega, by go_num, congrArg (Value.int .i64) (by rw [HE.out]; have := HK1.out; omega), ⟨M.set k (markL K1 r.length), by rw [List.length_set, hM], HN, vl fun i hi => ?_, vl fun i hi => ?_⟩, HT1⟩
        · by_cases e : i = k
          · subst e; rw [List.getElem?_set_self (by omega), HW.out]
          · rw [List.getElem?_set_ne (fun h => e h.symm)]; exact H1.out i (by omega)
        · rw [List.getElem?_set_ne (by omega)]; exact H2.out i (by omega)
      case measure => simp [intOf]; omega
    · obtain rfl : k = T.length := by omega
      have he := eq_markT hM H1.out
      subst he
      have HF := vl (show bts (T.take T.length) = bts T by rw [List.take_length])
      rw [HF.out]
      go_wp2
      go_ret
      exact ⟨rfl, HR.out, HT.out⟩
theorem markTrain (up : Bool) (A : Option Addr) (c K : Nat) (T : List (List Bt)) (w : World) (hm : Mod T) (hK : K ≤ 50000000) {B L g : Nat} {G : Nat → Nat} (h : OwnT w B L A T g G) (hL : L ≤ w.heap.size) :
    Calls Try.prog 53 #[.agg #[.bool up, .slice A T.length c], .int .i64 (K : Int)] w fun e w' => e = .returned (.int .i64 ((K + 6 * (bts T).length : Nat) : Int)) ∧ OwnT w' B L A (markT T K) g G ∧ Touch w w' B L := by
  have hb := (Below.refl w.heap.size w).alloc (Nat.le_refl _) (.cells #[.bool up, .slice A T.length c] 29)
  have HO := vl (h.below hb)
  have HT := vl (Touch.of_below (B := B) (L := L) hb)
  clear h hb
  go_enter Try.func53, Try.ntmps53
  go_wp2_with fail
  refine (markBoatSS A c K T _ hm hK HO.out).mono ?_
  rintro e w1 ⟨rfl, ho1, ht1⟩
  have HO1 := vl ho1
  have HT1 := vl (HT.out.trans ht1)
  clear ho1 ht1
  go_wp2
  go_ret
  exact ⟨rfl, HO1.out, HT1.out⟩
end Go.Proofs.Ytngmpimoebggdaa.C1
