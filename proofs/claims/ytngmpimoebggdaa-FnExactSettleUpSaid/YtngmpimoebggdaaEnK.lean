/- The laws' marking of slices of entries, and their look back. -/
import Derived.Test.YtngmpimoebggdaaEn
import Derived.Test.YtngmpimoebggdaaTch
import Derived.Test.YtngmpimoebggdaaIntK
namespace Go.Proofs.Ytngmpimoebggdaa.C1
open Go.ChangeShapes Go.WideShapes Go.ChangeAt Go.RowKit
set_option linter.unusedVariables false

/-- The entry that is marked with five numbers from K + 5 i on. -/
def mkE (K i : Nat) : En := ⟨((K + 5 * i : Nat) : Int), ((K + 5 * i + 1 : Nat) : Int), ((K + 5 * i + 2 : Nat) : Int), ((K + 5 * i + 3 : Nat) : Int), ((K + 5 * i + 4 : Nat) : Int)⟩
def markLE (K n : Nat) : List En := (List.range n).map (mkE K)
theorem markLE_len (K n : Nat) : (markLE K n).length = n := by simp [markLE]
theorem markLE_at {K n i : Nat} (h : i < n) : (markLE K n)[i]? = some (mkE K i) := by simp [markLE, h]
theorem eq_markE {M : List En} {K n : Nat} (hl : M.length = n) (h : ∀ i, i < n → M[i]? = some (mkE K i)) : M = markLE K n := by
  refine List.ext_getElem? fun i => ?_
  rcases Nat.lt_or_ge i n with hi | hi
  · rw [h i hi, markLE_at hi]
  · rw [List.getElem?_eq_none (by omega), List.getElem?_eq_none (by rw [markLE_len]; omega)]
theorem RowE.set5 {w : World} {A : Option Addr} {L : List En} {g k : Nat} (h : RowE w A L g) (hk : k < L.length) (v : En) : RowE (w.setCells g (k * 5) v.cells) A (L.set k v) g := by
  refine ⟨fun hn => h.1 (by omega), fun i b hi => ?_⟩
  obtain ⟨x, hx⟩ := get_of hk
  obtain ⟨c0, c1, c2, c3, c4⟩ := h.2 k x hx
  by_cases e : i = k
  · subst e
    rw [List.getElem?_set_self hk] at hi
    injection hi with hi
    subst hi
    have H := World.cell?_setCells_in g v.cells (i * 5) w (fun j hj => by
      have hj6 : j < 5 := hj
      match j, hj6 with
      | 0, _ => rw [show i * 5 + 0 = i * 5 from rfl, c0]; rfl
      | 1, _ => rw [c1]; rfl
      | 2, _ => rw [c2]; rfl
      | 3, _ => rw [c3]; rfl
      | 4, _ => rw [c4]; rfl)
    exact ⟨H 0 (by show 0 < 5; omega), H 1 (by show 1 < 5; omega), H 2 (by show 2 < 5; omega), H 3 (by show 3 < 5; omega), H 4 (by show 4 < 5; omega)⟩
  · rw [List.getElem?_set_ne (fun h => e h.symm)] at hi
    have H : ∀ j, j < 5 → (w.setCells g (k * 5) v.cells).cell? ⟨g, i * 5 + j, none⟩ = w.cell? ⟨g, i * 5 + j, none⟩ := fun j hj => World.cell?_setCells_out _ _ _ _ _ (fun _ _ => by show i * 5 + j < k * 5 ∨ k * 5 + 5 ≤ i * 5 + j; omega)
    obtain ⟨d0, d1, d2, d3, d4⟩ := h.2 i b hi
    exact ⟨(H 0 (by omega)).trans d0, (H 1 (by omega)).trans d1, (H 2 (by omega)).trans d2, (H 3 (by omega)).trans d3, (H 4 (by omega)).trans d4⟩
set_option maxHeartbeats 2000000 in
theorem markEntryS (A : Option Addr) (c g K : Nat) (L : List En) (w : World) (hn : L.length ≤ 1048576) (hK : K ≤ 100000000) (ha : RowE w A L g) (hf : Free w (L.length * 5) g) :
    Calls Try.prog 47 #[.slice A L.length c, .int .i64 (K : Int)] w fun e w' => e = .returned (.int .i64 ((K + 5 * L.length : Nat) : Int)) ∧ RowE w' A (markLE K L.length) g ∧ Free w' (L.length * 5) g ∧ w.grownBy w' (some g) := by
  have HA := vl ha
  have HF := vl hf
  clear ha hf
  go_enter Try.func47, Try.ntmps47
  go_wp2
  go_loopw [1, 5] (fun m i wr => ∃ k : Nat, k ≤ L.length ∧ i = .int .i64 k ∧ m = .int .i64 ((K + 5 * k : Nat) : Int) ∧ (∃ M : List En, M.length = L.length ∧ Veil (RowE wr A M g) ∧ Veil (∀ i, i < k → M[i]? = some (mkE K i))) ∧ Veil (Free wr (L.length * 5) g) ∧ Veil (w.grownBy wr (some g))) (fun _ i _ => L.length - (intOf i).toNat)
  case atStart => exact ⟨0, by omega, rfl, rfl, ⟨L, rfl, HA, vl fun i hi => by omega⟩, HF, vl (World.grownBy.refl _ _)⟩
  case round =>
    obtain ⟨k, hk, rfl, rfl, ⟨M, hM, HR, HM⟩, H2, HG⟩ := hrel
    by_cases hlt : k < L.length
    · obtain rfl := HA.out.1 (by omega)
      obtain ⟨b, hb⟩ := get_of (L := M) (k := k) (by omega)
      obtain ⟨c0, c1, c2, c3, c4⟩ := HR.out.2 k b hb
      have z0 := H2.out (k * 5) (by omega)
      have z1 := H2.out (k * 5 + 1) (by omega)
      have z2 := H2.out (k * 5 + 2) (by omega)
      have z3 := H2.out (k * 5 + 3) (by omega)
      have z4 := H2.out (k * 5 + 4) (by omega)
      have hw : IntKind.i64.wrap ((K + 5 * k : Nat) : Int) = ((K + 5 * k : Nat) : Int) := IntWalk.i64_in _ (by omega)
      clear hb
      go_wp2
      go_roundw
      case rel =>
        have e0 : (K : Int) + 5 * (k : Int) = (mkE K k).f := by unfold mkE; simp only; omega
        have e1 : (K : Int) + 5 * (k : Int) + 1 = (mkE K k).t := by unfold mkE; simp only; omega
        have e2 : (K : Int) + 5 * (k : Int) + 1 + 1 = (mkE K k).a := by unfold mkE; simp only; omega
        have e3 : (K : Int) + 5 * (k : Int) + 1 + 1 + 1 = (mkE K k).m := by unfold mkE; simp only; omega
        have e4 : (K : Int) + 5 * (k : Int) + 1 + 1 + 1 + 1 = (mkE K k).y := by unfold mkE; simp only; omega
        refine ⟨k + 1, by omega, by go_num, congrArg (Value.int .i64) (by omega), ?_⟩
        rw [e4, e3, e2, e1, e0]
        refine ⟨⟨M.set k (mkE K k), by rw [List.length_set, hM], vl (HR.out.set5 (k := k) (by omega) (mkE K k)), vl fun i hi => ?_⟩, vl fun i hi => ?_, vl (grown_sets (mkE K k).cells (k * 5) HG.out)⟩
        · by_cases e : i = k
          · subst e; rw [List.getElem?_set_self (by omega)]
          · rw [List.getElem?_set_ne (fun h => e h.symm)]; exact HM.out i (by omega)
        · exact (World.frozen?_setCells g (mkE K k).cells (k * 5) wr _).trans (H2.out i hi)
      case measure => simp [intOf]; omega
    · obtain rfl : k = L.length := by omega
      have he := eq_markE hM HM.out
      subst he
      go_wp2
      go_ret
      exact ⟨rfl, HR.out, H2.out, HG.out⟩
theorem markE (A : Option Addr) (c g K : Nat) (L : List En) (w : World) (hn : L.length ≤ 1048576) (hK : K ≤ 100000000) (ha : RowE w A L g) (hf : Free w (L.length * 5) g) :
    Calls Try.prog 47 #[.slice A L.length c, .int .i64 (K : Int)] w fun e w' => e = .returned (.int .i64 ((K + 5 * L.length : Nat) : Int)) ∧ RowE w' A (markLE K L.length) g ∧ Free w' (L.length * 5) g ∧ TouchAt w w' g L.length := by
  by_cases h : 0 < L.length
  · exact (markEntryS A c g K L w hn hK ha hf).mono fun e w' ⟨h1, h2, h3, h4⟩ => ⟨h1, h2, h3, fun B Lm hBL => Touch.of_grown h4 (hBL h).1 (hBL h).2⟩
  · have e0 : L = [] := List.eq_nil_of_length_eq_zero (by omega)
    exact (markEntryS A c w.heap.size K L w hn hK ⟨fun h' => absurd h' h, fun i b hi => by have := len_of hi; omega⟩ (fun i hi => by omega)).mono fun e w' ⟨h1, h2, h3, h4⟩ =>
      ⟨h1, ⟨fun h' => by rw [markLE_len] at h'; omega, fun i b hi => by have := len_of hi; rw [markLE_len] at this; omega⟩, fun i hi => by omega, fun _ _ _ => touch_new' h4⟩
theorem Touch.rowE {w w' : World} {B L g : Nat} {A : Option Addr} {E : List En} (t : Touch w w' B L) (h : RowE w A E g) (hg : 0 < E.length → g < B ∨ L ≤ g) : RowE w' A E g :=
  h.block fun hn => t.block g (h.lt hn) (hg hn)
set_option maxHeartbeats 2000000 in
theorem heldEntryS (A : Option Addr) (c g K n : Nat) (w : World) (hn : n ≤ 1048576) (hK : K ≤ 100000000) (ha : RowE w A (markLE K n) g) :
    Calls Try.prog 54 #[.slice A n c, .int .i64 (K : Int)] w fun e w' => e = .returned (.int .i64 ((K + 5 * n : Nat) : Int)) ∧ w = w' := by
  have HA := vl ha
  clear ha
  go_enter Try.func54, Try.ntmps54
  go_wp2
  go_loop [1, 5] (fun m i => ∃ k : Nat, k ≤ n ∧ i = .int .i64 k ∧ m = .int .i64 ((K + 5 * k : Nat) : Int)) (fun _ i => n - (intOf i).toNat)
  case atStart => exact ⟨0, by omega, rfl, rfl⟩
  case round =>
    obtain ⟨k, hk, rfl, rfl⟩ := hrel
    by_cases hlt : k < n
    · obtain rfl := HA.out.1 (by rw [markLE_len]; omega)
      obtain ⟨c0, c1, c2, c3, c4⟩ := HA.out.2 k _ (markLE_at hlt)
      rw [show (mkE K k).f = (K : Int) + 5 * (k : Int) by unfold mkE; simp only; omega] at c0
      rw [show (mkE K k).t = (K : Int) + 5 * (k : Int) + 1 by unfold mkE; simp only; omega] at c1
      rw [show (mkE K k).a = (K : Int) + 5 * (k : Int) + 1 + 1 by unfold mkE; simp only; omega] at c2
      rw [show (mkE K k).m = (K : Int) + 5 * (k : Int) + 1 + 1 + 1 by unfold mkE; simp only; omega] at c3
      rw [show (mkE K k).y = (K : Int) + 5 * (k : Int) + 1 + 1 + 1 + 1 by unfold mkE; simp only; omega] at c4
      go_wp2
      go_round
      case rel => exact ⟨k + 1, by omega, by go_num, congrArg (Value.int .i64) (by omega)⟩
      case measure => simp [intOf]; omega
    · obtain rfl : k = n := by omega
      go_wp2
      go_ret
      exact ⟨rfl, rfl⟩
end Go.Proofs.Ytngmpimoebggdaa.C1
