/- Rows of strings, and how the laws compare and mark them. -/
import Derived.Test.YtafjichhahbihaaDoorRow
import Derived.Test.YtafjichhahbihaaDoorFmt
import Derived.Deep.RegionHeld3
namespace Go.Proofs.YtafjichhahbihaaDoor.C1
open Go.ChangeShapes Go.WideShapes Go.ChangeAt Go.RowKit Go.Proofs.YtafjichhahbihaaDoor.Lift
set_option linter.unusedVariables false

def strs (fs : List (List UInt8)) : List Value := fs.map fun l => Value.string ⟨l.toArray⟩
theorem strs_at (fs : List (List UInt8)) (k : Nat) (h : k < fs.length) : (strs fs)[k]? = some (.string ⟨(fs.getD k []).toArray⟩) := by
  unfold strs
  rw [List.getElem?_map, List.getElem?_eq_getElem h]
  simp [List.getD_eq_getElem?_getD, h]
theorem strs_len (fs : List (List UInt8)) : (strs fs).length = fs.length := by simp [strs]
def mtext (k : Nat) : List UInt8 := 109 :: Lib.decDigits k
def marks (k n : Nat) : List (List UInt8) := (List.range n).map fun i => mtext (k + i)
theorem marks_at (k n i : Nat) (h : i < n) : (marks k n).getD i [] = mtext (k + i) := by
  unfold marks; simp [List.getD_eq_getElem?_getD, h]
theorem marks_len (k n : Nat) : (marks k n).length = n := by simp [marks]
theorem marks_snoc (K k : Nat) : marks K (k + 1) = marks K k ++ [mtext (K + k)] := by
  unfold marks; rw [List.range_succ, List.map_append]; rfl
theorem set_mid {α : Type} (a r : List α) (k : Nat) (hk : k = a.length) (x y : α) : (a ++ x :: r).set k y = (a ++ [y]) ++ r := by
  subst hk
  rw [List.set_append_right _ _ (Nat.le_refl _)]
  simp
set_option maxHeartbeats 1000000 in
theorem markText (N : Nat) (w : World) (h2 : N ≤ 9223372036854775807) :
    Calls Tryd.prog 38 #[.int .i64 (N : Int)] w fun e w' => e = .returned (.string ⟨(mtext N).toArray⟩) ∧ Below w.heap.size w w' := by
  by_cases h1 : N = 0
  · subst h1
    have HM := Lib.hid (show mtext 0 = [109, 48] by decide +kernel)
    go_enter Tryd.func38, Tryd.ntmps38
    go_wp2
    go_ret
    exact ⟨by rw [HM.out]; rfl, Below.refl _ _⟩
  have h0 : 0 < N := by omega
  clear h1
  go_enter Tryd.func38, Tryd.ntmps38
  go_wp2
  go_loopw [0, 3] (fun n s wr => ∃ (m : Nat) (L : List UInt8), n = .int .i64 (m : Int) ∧ s = .string ⟨L.toArray⟩ ∧ m ≤ N ∧ Hid (pre m ++ L = Lib.decDigits N) ∧ Below w.heap.size w wr) (fun n _ _ => (intOf n).toNat)
  case atStart => exact ⟨N, [], rfl, rfl, Nat.le_refl _, by show _ = _; unfold pre; rw [if_neg (by omega)]; simp, Below.refl _ _⟩
  case round =>
    obtain ⟨m, L, rfl, rfl, hm, HL, hb⟩ := hrel
    have hLl : L.length ≤ 20 := by
      have e := congrArg List.length HL
      rw [List.length_append, Lib.decDigits_length] at e
      have := Lib.nDigits_le20 N (by omega)
      omega
    by_cases hz : m = 0
    · subst hz
      have hfin : mtext N = 109 :: L := by
        unfold mtext; rw [← HL]; unfold pre; rw [if_pos rfl]; rfl
      have HF := Lib.hid hfin
      have HJ := Lib.hid (join_str 109 L)
      clear hfin
      go_wp2
      go_ret
      exact ⟨by rw [HF.out, HJ.out]; rfl, hb⟩
    · have m0 : 0 < m := by omega
      obtain ⟨c, hc, HC⟩ : ∃ c : UInt8, 48 + (m : Int) % 10 = (c.toNat : Int) ∧ Hid (c = UInt8.ofNat (48 + m % 10)) := ⟨_, by rw [UInt8.toNat_ofNat']; omega, rfl⟩
      have HS := Lib.hid (pre_step m m0)
      have hcv := conv_one c wr
      go_wp2
      go_roundw
      case rel => exact ⟨m / 10, c :: L, by go_num, congrArg Value.string (join_str c L).symm, by omega, by show _ = _; rw [← HL, HS, HC]; simp, hb.alloc hb.size _⟩
      case measure => simp [intOf]; omega
theorem eqStringS (A B : Option Addr) (n c d b1 b2 : Nat) (fs : List (List UInt8)) (w : World) (hn : n ≤ 1048576) (ha : w.ownsRow b1 9 1 (.slice A n c) n (strs fs)) (hb : w.ownsRow b2 9 1 (.slice B n d) n (strs fs)) :
    Calls Tryd.prog 22 #[.slice A n c, .slice B n d] w fun e w' => e = .returned (.bool true) ∧ Below w.heap.size w w' := by
  have HA := Lib.hid ha
  have HB := Lib.hid hb
  clear ha hb
  go_enter Tryd.func22, Tryd.ntmps22
  go_wp2
  go_loopw [5] (fun i wr => ∃ k q : Nat, k ≤ n ∧ i = .int .i64 k ∧ wr = w.drewN q) (fun i _ => n - (intOf i).toNat)
  case atStart => exact ⟨0, 0, by omega, rfl, rfl⟩
  case round =>
    obtain ⟨k, q, hk, rfl, rfl⟩ := hrel
    by_cases hlt : k < n
    · have hl : k < fs.length := by have := own_len HA.out; rw [strs_len] at this; omega
      obtain ⟨ga, rfl, _, _, ca, _⟩ := own_at HA.out hlt
      obtain ⟨gb, rfl, _, _, cb, _⟩ := own_at HB.out hlt
      rw [strs_at fs k hl] at ca cb
      go_wp2
      go_quiet (fail)
      go_wp2
      go_roundw
      case rel => exact ⟨k + 1, _, by omega, by go_num, rfl⟩
      case measure => simp [intOf]; omega
    · go_wp2
      go_ret
      exact ⟨rfl, (Below.refl _ _).drewN' _⟩
theorem sameTexts (A B : Option Addr) (n c d b1 b2 : Nat) (fs : List (List UInt8)) (w : World) (hn : n ≤ 1048576) (ha : w.ownsRow b1 9 1 (.slice A n c) n (strs fs)) (hb : w.ownsRow b2 9 1 (.slice B n d) n (strs fs)) :
    Calls Tryd.prog 19 #[.slice A n c, .slice B n d] w fun e w' => e = .returned (.bool true) ∧ Below w.heap.size w w' := by
  have HA := Lib.hid ha
  have HB := Lib.hid hb
  clear ha hb
  go_enter Tryd.func19, Tryd.ntmps19
  go_wp2
  go_loopw [5] (fun i wr => ∃ k q : Nat, k ≤ n ∧ i = .int .i64 k ∧ wr = w.drewN q) (fun i _ => n - (intOf i).toNat)
  case atStart => exact ⟨0, 0, by omega, rfl, rfl⟩
  case round =>
    obtain ⟨k, q, hk, rfl, rfl⟩ := hrel
    by_cases hlt : k < n
    · have hl : k < fs.length := by have := own_len HA.out; rw [strs_len] at this; omega
      obtain ⟨ga, rfl, _, _, ca, _⟩ := own_at HA.out hlt
      obtain ⟨gb, rfl, _, _, cb, _⟩ := own_at HB.out hlt
      rw [strs_at fs k hl] at ca cb
      go_wp2
      go_quiet (fail)
      go_wp2
      go_roundw
      case rel => exact ⟨k + 1, _, by omega, by go_num, rfl⟩
      case measure => simp [intOf]; omega
    · go_wp2
      go_ret
      exact ⟨rfl, (Below.refl _ _).drewN' _⟩
set_option maxHeartbeats 1000000 in
theorem markStringS (A : Option Addr) (n c B K : Nat) (fs : List (List UInt8)) (w : World) (hn : n ≤ 1048576) (hK : K ≤ 1048576) (ha : w.ownsRow B 9 1 (.slice A n c) n (strs fs)) :
    Calls Tryd.prog 23 #[.slice A n c, .int .i64 (K : Int)] w fun e w' => e = .returned (.int .i64 ((K + n : Nat) : Int)) ∧ w'.ownsRow B 9 1 (.slice A n c) n (strs (marks K n)) ∧ w.grownBy w' (Value.slice A n c).ownBlock := by
  have HA := Lib.hid ha
  have HL := Lib.hid (own_len ha)
  clear ha
  go_enter Tryd.func23, Tryd.ntmps23
  go_wp2
  go_loopw [1, 5] (fun m i wr => ∃ k : Nat, k ≤ n ∧ i = .int .i64 k ∧ m = .int .i64 ((K + k : Nat) : Int) ∧ wr.ownsRow B 9 1 (.slice A n c) n (strs (marks K k ++ fs.drop k)) ∧ w.grownBy wr (Value.slice A n c).ownBlock) (fun _ i _ => n - (intOf i).toNat)
  case atStart => exact ⟨0, by omega, rfl, rfl, HA.out, World.grownBy.refl _ _⟩
  case round =>
    obtain ⟨k, hk, rfl, rfl, hown, hgr⟩ := hrel
    have HO := Lib.hid hown
    have HG := Lib.hid hgr
    clear hown hgr
    by_cases hlt : k < n
    · go_wp2_with fail
      refine (markText (K + k) _ (by omega)).mono ?_
      rintro e w1 ⟨rfl, hb1⟩
      have HO1 := Lib.hid (own_below HO.out hb1)
      have HG1 := Lib.hid (grown_below HG.out hb1)
      clear hb1
      obtain ⟨g, rfl, _, _, ca, za⟩ := own_at HO1.out hlt
      obtain ⟨u, cu⟩ : ∃ u, w1.cell? ⟨g, k, none⟩ = some u := ⟨_, ca.trans (List.getElem?_eq_getElem (by rw [own_len HO1.out]; exact hlt))⟩
      clear ca
      have hst := HO1.out.stored k (.string ⟨(mtext (K + k)).toArray⟩)
      have HS1 := Lib.hid hst.1
      have HS2 := Lib.hid (grown_set (j := k) (u := .string ⟨(mtext (K + k)).toArray⟩) HG1.out)
      clear hst
      go_wp2
      go_roundw
      case rel =>
        refine ⟨k + 1, by omega, by go_num, congrArg (Value.int .i64) (by omega), ?_, HS2.out⟩
        have e : strs (marks K (k + 1) ++ fs.drop (k + 1)) = (strs (marks K k ++ fs.drop k)).set k (.string ⟨(mtext (K + k)).toArray⟩) := by
          have hl : k < fs.length := by have := HL.out; rw [strs_len] at this; omega
          rw [List.drop_eq_getElem_cons hl]
          unfold strs
          rw [List.map_append, List.map_append, List.map_cons, set_mid _ _ k (by rw [List.length_map, marks_len]), marks_snoc, List.map_append]
          rfl
        rw [e]
        exact HS1.out
      case measure => simp [intOf]; omega
    · obtain rfl : k = n := by omega
      have HE := Lib.hid (show strs (marks K k ++ fs.drop k) = strs (marks K k) by
        have := HL.out
        rw [strs_len] at this
        rw [List.drop_eq_nil_of_le (by omega), List.append_nil])
      go_wp2
      go_ret
      exact ⟨rfl, by rw [← HE.out]; exact HO.out, HG.out⟩
set_option maxHeartbeats 1000000 in
theorem heldStringS (A : Option Addr) (n c B K : Nat) (w : World) (hn : n ≤ 1048576) (hK : K ≤ 1048576) (ha : w.ownsRow B 9 1 (.slice A n c) n (strs (marks K n))) :
    Calls Tryd.prog 24 #[.slice A n c, .int .i64 (K : Int)] w fun e w' => e = .returned (.int .i64 ((K + n : Nat) : Int)) ∧ Below w.heap.size w w' := by
  have HA := Lib.hid ha
  clear ha
  go_enter Tryd.func24, Tryd.ntmps24
  go_wp2
  go_loopw [1, 5] (fun m i wr => ∃ k : Nat, k ≤ n ∧ i = .int .i64 k ∧ m = .int .i64 ((K + k : Nat) : Int) ∧ Below w.heap.size w wr) (fun _ i _ => n - (intOf i).toNat)
  case atStart => exact ⟨0, by omega, rfl, rfl, Below.refl _ _⟩
  case round =>
    obtain ⟨k, hk, rfl, rfl, hb⟩ := hrel
    by_cases hlt : k < n
    · obtain ⟨g, rfl, _, hgl, ca, _⟩ := own_at (own_below HA.out hb) hlt
      rw [strs_at _ k (by rw [marks_len]; exact hlt), marks_at K n k hlt] at ca
      go_wp2
      go_region_held3 (fun w' => w'.cell? ⟨g, k, none⟩ = some (.string ⟨(mtext (K + k)).toArray⟩) ∧ Below w.heap.size w w')
        (first | exact ⟨ca, hb⟩ | exact ⟨ca, hb.drew⟩ | assumption)
        (first | (go_at_call 38; obtain ⟨hx7, hb7⟩ : _ ∧ Below w.heap.size w _ := by assumption
                  refine (markText (K + k) _ (by omega)).mono ?_
                  rintro e w' ⟨rfl, hb'⟩
                  have S1 := And.intro ((hb'.cell (World.block_lt_of_cell? _ _ hx7)).trans hx7) (hb7.trans (hb'.mono hb7.size))))
      all_goals
        obtain ⟨_, hb9⟩ : _ ∧ Below w.heap.size w _ := by assumption
        go_wp2
        go_roundw
        case rel => exact ⟨k + 1, by omega, by go_num, congrArg (Value.int .i64) (by omega), hb9⟩
        case measure => simp [intOf]; omega
    · obtain rfl : k = n := by omega
      go_wp2
      go_ret
      exact ⟨rfl, hb⟩
end Go.Proofs.YtafjichhahbihaaDoor.C1
