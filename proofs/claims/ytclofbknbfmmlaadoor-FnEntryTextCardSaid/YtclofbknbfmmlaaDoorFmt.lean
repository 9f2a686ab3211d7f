/- FormatInt, of the program and of its model: the decimal numeral. -/
import Derived.Test.YtclofbknbfmmlaaDoorHex
import Derived.Test.YtclofbknbfmmlaaDoorShelf
import Derived.Test.YtclofbknbfmmlaaDoorLaid
import Derived.Lib.ItoaLen
namespace Go.Proofs.YtclofbknbfmmlaaDoor.C1
open Go.ChangeShapes Go.WideShapes Go.ChangeAt Go.RowKit Go.Proofs.YtclofbknbfmmlaaDoor.Lift
set_option linter.unusedVariables false

theorem below_grow {w : World} (k : Nat) (os : Array Obj) : Below w.heap.size w (Sort.grow (w.drewN k) os) :=
  ⟨rfl, rfl, rfl, Lib.size_grow w k os, fun j hj => Sort.heap_grow_old _ _ hj⟩
theorem fmt_impl (n : Int) (w : World) (h0 : -9223372036854775808 ≤ n) (h1 : n ≤ 9223372036854775807) (hp : Pow10 w) :
    Calls Tryd.prog 98 #[.int .i64 n] w fun e w' => e = .returned (.string ⟨(Lib.itoa n).toArray⟩) ∧ Below w.heap.size w w' := by
  have HP := Lib.hid hp
  clear hp
  go_enter Tryd.func98, Tryd.ntmps98
  go_wp2_with fail
  refine (Tryd.strconv_Itoa n h0 h1 _ HP.out).mono ?_
  rintro e w' ⟨rfl, k, os, rfl⟩
  have HB := Lib.hid (below_grow (w := w) k os)
  go_wp2
  go_ret
  exact ⟨rfl, HB.out⟩
/-- The digits of m, none for 0. -/
def pre (m : Nat) : List UInt8 := if m = 0 then [] else Lib.decDigits m
theorem pre_step (m : Nat) (h : 0 < m) : pre m = pre (m / 10) ++ [UInt8.ofNat (48 + m % 10)] := by
  unfold pre
  rw [if_neg (by omega)]
  by_cases h1 : m < 10
  · rw [if_pos (by omega), Lib.decDigits, dif_pos h1, Nat.mod_eq_of_lt h1]; rfl
  · rw [if_neg (by omega), Lib.decDigits, dif_neg h1]
theorem fig_digit (m : Nat) : figZ ((m % 10 : Nat) : Int) = ((UInt8.ofNat (48 + m % 10)).toNat : Int) := by
  unfold figZ
  rw [if_pos (by omega)]
  simp
  omega
theorem join_str (a : UInt8) (l : List UInt8) : (⟨(a :: l).toArray⟩ : ByteArray) = ⟨#[a]⟩ ++ ⟨l.toArray⟩ := by
  apply ByteArray.ext
  rw [ByteArray.data_append]
  simp
set_option maxRecDepth 100000 in
theorem fig_spec2 (x : Int) (w : World) (h0 : 0 ≤ x) (h1 : x ≤ 15) : Calls Tryd.prog 123 #[.int .i64 x] w fun e w' => e = .returned (.int .u8 (figZ x)) ∧ w = w' :=
  (fig_spec x w h0 h1).mono fun _ _ ⟨a, b⟩ => ⟨a, b.symm⟩
set_option maxRecDepth 100000 in
theorem conv_one (c : UInt8) (W : World) : (convert 22 9 (.slice (some ⟨W.heap.size, 0, none⟩) 1 1)).run Tryd.prog (W.alloc (.cells #[.int .u8 (c.toNat : Int)] 5)) = .ok (.string ⟨#[c]⟩) (W.alloc (.cells #[.int .u8 (c.toNat : Int)] 5)) := by
  refine run_convert_bytes_back _ 22 9 5 ⟨W.heap.size, 0, none⟩ 1 [c] Tryd.underlying22 Tryd.underlying5 Tryd.underlying9 (fun j hj => ?_)
  obtain rfl : j = 0 := by simpa using hj
  exact World.news_of_block (heap_alloc_new _ _) 0 _ rfl
set_option maxHeartbeats 1000000 in
set_option maxRecDepth 100000 in
theorem fmt_spec_pos (N : Nat) (w : World) (h1 : 0 < N) (h2 : N ≤ 9223372036854775807) :
    Calls Tryd.prog 104 #[.int .i64 (N : Int)] w fun e w' => e = .returned (.string ⟨(Lib.itoa (N : Int)).toArray⟩) ∧ Below w.heap.size w w' := by
  have b0 : ((N : Int) == 0) = false := by simp; omega
  go_enter Tryd.func104, Tryd.ntmps104
  go_wp2
  go_loopw [0, 4] (fun n s wr => ∃ (m : Nat) (L : List UInt8), n = .int .i64 (m : Int) ∧ s = .string ⟨L.toArray⟩ ∧ m ≤ N ∧ Hid (pre m ++ L = Lib.decDigits N) ∧ Below w.heap.size w wr) (fun n _ _ => (intOf n).toNat)
  case atStart => exact ⟨N, [], rfl, rfl, Nat.le_refl _, by show _ = _; unfold pre; rw [if_neg (by omega)]; simp, Below.refl _ _⟩
  case round =>
    obtain ⟨m, L, rfl, rfl, hm, HL, hb⟩ := hrel
    by_cases hz : m = 0
    · subst hz
      have hfin : Lib.itoa (N : Int) = L := by
        rw [Lib.itoa_nonneg, ← HL]; unfold pre; rw [if_pos rfl]; rfl
      have HF := Lib.hid hfin
      clear hfin
      go_wp2
      go_ret
      exact ⟨by rw [HF.out]; rfl, hb⟩
    · have b1 : ((m : Int) != 0) = true := by simp; omega
      have m0 : 0 < m := by omega
      obtain ⟨c, hc, HC⟩ : ∃ c : UInt8, figZ ((m : Int) % 10) = (c.toNat : Int) ∧ Hid (c = UInt8.ofNat (48 + m % 10)) := ⟨_, fig_digit m, rfl⟩
      have HS := Lib.hid (pre_step m m0)
      have hLl : L.length ≤ 20 := by
        have e := congrArg List.length HL
        rw [List.length_append, Lib.decDigits_length] at e
        have := Lib.nDigits_le20 N (by omega)
        omega
      have hcv := conv_one c wr
      go_wp2_with fail
      refine (fig_spec2 _ _ (by omega) (by omega)).mono ?_
      rintro e w' ⟨rfl, rfl⟩
      go_wp2
      go_roundw
      case rel => exact ⟨m / 10, c :: L, by go_num, congrArg Value.string (join_str c L).symm, by omega, by show _ = _; rw [← HL, HS, HC]; simp, hb.alloc hb.size _⟩
      case measure => simp [intOf]; omega
set_option maxHeartbeats 1000000 in
set_option maxRecDepth 100000 in
theorem fmt_spec_neg (N : Nat) (w : World) (h1 : 0 < N) (h2 : N ≤ 9223372036854775808) :
    Calls Tryd.prog 104 #[.int .i64 (-(N : Int))] w fun e w' => e = .returned (.string ⟨(Lib.itoa (-(N : Int))).toArray⟩) ∧ Below w.heap.size w w' := by
  have b0 : ((-(N : Int)) == 0) = false := by simp; omega
  have b2 : -(N : Int) < 0 := by omega
  go_enter Tryd.func104, Tryd.ntmps104
  go_wp2
  go_loopw [0, 4] (fun n s wr => ∃ (m : Nat) (L : List UInt8), n = .int .i64 (-(m : Int)) ∧ s = .string ⟨L.toArray⟩ ∧ m ≤ N ∧ Hid (pre m ++ L = Lib.decDigits N) ∧ Below w.heap.size w wr) (fun n _ _ => (-(intOf n)).toNat)
  case atStart => exact ⟨N, [], rfl, rfl, Nat.le_refl _, by show _ = _; unfold pre; rw [if_neg (by omega)]; simp, Below.refl _ _⟩
  case round =>
    obtain ⟨m, L, rfl, rfl, hm, HL, hb⟩ := hrel
    by_cases hz : m = 0
    · subst hz
      have hfin : Lib.itoa (-(N : Int)) = 45 :: L := by
        rw [Lib.itoa_neg N h1, ← HL]; unfold pre; rw [if_pos rfl]; rfl
      have HJ := Lib.hid (join_str 45 L)
      have hLl : L.length ≤ 20 := by
        have e := congrArg List.length HL
        rw [List.length_append, Lib.decDigits_length] at e
        have := Lib.nDigits_le20 N (by omega)
        omega
      have HF := Lib.hid hfin
      clear hfin
      go_wp2
      go_ret
      exact ⟨by rw [HF.out, HJ.out]; rfl, hb⟩
    · have b1 : ((-(m : Int)) != 0) = true := by simp; omega
      have m0 : 0 < m := by omega
      obtain ⟨c, hc, HC⟩ : ∃ c : UInt8, figZ ((m : Int) % 10) = (c.toNat : Int) ∧ Hid (c = UInt8.ofNat (48 + m % 10)) := ⟨_, fig_digit m, rfl⟩
      have HS := Lib.hid (pre_step m m0)
      have hLl : L.length ≤ 20 := by
        have e := congrArg List.length HL
        rw [List.length_append, Lib.decDigits_length] at e
        have := Lib.nDigits_le20 N (by omega)
        omega
      have hcv := conv_one c wr
      have e1 : (-(m : Int)).tmod 10 = -((m : Int) % 10) := by rw [Int.neg_tmod, Int.tmod_eq_emod_of_nonneg (by omega)]
      have e2 : (-(m : Int)).tdiv 10 = -((m : Int) / 10) := by rw [Int.neg_tdiv, Int.tdiv_eq_ediv_of_nonneg (by omega)]
      by_cases hd : m % 10 = 0
      · have d0 : ¬ (-((m : Int) % 10) < 0) := by omega
        have hc' : figZ (-((m : Int) % 10)) = (c.toNat : Int) := by rw [show -((m : Int) % 10) = (m : Int) % 10 by omega]; exact hc
        clear hc
        go_wp2_with fail
        refine (fig_spec2 _ _ (by omega) (by omega)).mono ?_
        rintro e w' ⟨rfl, rfl⟩
        go_wp2
        go_roundw
        case rel => exact ⟨m / 10, c :: L, by go_num, congrArg Value.string (join_str c L).symm, by omega, by show _ = _; rw [← HL, HS, HC]; simp, hb.alloc hb.size _⟩
        case measure => simp [intOf]; omega
      · have d0 : (-((m : Int) % 10) < 0) := by omega
        go_wp2_with fail
        refine (fig_spec2 _ _ (by omega) (by omega)).mono ?_
        rintro e w' ⟨rfl, rfl⟩
        go_wp2
        go_roundw
        case rel => exact ⟨m / 10, c :: L, by go_num, congrArg Value.string (join_str c L).symm, by omega, by show _ = _; rw [← HL, HS, HC]; simp, hb.alloc hb.size _⟩
        case measure => simp [intOf]; omega
set_option maxRecDepth 100000 in
theorem fmt_spec (n : Int) (w : World) (h0 : -9223372036854775808 ≤ n) (h1 : n ≤ 9223372036854775807) :
    Calls Tryd.prog 104 #[.int .i64 n] w fun e w' => e = .returned (.string ⟨(Lib.itoa n).toArray⟩) ∧ Below w.heap.size w w' := by
  rcases Int.lt_trichotomy n 0 with h | h | h
  · have := fmt_spec_neg n.natAbs w (by omega) (by omega)
    rwa [show -((n.natAbs : Nat) : Int) = n by omega] at this
  · subst h
    have HF := Lib.hid (show Lib.itoa 0 = [48] by decide +kernel)
    go_enter Tryd.func104, Tryd.ntmps104
    go_wp2
    go_ret
    exact ⟨by rw [HF.out]; rfl, Below.refl _ _⟩
  · have := fmt_spec_pos n.natAbs w (by omega) (by omega)
    rwa [show ((n.natAbs : Nat) : Int) = n by omega] at this
end Go.Proofs.YtclofbknbfmmlaaDoor.C1
