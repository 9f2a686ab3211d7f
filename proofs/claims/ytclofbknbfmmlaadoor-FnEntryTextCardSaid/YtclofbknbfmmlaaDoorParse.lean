/- ParseUint, of the program and of its model. -/
import Derived.Test.YtclofbknbfmmlaaDoorDec
import Derived.Test.YtclofbknbfmmlaaDoorFmt
import Derived.Laws.RangeAny
namespace Go.Proofs.YtclofbknbfmmlaaDoor.C1
open Go.ChangeShapes Go.WideShapes Go.ChangeAt Go.RowKit Go.Proofs.YtclofbknbfmmlaaDoor.Lift
set_option linter.unusedVariables false

def valL (l : List UInt8) : Int := l.foldl (fun v b => 10 * v + ((b.toNat : Int) - 48)) 0
def AllDig (l : List UInt8) : Prop := ∀ b ∈ l, 48 ≤ (b.toNat : Int) ∧ (b.toNat : Int) ≤ 57
theorem valL_snoc (l : List UInt8) (b : UInt8) : valL (l ++ [b]) = 10 * valL l + ((b.toNat : Int) - 48) := by simp [valL]
theorem allDig_snoc {l : List UInt8} {b : UInt8} (h : AllDig l) (h0 : 48 ≤ (b.toNat : Int)) (h1 : (b.toNat : Int) ≤ 57) : AllDig (l ++ [b]) := by
  intro c hc
  rcases List.mem_append.1 hc with h2 | h2
  · exact h c h2
  · rw [List.mem_singleton.1 h2]; exact ⟨h0, h1⟩
theorem allDig_left {l r : List UInt8} (h : AllDig (l ++ r)) : AllDig l := fun b hb => h b (List.mem_append_left _ hb)
theorem snoc_ind {P : List UInt8 → Prop} (h0 : P []) (h1 : ∀ l b, P l → P (l ++ [b])) : ∀ l, P l := fun l => by
  have : ∀ n l, l.length = n → P l := by
    intro n
    induction n with
    | zero => intro l hl; rw [List.eq_nil_of_length_eq_zero hl]; exact h0
    | succ n ih =>
      intro l hl
      have hne : l ≠ [] := by intro e; rw [e] at hl; simp at hl
      rw [← List.dropLast_concat_getLast hne]
      exact h1 _ _ (ih _ (by simp [hl]))
  exact this _ l rfl
theorem valL_nonneg : ∀ l, AllDig l → 0 ≤ valL l := by
  refine snoc_ind (fun _ => by decide) fun l b ih h => ?_
  have h1 := ih (allDig_left h)
  have h2 := h b (by simp)
  rw [valL_snoc]; omega
theorem valL_lt : ∀ l, AllDig l → valL l < ((10 ^ l.length : Nat) : Int) := by
  refine snoc_ind (fun _ => by decide) fun l b ih h => ?_
  have h1 := ih (allDig_left h)
  have h2 := h b (by simp)
  rw [valL_snoc, List.length_append, List.length_singleton, Nat.pow_succ]
  omega
theorem valL_bd {l : List UInt8} (h : AllDig l) (hl : l.length ≤ 10) : 0 ≤ valL l ∧ valL l < 10000000000 := by
  refine ⟨valL_nonneg l h, ?_⟩
  have h1 := valL_lt l h
  have h2 : 10 ^ l.length ≤ 10 ^ 10 := Nat.pow_le_pow_right (by decide) hl
  omega
theorem valL_mono (l : List UInt8) : ∀ r, AllDig (l ++ r) → valL l ≤ valL (l ++ r) := by
  refine snoc_ind (fun _ => by simp) fun r b ih h => ?_
  rw [← List.append_assoc] at h ⊢
  have h1 := ih (allDig_left h)
  have h2 := h b (by simp)
  have h3 := valL_nonneg _ (allDig_left h)
  rw [valL_snoc]
  omega
theorem nDigits_le : ∀ (k u : Nat), 0 < k → u < 10 ^ k → Lib.nDigits u ≤ k := by
  intro k
  induction k with
  | zero => intro u h; omega
  | succ k ih =>
    intro u _ hu
    by_cases h : u < 10
    · rw [Lib.nDigits_small h]; omega
    · rw [Lib.nDigits_big h]
      rcases Nat.eq_zero_or_pos k with h0 | h0
      · subst h0; simp at hu; omega
      · have := ih (u / 10) h0 (by rw [Nat.pow_succ] at hu; omega)
        omega
open Classical in
/-- The text of a number from 0 to 10^9. -/
noncomputable def parseOk (l : List UInt8) : Bool := decide (AllDig l ∧ valL l ≤ 1000000000 ∧ Lib.itoa (valL l) = l)
theorem parse_yes {l : List UInt8} (h : AllDig l) (h1 : valL l ≤ 1000000000) (h2 : Lib.itoa (valL l) = l) : parseOk l = true := by
  classical
  unfold parseOk; exact decide_eq_true ⟨h, h1, h2⟩
theorem parse_of {l : List UInt8} (h : parseOk l = true) : AllDig l ∧ valL l ≤ 1000000000 ∧ Lib.itoa (valL l) = l := by
  classical
  unfold parseOk at h; exact of_decide_eq_true h
theorem parse_not {l : List UInt8} (h : ¬ (AllDig l ∧ valL l ≤ 1000000000 ∧ Lib.itoa (valL l) = l)) : parseOk l = false := by
  cases hp : parseOk l with
  | false => rfl
  | true => exact absurd (parse_of hp) h
theorem parse_no_dig {s : ByteArray} {k : Nat} (hk : k < s.size) (h : bz s k < 48 ∨ 57 < bz s k) : parseOk s.data.toList = false := by
  refine parse_not fun ⟨h1, _, _⟩ => ?_
  have hk' : k < s.data.toList.length := by simpa using hk
  have := h1 _ (List.getElem_mem hk')
  have e := bz_at s k hk
  have e2 : s.data.toList[k] = s[k] := rfl
  rw [e2, e] at this
  omega
theorem parse_no_big {s : ByteArray} {k : Nat} (h : 1000000000 < valL (s.data.toList.take k)) : parseOk s.data.toList = false := by
  refine parse_not fun ⟨h1, h2, _⟩ => ?_
  have e := List.take_append_drop k s.data.toList
  have := valL_mono (s.data.toList.take k) (s.data.toList.drop k) (by rw [e]; exact h1)
  rw [e] at this
  omega
theorem parse_no_len {s : ByteArray} (h : 10 < s.size) : parseOk s.data.toList = false := by
  refine parse_not fun ⟨h1, h2, h3⟩ => ?_
  have h0 := valL_nonneg _ h1
  have e := congrArg List.length h3
  unfold Lib.itoa at e
  rw [if_neg (by omega), Lib.decDigits_length] at e
  have := nDigits_le 10 (valL s.data.toList).toNat (by decide) (by omega)
  have hs : s.data.toList.length = s.size := by simp
  omega
theorem parse_no_ne {l : List UInt8} (h : Lib.itoa (valL l) ≠ l) : parseOk l = false := parse_not fun h1 => h h1.2.2
noncomputable def parseRes (l : List UInt8) : Value := if parseOk l = true then .tuple #[.int .i64 (valL l), .bool true] else .tuple #[.int .i64 0, .bool false]
theorem res_yes {l : List UInt8} (h : parseOk l = true) : parseRes l = .tuple #[.int .i64 (valL l), .bool true] := by unfold parseRes; rw [if_pos h]
theorem res_no {l : List UInt8} (h : parseOk l = false) : parseRes l = .tuple #[.int .i64 0, .bool false] := by unfold parseRes; rw [h]; rfl
theorem val_step (s : ByteArray) (k : Nat) (h : k < s.size) : valL (s.data.toList.take (k + 1)) = 10 * valL (s.data.toList.take k) + (bz s k - 48) := by
  rw [take_snoc s k h, valL_snoc, bz_at s k h]
theorem dig_step (s : ByteArray) (k : Nat) (h : k < s.size) (hd : AllDig (s.data.toList.take k)) (h0 : 48 ≤ bz s k) (h1 : bz s k ≤ 57) : AllDig (s.data.toList.take (k + 1)) := by
  rw [take_snoc s k h]
  exact allDig_snoc hd (by rw [bz_at s k h]; exact h0) (by rw [bz_at s k h]; exact h1)
theorem itoa_same (s : ByteArray) : (⟨s.data.toList.toArray⟩ : ByteArray) = s := by simp
theorem str_ne {l : List UInt8} {s : ByteArray} (h : l ≠ s.data.toList) : (l == s.toList) = false := by
  rw [beq_eq_false_iff_ne, ByteArray.toList_eq]
  exact h
set_option maxHeartbeats 1000000 in
theorem parse_spec (s : ByteArray) (w : World) (hs : s.size ≤ 9223372036854775807) :
    Calls Tryd.prog 70 #[.string s] w fun e w' => e = .returned (parseRes s.data.toList) ∧ Below w.heap.size w w' := by
  by_cases hlong : 10 < s.size
  · have HR := Lib.hid (res_no (parse_no_len hlong))
    go_enter Tryd.func70, Tryd.ntmps70
    go_wp2
    go_ret2
    exact ⟨by rw [HR.out]; rfl, Below.refl _ _⟩
  have hl : s.size ≤ 10 := by omega
  clear hlong hs
  go_enter Tryd.func70, Tryd.ntmps70
  go_wp2
  go_loop [4, 5] (fun n i => ∃ k : Nat, k ≤ s.size ∧ i = .int .i64 k ∧ n = .int .i64 (valL (s.data.toList.take k)) ∧ Hid (AllDig (s.data.toList.take k))) (fun _ i => s.size - (intOf i).toNat)
  case atStart => exact ⟨0, by omega, rfl, rfl, fun b hb => by simp at hb⟩
  case round =>
    obtain ⟨k, hk, rfl, rfl, HD⟩ := hrel
    have hbd := valL_bd HD (by rw [List.length_take]; omega)
    by_cases hlt : k < s.size
    · have q0 := bz_at s k hlt
      have HS := Lib.hid (val_step s k hlt)
      by_cases h0 : 48 ≤ bz s k
      · by_cases h1 : bz s k ≤ 57
        · have HD' := Lib.hid (dig_step s k hlt HD h0 h1)
          go_wp2
          go_round
          case rel => exact ⟨k + 1, by omega, by go_num, by rw [HS.out]; exact congrArg (Value.int .i64) (by omega), HD'.out⟩
          case measure => simp [intOf]; omega
        · have h1' : 57 < bz s k := by omega
          have HR := Lib.hid (res_no (parse_no_dig hlt (Or.inr h1')))
          go_wp2
          go_ret2
          exact ⟨by rw [HR.out]; rfl, Below.refl _ _⟩
      · have h0' : bz s k < 48 := by omega
        have HR := Lib.hid (res_no (parse_no_dig hlt (Or.inl h0')))
        go_wp2
        go_ret2
        exact ⟨by rw [HR.out]; rfl, Below.refl _ _⟩
    · obtain rfl : k = s.size := by omega
      have htake : s.data.toList.take s.size = s.data.toList := List.take_of_length_le (by simp)
      by_cases hbig : 1000000000 < valL (s.data.toList.take s.size)
      · have HR := Lib.hid (res_no (parse_no_big hbig))
        clear htake
        go_wp2
        go_ret2
        exact ⟨by rw [HR.out]; rfl, Below.refl _ _⟩
      · have hsm : valL (s.data.toList.take s.size) ≤ 1000000000 := by omega
        have HD2 := Lib.hid (show AllDig s.data.toList by rw [← htake]; exact HD)
        rw [htake] at hsm hbd ⊢
        clear htake HD
        by_cases heq : Lib.itoa (valL s.data.toList) = s.data.toList
        · have HR := Lib.hid (res_yes (parse_yes HD2 hsm heq))
          have HE := Lib.hid heq
          clear heq hbig
          go_wp2_with fail
          refine (fmt_spec _ _ (by omega) (by omega)).mono ?_
          rintro e w1 ⟨rfl, hb⟩
          rw [HE.out, itoa_same]
          have HB := Lib.hid hb
          clear hb
          go_wp2
          go_ret2
          exact ⟨by rw [HR.out]; rfl, HB.out⟩
        · have HR := Lib.hid (res_no (parse_no_ne heq))
          have hne := str_ne heq
          clear heq hbig
          go_wp2_with fail
          refine (fmt_spec _ _ (by omega) (by omega)).mono ?_
          rintro e w1 ⟨rfl, hb⟩
          have HB := Lib.hid hb
          clear hb
          go_wp2
          go_ret2
          exact ⟨by rw [HR.out]; rfl, HB.out⟩
theorem below_iter (w : World) (s : ByteArray) (p : Nat) : Below w.heap.size w (w.iter s p) := (Below.refl _ _).alloc (Nat.le_refl _) _
set_option maxRecDepth 100000 in
set_option maxHeartbeats 1000000 in
theorem parse_impl (s : ByteArray) (w : World) (hs : s.size ≤ 9223372036854775807) (hp : Pow10 w) :
    Calls Tryd.prog 103 #[.string s] w fun e w' => e = .returned (parseRes s.data.toList) ∧ Below w.heap.size w w' := by
  have HP := Lib.hid hp
  clear hp
  go_enter Tryd.func103, Tryd.ntmps103
  go_wp2
  go_loopw [4] (fun n wr => ∃ k : Nat, k ≤ s.size ∧ wr = w.iter s k ∧ n = .int .i64 (valL (s.data.toList.take k)) ∧ valL (s.data.toList.take k) ≤ 1000000000 ∧ Hid (AllDig (s.data.toList.take k))) (fun _ wr => s.size - wr.iterPos w.heap.size)
  case atStart => exact ⟨0, by omega, rfl, rfl, by rw [List.take_zero]; decide, fun b hb => by simp at hb⟩
  case round =>
    obtain ⟨k, hk, rfl, rfl, hle, HD⟩ := hrel
    have hnn := valL_nonneg _ HD
    by_cases hlt : k < s.size
    · have hnx : ∀ ty, (Instr.next (.pointer (some ⟨w.heap.size, 0, none⟩)) true ty).run Tryd.prog (w.iter s k) = _ := fun ty => run_next_any w s k ty hlt
      have q0 := bz_at s k hlt
      have HS := Lib.hid (val_step s k hlt)
      by_cases h0 : bz s k < 48 ∨ 57 < bz s k
      · have HR := Lib.hid (res_no (parse_no_dig hlt h0))
        obtain ⟨c, hc, hc1, hc2⟩ : ∃ c : Nat, (Utf8.decode s k).1 = c ∧ ((c : Int) < 48 ∨ 57 < (c : Int)) ∧ c ≤ 2147483647 := by
          refine ⟨_, rfl, ?_, decode_le s k⟩
          by_cases ha : (s[k]'hlt).toNat < 128
          · rw [decode_ascii s k hlt ha]
            show ((s[k].toNat : Nat) : Int) < 48 ∨ 57 < ((s[k].toNat : Nat) : Int)
            omega
          · have := (decode_high s k hlt (by omega)).1
            omega
        rw [hc] at hnx
        generalize (Utf8.decode s k).2 = d at hnx
        have HB := Lib.hid (below_iter w s (k + d))
        clear h0 hc q0
        rcases hc1 with hc1 | hc1
        · go_wp2
          go_ret2
          exact ⟨by rw [HR.out]; rfl, HB.out⟩
        · have hc3 : ¬ (c : Int) < 48 := by omega
          go_wp2
          go_ret2
          exact ⟨by rw [HR.out]; rfl, HB.out⟩
      · have h1 : 48 ≤ bz s k := by omega
        have h2 : bz s k ≤ 57 := by omega
        have HD' := Lib.hid (dig_step s k hlt HD h1 h2)
        have hdec := decode_ascii s k hlt (by omega)
        rw [hdec] at hnx
        simp only [q0] at hnx
        clear hdec h0 q0
        by_cases hbig : 1000000000 < 10 * valL (s.data.toList.take k) + (bz s k - 48)
        · have HR := Lib.hid (res_no (parse_no_big (s := s) (k := k + 1) (by rw [HS.out]; exact hbig)))
          have HB := Lib.hid (below_iter w s (k + 1))
          go_wp2
          go_ret2
          exact ⟨by rw [HR.out]; rfl, HB.out⟩
        · have hsm : 10 * valL (s.data.toList.take k) + (bz s k - 48) ≤ 1000000000 := by omega
          clear hbig
          go_wp2
          go_roundw
          case rel => exact ⟨k + 1, by omega, rfl, by rw [HS.out], by rw [HS.out]; exact hsm, HD'.out⟩
          case measure => simp; omega
    · obtain rfl : k = s.size := by omega
      have hnx : ∀ ty, (Instr.next (.pointer (some ⟨w.heap.size, 0, none⟩)) true ty).run Tryd.prog (w.iter s s.size) = _ := fun ty => run_next_end w s s.size ty hlt
      have htake : s.data.toList.take s.size = s.data.toList := List.take_of_length_le (by simp)
      have HD2 := Lib.hid (show AllDig s.data.toList by rw [← htake]; exact HD)
      rw [htake] at hle hnn ⊢
      have HB := Lib.hid (below_iter w s s.size)
      clear htake HD
      by_cases heq : Lib.itoa (valL s.data.toList) = s.data.toList
      · have HR := Lib.hid (res_yes (parse_yes HD2 hle heq))
        have HE := Lib.hid heq
        clear heq
        go_wp2_with fail
        refine (fmt_impl _ _ (by omega) (by omega) (HP.out.below HB.out)).mono ?_
        rintro e w1 ⟨rfl, hb⟩
        rw [HE.out, itoa_same]
        have HB1 := Lib.hid (HB.out.trans (hb.mono HB.out.size))
        clear hb
        go_wp2
        go_ret2
        exact ⟨by rw [HR.out]; rfl, HB1.out⟩
      · have HR := Lib.hid (res_no (parse_no_ne heq))
        have hne := str_ne heq
        clear heq
        go_wp2_with fail
        refine (fmt_impl _ _ (by omega) (by omega) (HP.out.below HB.out)).mono ?_
        rintro e w1 ⟨rfl, hb⟩
        have HB1 := Lib.hid (HB.out.trans (hb.mono HB.out.size))
        clear hb
        go_wp2
        go_ret2
        exact ⟨by rw [HR.out]; rfl, HB1.out⟩
end Go.Proofs.YtclofbknbfmmlaaDoor.C1
