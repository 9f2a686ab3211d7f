/- DecodeHex, of the program and of its model. -/
import Derived.Test.YtafjichhahbihaaDoorHex
import Derived.Test.YtafjichhahbihaaDoorShelf
namespace Go.Proofs.YtafjichhahbihaaDoor.C1
open Go.ChangeShapes Go.WideShapes Go.ChangeAt Go.RowKit
set_option linter.unusedVariables false

def valZ (x : Int) : Int := if 48 ≤ x ∧ x ≤ 57 then x - 48 else if 97 ≤ x ∧ x ≤ 102 then x - 87 else -1
theorem valZ_bd (x : Int) : -1 ≤ valZ x ∧ valZ x ≤ 15 := by unfold valZ; repeat' split <;> omega
/-- Byte i of a string, as a number. -/
def bz (s : ByteArray) (i : Nat) : Int := ((s.data.toList.getD i 0).toNat : Int)
theorem bz_bd (s : ByteArray) (i : Nat) : 0 ≤ bz s i ∧ bz s i ≤ 255 := by
  unfold bz; have := (s.data.toList.getD i 0).toNat_lt; omega
theorem bz_at (s : ByteArray) (i : Nat) (h : i < s.size) : ((s[i]).toNat : Int) = bz s i := by
  unfold bz
  have h' : i < s.data.toList.length := by simpa using h
  rw [List.getD_eq_getElem?_getD, List.getElem?_eq_getElem h']
  rfl
def goodAt (s : ByteArray) (j : Nat) : Prop := 0 ≤ valZ (bz s j) ∧ 0 ≤ valZ (bz s (j + 1))
def decB (s : ByteArray) (i : Nat) : UInt8 := UInt8.ofNat (16 * valZ (bz s (2 * i)) + valZ (bz s (2 * i + 1))).toNat
def decL (s : ByteArray) (k : Nat) : List UInt8 := (List.range k).map (decB s)
theorem decL_len (s : ByteArray) (k : Nat) : (decL s k).length = k := by simp [decL]
theorem decL_snoc (s : ByteArray) (k : Nat) : bcells (decL s (k + 1)) = bcells (decL s k) ++ [.int .u8 ((decB s k).toNat : Int)] := by
  unfold decL bcells
  rw [List.range_succ, List.map_append, List.map_append]
  rfl
theorem decB_toNat (s : ByteArray) (j k : Nat) (hj : j = 2 * k) (hg : goodAt s j) : ((decB s k).toNat : Int) = 16 * valZ (bz s j) + valZ (bz s (j + 1)) := by
  subst hj
  have b0 := valZ_bd (bz s (2 * k))
  have b1 := valZ_bd (bz s (2 * k + 1))
  obtain ⟨g0, g1⟩ := hg
  unfold decB
  rw [UInt8.toNat_ofNat']
  omega
/-- The pairs before m are digits, and m is the end or the first that is not. -/
def Upto (s : ByteArray) (m : Nat) : Prop := (∀ i, i < m → goodAt s (2 * i)) ∧ (2 * m = s.size ∨ (2 * m + 1 < s.size ∧ ¬ goodAt s (2 * m)))
theorem upto_ex (s : ByteArray) (h : s.size % 2 = 0) : ∃ m, Upto s m := by
  have h1 : ∀ n, 2 * n ≤ s.size → (∀ i, i < n → goodAt s (2 * i)) ∨ ∃ m, m < n ∧ (∀ i, i < m → goodAt s (2 * i)) ∧ ¬ goodAt s (2 * m) := by
    intro n
    induction n with
    | zero => exact fun _ => Or.inl fun i hi => absurd hi (by omega)
    | succ n ih =>
      intro hn
      rcases ih (by omega) with h2 | ⟨m, hm, h3⟩
      · by_cases hg : goodAt s (2 * n)
        · refine Or.inl fun i hi => ?_
          rcases Nat.lt_or_ge i n with h4 | h4
          · exact h2 i h4
          · obtain rfl : i = n := by omega
            exact hg
        · exact Or.inr ⟨n, by omega, h2, hg⟩
      · exact Or.inr ⟨m, by omega, h3⟩
  rcases h1 (s.size / 2) (by omega) with h2 | ⟨m, hm, h3, h4⟩
  · exact ⟨s.size / 2, h2, Or.inl (by omega)⟩
  · exact ⟨m, h3, Or.inr ⟨by omega, h4⟩⟩
theorem _root_.Go.World.ownsRow.drewN {w : World} {base size n : Nat} {e : TypeId} {v : Value} {xs : List Value} (h : w.ownsRow base e size v n xs) (k : Nat) : (w.drewN k).ownsRow base e size v n xs := h
def decRes (s : ByteArray) (m : Nat) : Value := if 2 * m = s.size then .tuple #[.string ⟨(decL s m).toArray⟩, .bool true] else .tuple #[.string ⟨#[]⟩, .bool false]
theorem one1 (a : Int) : ∀ x ∈ ([.int .u8 a] : List Value), x.oneCell' = true := by
  intro x hx
  simp at hx
  subst hx
  rfl
theorem news1 {w : World} {g : Nat} {t : TypeId} {u : Value} (h : w.heap[g]? = some (.cells #[u] t (0, 0))) : ∀ (j : Nat) (x : Value), [u][j]? = some x → w.cell? ((⟨g, 0, none⟩ : Addr).add j) = some x :=
  fun j x hx => World.news_of_block h j x hx
theorem lit_val : ∀ x : Fin 256, Lib.indexByte [48, 49, 50, 51, 52, 53, 54, 55, 56, 57, 97, 98, 99, 100, 101, 102] x.val.toUInt8 = valZ (x.val : Int) := by decide +kernel
theorem value_impl (x : Int) (w : World) (h0 : 0 ≤ x) (h1 : x ≤ 255) : Calls Tryd.prog 31 #[.int .u8 x] w fun e w' => e = .returned (.int .i64 (valZ x)) ∧ w = w' := by
  obtain ⟨n, rfl⟩ := Int.eq_ofNat_of_zero_le h0
  have H := Lib.hid (lit_val ⟨n, by omega⟩)
  go_enter Tryd.func31, Tryd.ntmps31
  go_wp2_with fail
  refine (Tryd.strings_IndexByte _ _ _).mono ?_
  rintro e w' ⟨rfl, rfl⟩
  go_wp2
  go_ret
  exact ⟨ret_int H.out, rfl⟩
theorem or_fin : ∀ a b : Fin 16, bits .or .i64 ((a.val : Int) * 16) (b.val : Int) % 256 = 16 * (a.val : Int) + (b.val : Int) := by decide +kernel
theorem or_dec (a b : Int) (a0 : 0 ≤ a) (a1 : a ≤ 15) (b0 : 0 ≤ b) (b1 : b ≤ 15) : bits .or .i64 (a * 16) b % 256 = 16 * a + b := by
  obtain ⟨m, rfl⟩ := Int.eq_ofNat_of_zero_le a0
  obtain ⟨n, rfl⟩ := Int.eq_ofNat_of_zero_le b0
  exact or_fin ⟨m, by omega⟩ ⟨n, by omega⟩
theorem dec_impl_no (s : ByteArray) (w : World) (hs : 40000 < s.size ∨ s.size % 2 = 1) (hs' : s.size ≤ 9223372036854775807) :
    Calls Tryd.prog 13 #[.string s] w fun e w' => e = .returned (.tuple #[.string ⟨#[]⟩, .bool false]) ∧ w = w' := by
  by_cases hm : s.size % 2 = 1
  · have hm : (s.size : Int) % 2 = 1 := by omega
    clear hs
    go_enter Tryd.func13, Tryd.ntmps13
    go_wp2
    go_ret2
    exact ⟨rfl, rfl⟩
  · have hl : 40000 < s.size := by omega
    have hm : (s.size : Int) % 2 = 0 := by omega
    clear hs
    go_enter Tryd.func13, Tryd.ntmps13
    go_wp2
    go_ret2
    exact ⟨rfl, rfl⟩
set_option maxHeartbeats 1000000 in
theorem dec_impl (s : ByteArray) (m : Nat) (w : World) (hs : s.size ≤ 40000) (h2 : s.size % 2 = 0) (hu : Upto s m) :
    Calls Tryd.prog 13 #[.string s] w fun e w' => e = .returned (decRes s m) ∧ Below w.heap.size w w' := by
  obtain ⟨i0, hi, hz0, hz1, hz2⟩ := info_parts (show (Tryd.prog.info? 5).map (fun i => (i.zero, i.size, i.bytes)) = some (some (.int .u8 0), 1, 1) by kernel_rfl)
  have hm : (s.size : Int) % 2 = 0 := by omega
  have hmk : ∀ W : World, (Instr.makeSlice 22 (.int .i64 0) (.int .i64 ((s.size : Int) / 2))).run Tryd.prog W = .ok (.slice (some ⟨W.heap.size, 0, none⟩) 0 (s.size / 2)) (W.alloc (.cells (madeCells #[.int .u8 0] (s.size / 2)) 5)) := fun W => by
    have h := run_make (P := Tryd.prog) W 22 5 i0 _ Tryd.underlying22 hi hz0 .i64 .i64 0 ((s.size : Int) / 2) (by omega) (by omega) (by rw [hz2]; omega) (by omega)
    rw [hz1, Nat.mul_one, show ((s.size : Int) / 2).toNat = s.size / 2 by omega] at h
    exact h
  have HO0 := Lib.hid (World.ownsRow_made (size := 1) (e := 5) w (madeCells #[.int .u8 0] (s.size / 2)) (s.size / 2) (Nat.le_refl _) (by unfold maxLen; omega) (by rw [size_madeCells, Nat.mul_one]))
  have HU := Lib.hid hu
  clear hu h2
  go_enter Tryd.func13, Tryd.ntmps13
  go_wp2
  have H2 := Lib.hid hm
  clear hm hmk
  go_loopw [4, 5] (fun v i wr => ∃ j k : Nat, 2 * k ≤ j ∧ j ≤ 2 * k ∧ k ≤ m ∧ i = .int .i64 j ∧ Below w.heap.size w wr ∧ wr.ownsRow w.heap.size 5 1 v k (bcells (decL s k))) (fun _ i _ => s.size - (intOf i).toNat)
  case atStart => exact ⟨0, 0, by omega, by omega, by omega, rfl, (Below.refl _ _).alloc (Nat.le_refl _) _, HO0.out⟩
  case round =>
    obtain ⟨j, k, hj1, hj2, hk, rfl, hb, hown⟩ := hrel
    by_cases hlt : j < s.size
    · have hlt1 : j + 1 < s.size := by have := H2.out; omega
      have b0 := bz_bd s j
      have b1 := bz_bd s (j + 1)
      have v0 := valZ_bd (bz s j)
      have v1 := valZ_bd (bz s (j + 1))
      by_cases hkm : k < m
      · have hg : goodAt s j := by
          have := HU.out.1 k hkm
          rwa [show 2 * k = j by omega] at this
        have g0 : 0 ≤ valZ (bz s j) := hg.1
        have g1 : 0 ≤ valZ (bz s (j + 1)) := hg.2
        have HB := Lib.hid ((decB_toNat s j k (by omega) hg).trans (or_dec _ _ hg.1 (by omega) hg.2 (by omega)).symm)
        have q0 := bz_at s j hlt
        have q1 := bz_at s (j + 1) hlt1
        clear hg
        go_wp2
        go_quiet ((go_at_call 31; exact Calls.quiet_of_same ((value_impl _ _ (by omega) (by omega)).mono fun _ _ ⟨h1, h2⟩ => ⟨h1, h2.symm⟩)))
        go_wp2_with (at_builtin; refine wpList_append_own _ rfl _ _ 22 rfl w.heap.size 5 i0 _ 1 1 Tryd.underlying22 hi hz0 hz1 hz2 rfl (by decide) _ _ _ rfl ((hown.drewN nq).alloc _) ⟨wr.heap.size, 0, none⟩ 1 1 [.int .u8 (bits .or .i64 (valZ (bz s j) * 16) (valZ (bz s (j + 1))) % 256)] rfl rfl ?c1 ?c2 ?c3 ?c4 ?c5 ?_)
        case c1 => exact news1 (heap_alloc_new _ _)
        case c2 => exact one1 _
        case c3 => unfold maxLen; omega
        case c4 => omega
        case c5 => have := hb.size; simp; omega
        intro v' w4 hown4 hgrow _
        rw [← HB.out, ← decL_snoc] at hown4
        have hb4 := Lib.hid (((hb.drewN' nq).alloc hb.size _).grown hgrow (by have := hb.size; simp; omega) (fun q hq => (hown.lt q hq).1))
        have HO := Lib.hid hown4
        clear hown4 hgrow
        go_wp2
        go_roundw
        case rel => exact ⟨j + 2, k + 1, by omega, by omega, by omega, by go_num, hb4.out, HO.out⟩
        case measure => simp [intOf]; omega
      · have hbad : 2 * m ≠ s.size ∧ ¬ goodAt s j := by
          rcases HU.out.2 with h | h
          · omega
          · rw [show j = 2 * m by omega]; exact ⟨by omega, h.2⟩
        have HR := Lib.hid (show decRes s m = .tuple #[.string ⟨#[]⟩, .bool false] by unfold decRes; rw [if_neg hbad.1])
        have q0 := bz_at s j hlt
        have q1 := bz_at s (j + 1) hlt1
        by_cases g0 : 0 ≤ valZ (bz s j)
        · have g1 : valZ (bz s (j + 1)) < 0 := by
            refine Int.not_le.1 fun h => hbad.2 ⟨g0, h⟩
          clear hbad
          go_wp2
          go_quiet ((go_at_call 31; exact Calls.quiet_of_same ((value_impl _ _ (by omega) (by omega)).mono fun _ _ ⟨h1, h2⟩ => ⟨h1, h2.symm⟩)))
          go_wp2
          go_ret2
          exact ⟨by rw [HR.out]; rfl, hb.drewN' _⟩
        · have g0' : valZ (bz s j) < 0 := by omega
          clear hbad g0
          go_wp2
          go_quiet ((go_at_call 31; exact Calls.quiet_of_same ((value_impl _ _ (by omega) (by omega)).mono fun _ _ ⟨h1, h2⟩ => ⟨h1, h2.symm⟩)))
          go_wp2
          go_ret2
          exact ⟨by rw [HR.out]; rfl, hb.drewN' _⟩
    · have hend : 2 * m = s.size ∧ k = m := by
        rcases HU.out.2 with h | h
        · omega
        · omega
      obtain ⟨hend, rfl⟩ := hend
      have HR := Lib.hid (show decRes s k = .tuple #[.string ⟨(decL s k).toArray⟩, .bool true] by unfold decRes; rw [if_pos hend])
      have hcv := conv_own (l := decL s k) (by rw [decL_len]; exact hown)
      clear hend
      go_wp2
      go_ret2
      exact ⟨by rw [HR.out]; rfl, hb⟩
end Go.Proofs.YtafjichhahbihaaDoor.C1
