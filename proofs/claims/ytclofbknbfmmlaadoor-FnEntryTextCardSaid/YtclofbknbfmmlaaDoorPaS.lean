/- The text of an entry, read by the model. -/
import Derived.Test.YtclofbknbfmmlaaDoorPaE
namespace Go.Proofs.YtclofbknbfmmlaaDoor.C1
open Go.ChangeShapes Go.WideShapes Go.ChangeAt Go.RowKit Go.Proofs.YtclofbknbfmmlaaDoor.Lift
set_option linter.unusedVariables false

def Splits (s : ByteArray) (w : World) (e : Ending) (w' : World) : Prop :=
  ∃ A cap, e = .returned (.slice A (spl [] s.data.toList).length cap) ∧ w'.ownsRow w.heap.size 9 1 (.slice A (spl [] s.data.toList).length cap) (spl [] s.data.toList).length (strs (spl [] s.data.toList)) ∧ Below w.heap.size w w'
theorem splits_of {s : ByteArray} {w w' : World} {v : Value} {dn : List (List UInt8)} (h : spl [] s.data.toList = dn) (ho : w'.ownsRow w.heap.size 9 1 v dn.length (strs dn)) (hb : Below w.heap.size w w') : Splits s w (.returned v) w' := by
  subst h
  obtain ⟨A, cap, rfl⟩ := own_form ho
  exact ⟨A, cap, rfl, ho, hb⟩
set_option maxRecDepth 100000 in
set_option maxHeartbeats 2000000 in
theorem split4 (s : ByteArray) (w : World) (hl : s.size ≤ 1048576) : Calls Tryd.prog 69 #[.string s, .int .u8 32] w (Splits s w) := by
  obtain ⟨i0, hi, hz0, hz1, hz2⟩ := info_parts infoSt
  have HO0 := Lib.hid (World.ownsRow_made (size := 1) (e := 9) w #[] 0 (Nat.le_refl _) (by decide) rfl)
  go_enter Tryd.func69, Tryd.ntmps69
  go_wp2
  go_loopw [5, 6, 7] (fun v bg i wr => ∃ (k b : Nat) (dn : List (List UInt8)), k ≤ s.size + 1 ∧ i = .int .i64 k ∧ bg = .int .i64 b ∧ b ≤ k ∧ dn.length ≤ k ∧ Hid (SP s k b dn) ∧ Below w.heap.size w wr ∧ wr.ownsRow w.heap.size 9 1 v dn.length (strs dn)) (fun _ _ i _ => s.size + 1 - (intOf i).toNat)
  case atStart => exact ⟨0, 0, [], by omega, rfl, rfl, by omega, by simp, sp_start s, (Below.refl _ _).alloc (Nat.le_refl _) _, HO0.out⟩
  case round =>
    obtain ⟨k, b, dn, hk, rfl, rfl, hbk, hdn, HF, hb, hown⟩ := hrel
    by_cases hlt : k < s.size
    · have q0 := bz_at s k hlt
      have hb0 := bz_bd s k
      have ne : ((k : Int) == (s.size : Int)) = false := by rw [beq_eq_false_iff_ne]; omega
      by_cases hsp : bz s k = 32
      · have t0 : (bz s k == 32) = true := by rw [hsp]; rfl
        have HF' := Lib.hid (sp_one HF hlt hsp)
        clear hsp
        go_wp2_with (at_builtin; refine wpList_append_own _ rfl _ _ 89 rfl w.heap.size 9 i0 _ 1 16 Tryd.underlying89 hi hz0 hz1 hz2 rfl (by decide) _ _ _ rfl (hown.alloc _) ⟨wr.heap.size, 0, none⟩ 1 1 [.string (s.extract b k)] rfl rfl ?c1 ?c2 ?c3 ?c4 ?c5 ?_)
        case c1 => exact news1 (heap_alloc_new _ _)
        case c2 => exact oneS _
        case c3 => unfold maxLen; omega
        case c4 => omega
        case c5 => have := hb.size; simp; omega
        intro v' w4 hown4 hgrow _
        rw [← strs_snoc] at hown4
        have hb4 := Lib.hid ((hb.alloc hb.size _).grown hgrow (by have := hb.size; simp; omega) (fun q hq => (hown.lt q hq).1))
        have HO := Lib.hid hown4
        clear hown4 hgrow
        go_wp2
        go_roundw
        case rel => exact ⟨k + 1, k + 1, dn ++ [piece s b k], by omega, by go_num, by go_num, by omega, by simp; omega, HF'.out, hb4.out, by rw [List.length_append, List.length_singleton]; exact HO.out⟩
        case measure => simp [intOf]; omega
      · have t0 : (bz s k == 32) = false := by simp [hsp]
        have HF' := Lib.hid (sp_more HF hlt hbk hsp)
        clear hsp
        go_wp2
        go_roundw
        case rel => exact ⟨k + 1, b, dn, by omega, by go_num, rfl, by omega, by omega, HF'.out, hb, hown⟩
        case measure => simp [intOf]; omega
    · by_cases hend : k = s.size
      · subst hend
        have HF' := Lib.hid (sp_end HF)
        have eq : ((s.size : Int) == (s.size : Int)) = true := by simp
        go_wp2_with (at_builtin; refine wpList_append_own _ rfl _ _ 89 rfl w.heap.size 9 i0 _ 1 16 Tryd.underlying89 hi hz0 hz1 hz2 rfl (by decide) _ _ _ rfl (hown.alloc _) ⟨wr.heap.size, 0, none⟩ 1 1 [.string (s.extract b s.size)] rfl rfl ?c1 ?c2 ?c3 ?c4 ?c5 ?_)
        case c1 => exact news1 (heap_alloc_new _ _)
        case c2 => exact oneS _
        case c3 => unfold maxLen; omega
        case c4 => omega
        case c5 => have := hb.size; simp; omega
        intro v' w4 hown4 hgrow _
        rw [← strs_snoc] at hown4
        have hb4 := Lib.hid ((hb.alloc hb.size _).grown hgrow (by have := hb.size; simp; omega) (fun q hq => (hown.lt q hq).1))
        have HO := Lib.hid hown4
        clear hown4 hgrow
        go_wp2
        go_roundw
        case rel => exact ⟨s.size + 1, s.size + 1, dn ++ [piece s b s.size], by omega, by go_num, by go_num, by omega, by simp; omega, HF'.out, hb4.out, by rw [List.length_append, List.length_singleton]; exact HO.out⟩
        case measure => simp [intOf]
      · have hk2 : s.size + 1 ≤ k := by omega
        have HFin : Hid (spl [] s.data.toList = dn) := by
          have h : SP s (s.size + 1) b dn := by rw [show s.size + 1 = k by omega]; exact HF
          exact sp_fin h
        go_wp2
        go_ret
        exact splits_of HFin.out hown hb
end Go.Proofs.YtclofbknbfmmlaaDoor.C1
