/- EncodeHex, of the program and of its model. -/
import Derived.Test.YtafjichhahbihaaDoorNum
import Derived.Laws.AppendOwn
import Derived.Laws.OwnMore
import Derived.Laws.MakeOwn
import Derived.OwnWalk
import Derived.Laws.IdiomStrings
import Derived.Deep.AppendLies
import Derived.Deep.RegionLaw
import Derived.Below
namespace Go.Proofs.YtafjichhahbihaaDoor.C1
open Go.ChangeShapes Go.WideShapes Go.ChangeAt Go.RowKit
set_option linter.unusedVariables false

def figZ (x : Int) : Int := if x < 10 then 48 + x else 87 + x
def figB (x : Nat) : UInt8 := if x < 10 then UInt8.ofNat (48 + x) else UInt8.ofNat (87 + x)
theorem figB_toNat {x : Nat} (h : x < 16) : ((figB x).toNat : Int) = figZ x := by
  unfold figB figZ
  by_cases h1 : x < 10
  · rw [if_pos h1, if_pos (by omega)]; simp; omega
  · rw [if_neg h1, if_neg (by omega)]; simp; omega
def hexL (l : List UInt8) : List UInt8 := l.flatMap fun b => [figB (b.toNat / 16), figB (b.toNat % 16)]
theorem hexL_len (l : List UInt8) : (hexL l).length = 2 * l.length := by
  induction l with
  | nil => rfl
  | cons b l ih => simp [hexL] at ih ⊢; omega
theorem hexL_snoc (l : List UInt8) (b : UInt8) : hexL (l ++ [b]) = hexL l ++ [figB (b.toNat / 16), figB (b.toNat % 16)] := by simp [hexL]
def bcells (l : List UInt8) : List Value := l.map fun b => .int .u8 (b.toNat : Int)
theorem take_snoc (s : ByteArray) (k : Nat) (h : k < s.size) : s.data.toList.take (k + 1) = s.data.toList.take k ++ [s[k]] := by
  rw [List.take_succ_eq_append_getElem (by simpa using h)]; rfl
theorem news2 {w : World} {g : Nat} {t : TypeId} {u v : Value} (h : w.heap[g]? = some (.cells #[u, v] t (0, 0))) : ∀ (j : Nat) (x : Value), [u, v][j]? = some x → w.cell? ((⟨g, 0, none⟩ : Addr).add j) = some x :=
  fun j x hx => World.news_of_block h j x hx
theorem one2 (a b : Int) : ∀ x ∈ ([.int .u8 a, .int .u8 b] : List Value), x.oneCell' = true := by
  intro x hx
  simp at hx
  rcases hx with rfl | rfl <;> rfl
theorem conv_own {w : World} {base : Nat} {v : Value} {l : List UInt8} (hown : w.ownsRow base 5 1 v l.length (bcells l)) : (convert 22 9 v).run Tryd.prog w = .ok (.string ⟨l.toArray⟩) w := by
  rcases hown.2 with ⟨rfl, h0⟩ | ⟨g, cap, cur, rfl, _, hh, _⟩
  · have : l = [] := List.eq_nil_of_length_eq_zero h0
    subst this
    simp [convert, run_underlying Tryd.underlying22, run_underlying Tryd.underlying9, run_underlying Tryd.underlying5, Conv.bytesToString]
    rfl
  · refine run_convert_bytes_back w 22 9 5 ⟨g, 0, none⟩ cap l Tryd.underlying22 Tryd.underlying5 Tryd.underlying9 (fun j hj => ?_)
    refine hown.cells (g := g) rfl j _ ?_
    unfold bcells
    rw [List.getElem?_map, List.getElem?_eq_getElem hj]
    rfl
theorem fig_spec (x : Int) (w : World) (h0 : 0 ≤ x) (h1 : x ≤ 15) : Calls Tryd.prog 37 #[.int .i64 x] w fun e w' => e = .returned (.int .u8 (figZ x)) ∧ w' = w := by
  by_cases h : x < 10
  · have H := Lib.hid (show figZ x = 48 + x by unfold figZ; rw [if_pos h])
    go_enter Tryd.func37, Tryd.ntmps37
    go_wp2
    go_ret
    exact ⟨ret_int H.out.symm, rfl⟩
  · have H := Lib.hid (show figZ x = 87 + x by unfold figZ; rw [if_neg h])
    have h' : 10 ≤ x := by omega
    go_enter Tryd.func37, Tryd.ntmps37
    go_wp2
    go_ret
    exact ⟨ret_int (by rw [H.out]; omega), rfl⟩
theorem and_u8_15 (x : Nat) (h : x < 256) : bits .and .u8 (x : Int) 15 = (x : Int) % 16 := by
  have h1 : (BitVec.ofInt 8 (x : Int)).toNat = x := by
    rw [BitVec.ofInt_natCast, BitVec.toNat_ofNat]; exact Nat.mod_eq_of_lt (by omega)
  have h2 : (BitVec.ofInt 8 (15 : Int)).toNat = 2 ^ 4 - 1 := by decide
  have e : bits .and .u8 (x : Int) 15 = IntKind.u8.wrap ((BitVec.ofInt 8 (x : Int) &&& BitVec.ofInt 8 15).toNat : Int) := rfl
  rw [e, BitVec.toNat_and, h1, h2, Nat.and_two_pow_sub_one_eq_mod, IntWalk.u8_in _ ⟨by omega, by omega⟩]
  omega
theorem lit_fig : ∀ x : Nat, (h : x < 16) → (⟨#[48, 49, 50, 51, 52, 53, 54, 55, 56, 57, 97, 98, 99, 100, 101, 102]⟩ : ByteArray)[x]'h = figB x := by decide
theorem lit_figZ (x : Int) (h0 : 0 ≤ x) (h1 : x < 16) (h : x.toNat < (⟨#[48, 49, 50, 51, 52, 53, 54, 55, 56, 57, 97, 98, 99, 100, 101, 102]⟩ : ByteArray).size) : (((⟨#[48, 49, 50, 51, 52, 53, 54, 55, 56, 57, 97, 98, 99, 100, 101, 102]⟩ : ByteArray)[x.toNat]'h).toNat : Int) = figZ x := by
  rw [lit_fig x.toNat (by omega), figB_toNat (by omega), Int.toNat_of_nonneg h0]
theorem hex_impl_no (s : ByteArray) (w : World) (hs : 20000 < s.size) (hs' : s.size ≤ 9223372036854775807) :
    Calls Tryd.prog 11 #[.string s] w fun e w' => e = .returned (.tuple #[.string ⟨#[]⟩, .bool false]) ∧ w = w' := by
  go_enter Tryd.func11, Tryd.ntmps11
  go_wp2
  go_ret2
  exact ⟨rfl, rfl⟩
set_option maxHeartbeats 1000000 in
theorem hex_impl (s : ByteArray) (w : World) (hs : s.size ≤ 20000) :
    Calls Tryd.prog 11 #[.string s] w fun e w' => e = .returned (.tuple #[.string ⟨(hexL s.data.toList).toArray⟩, .bool true]) ∧ Below w.heap.size w w' := by
  obtain ⟨i0, hi, hz0, hz1, hz2⟩ := info_parts (show (Tryd.prog.info? 5).map (fun i => (i.zero, i.size, i.bytes)) = some (some (.int .u8 0), 1, 1) by kernel_rfl)
  have hmk : ∀ W : World, (Instr.makeSlice 22 (.int .i64 0) (.int .i64 (2 * (s.size : Int)))).run Tryd.prog W = .ok (.slice (some ⟨W.heap.size, 0, none⟩) 0 (2 * s.size)) (W.alloc (.cells (madeCells #[.int .u8 0] (2 * s.size)) 5)) := fun W => by
    have h := run_make (P := Tryd.prog) W 22 5 i0 _ Tryd.underlying22 hi hz0 .i64 .i64 0 (2 * (s.size : Int)) (by omega) (by omega) (by rw [hz2]; omega) (by omega)
    rw [hz1, Nat.mul_one, show (2 * (s.size : Int)).toNat = 2 * s.size by omega] at h
    exact h
  have HO0 := Lib.hid (World.ownsRow_made (size := 1) (e := 5) w (madeCells #[.int .u8 0] (2 * s.size)) (2 * s.size) (Nat.le_refl _) (by unfold maxLen; omega) (by rw [size_madeCells, Nat.mul_one]))
  go_enter Tryd.func11, Tryd.ntmps11
  go_wp2
  clear hmk
  go_loopw [4, 15] (fun v i wr => ∃ k : Nat, k ≤ s.size ∧ i = .int .i64 k ∧ Below w.heap.size w wr ∧ wr.ownsRow w.heap.size 5 1 v (2 * k) (bcells (hexL (s.data.toList.take k)))) (fun _ i _ => s.size - (intOf i).toNat)
  case atStart => exact ⟨0, by omega, rfl, (Below.refl _ _).alloc (Nat.le_refl _) _, HO0.out⟩
  case round =>
    obtain ⟨k, hk, rfl, hb, hown⟩ := hrel
    by_cases hlt : k < s.size
    · have bd : 0 ≤ (s[k].toNat : Int) ∧ (s[k].toNat : Int) ≤ 255 := by have := s[k].toNat_lt; omega
      have f0 := and_u8_15 s[k].toNat (by omega)
      have f1 : 0 ≤ (s[k].toNat : Int) / 16 := by omega
      have f2 : (s[k].toNat : Int) / 16 < 16 := by omega
      have f3 : 0 ≤ (s[k].toNat : Int) % 16 := by omega
      have f4 : (s[k].toNat : Int) % 16 < 16 := by omega
      go_wp2
      go_region_law (refine step_append_lies _ rfl (.tmp 18) (.tmp 29) 22 rfl w.heap.size 5 i0 _ 1 1 Tryd.underlying22 hi hz0 hz1 hz2 rfl (by decide) _ _ _ rfl (by first | exact hown.alloc _) ⟨wr.heap.size, 0, none⟩ 2 2 [.int .u8 _, .int .u8 _] rfl rfl (news2 (heap_alloc_new _ _)) (one2 _ _) (by decide) (by unfold maxLen; omega) (by omega) (by have := hb.size; simp; omega) _ rfl ?_; intro g cap w4 hown4 hgrow _ _)
      all_goals
        simp only [lit_figZ _ f1 f2, lit_figZ _ f3 f4] at hown4
        have hsn := hexL_snoc (s.data.toList.take k) s[k]
        have hts := take_snoc s k hlt
        have e1 := figB_toNat (x := s[k].toNat / 16) (by have := s[k].toNat_lt; omega)
        have e2 := figB_toNat (x := s[k].toNat % 16) (by omega)
        have HC : Hid (bcells (hexL (s.data.toList.take (k + 1))) = bcells (hexL (s.data.toList.take k)) ++ [.int .u8 (figZ (s[k].toNat / 16)), .int .u8 (figZ (s[k].toNat % 16))]) := by
          show _ = _
          rw [hts, hsn]
          unfold bcells
          rw [List.map_append, List.map_cons, List.map_cons, List.map_nil, e1, e2]
          rfl
        have hb4 := Lib.hid ((hb.alloc hb.size _).drew.grown hgrow (by have := hb.size; simp; omega) (fun q hq => (hown.lt q hq).1))
        have HO := Lib.hid hown4
        clear hsn hts e1 e2 f0 hown4 hgrow
        go_wp2
        go_roundw
        case rel => exact ⟨k + 1, by omega, by go_num, hb4.out, by rw [HC.out, show 2 * (k + 1) = 2 * k + 2 by omega]; exact HO.out⟩
        case measure => simp [intOf]; omega
    · obtain rfl : k = s.size := by omega
      rw [List.take_of_length_le (by simp), show 2 * s.size = (hexL s.data.toList).length by rw [hexL_len]; simp] at hown
      have hcv := conv_own hown
      go_wp2
      go_ret2
      exact ⟨rfl, hb⟩
end Go.Proofs.YtafjichhahbihaaDoor.C1
