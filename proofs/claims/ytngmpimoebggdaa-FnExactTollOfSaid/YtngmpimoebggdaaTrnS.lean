/- Boats and trains of the model: all boats of a train, whether it is valid, its measures. -/
import Derived.Test.YtngmpimoebggdaaBtO
import Derived.Test.YtngmpimoebggdaaTrn
namespace Go.Proofs.Ytngmpimoebggdaa.C1
open Go.ChangeShapes Go.WideShapes Go.ChangeAt Go.RowKit
set_option linter.unusedVariables false

/-- All slices of a train are of modest length. -/
structure Mod (T : List (List Bt)) : Prop where
  rows : T.length ≤ 1048576
  all : (bts T).length ≤ 1048576
theorem Mod.row {T : List (List Bt)} (h : Mod T) {r : List Bt} (hr : r ∈ T) : r.length ≤ 1048576 := Nat.le_trans (flat_le hr) h.all
theorem infoB' : (Try.prog.info? 177).map (fun i => (i.zero, i.size, i.bytes)) = some (some (.agg #[.int .i64 0, .int .i64 0, .int .i64 0, .int .i64 0, .int .i64 0, .int .i64 0]), 6, 48) := by kernel_rfl
theorem below_app' {w w1 : World} {v : Value} {B n size : Nat} {e : TypeId} {xs : List Value} (hown : w.ownsRow B e size v n xs) (hg : w.grownBy w1 v.ownBlock) (hB : B ≤ w.heap.size) : Below B w w1 :=
  ⟨hg.os, hg.tape, hg.output, hg.size, fun k hk => hg.block k (by omega) (by
    intro e
    rcases hown.2 with ⟨rfl, _⟩ | ⟨g, _, _, rfl, h1, _⟩
    · simp [Value.ownBlock] at e
    · simp [Value.ownBlock] at e; omega)⟩
set_option maxHeartbeats 2000000 in
theorem boats_own (up : Bool) (A : Option Addr) (c : Nat) (T : List (List Bt)) (w : World) (hm : Mod T) (hp : Trn w A T) :
    Calls Try.prog 138 #[.agg #[.bool up, .slice A T.length c]] w fun e w' => (∃ v, e = .returned v ∧ w'.ownsRow w.heap.size 177 6 v (bts T).length (btl (bts T))) ∧ Below w.heap.size w w' := by
  obtain ⟨i0, hi, hz0, hz1, hz2⟩ := info_parts infoB'
  have HP := vl hp
  have HM := vl hm
  have hn := hm.rows
  clear hp hm
  go_enter Try.func138, Try.ntmps138
  go_wp2
  go_loopw [3, 4] (fun v i wr => ∃ k : Nat, k ≤ T.length ∧ i = .int .i64 k ∧ Veil (Below w.heap.size w wr) ∧ Veil (wr.cell? ⟨w.heap.size, 1, none⟩ = some (.slice A T.length c)) ∧ Veil (wr.ownsRow (w.heap.size + 1) 177 6 v (bts (T.take k)).length (btl (bts (T.take k))))) (fun _ i _ => T.length - (intOf i).toNat)
  case atStart =>
    refine ⟨0, by omega, rfl, vl (((Below.refl _ _).alloc (Nat.le_refl _) _).alloc (by simp) _), vl (by simp), vl ?_⟩
    have := World.ownsRow_lit (base := w.heap.size + 1) (e := 177) (size := 6) (w.alloc (.cells #[.bool up, .slice A T.length c] 29)) #[] 0 (by simp) (by decide) rfl
    simpa [btl, bts] using this
  case round =>
    obtain ⟨k, hk, rfl, HB, HX, HO⟩ := hrel
    have x1 := HX.out
    have hz : w.heap.size + 1 ≤ wr.heap.size := cell_lt' x1
    by_cases hlt : k < T.length
    · obtain ⟨r, hr⟩ := get_of hlt
      obtain ⟨g, o, rfl, hc⟩ := (HP.out.below HB.out) (by omega)
      obtain ⟨Ai, ci, c0, HS⟩ := hc k r hr
      have hrn := HM.out.row (mem_of hr)
      have hq := take_le T (k + 1)
      have ha := HM.out.all
      have he := take_flat hr
      have hel : (bts (T.take (k + 1))).length = (bts (T.take k)).length + r.length := by rw [he, List.length_append]
      have HE := vl (And.intro he hel)
      have HC := vl (src_b HS.out)
      clear hc hr he
      go_wp2_with (at_builtin; refine wpList_app rfl _ _ 173 rfl (w.heap.size + 1) 177 i0 _ 6 48 Try.underlying173 hi hz0 hz1 hz2 rfl (by decide) _ _ _ rfl HO.out Ai r.length ci (btl r) rfl (btl_len _) HC.out btl_cell ?c3 ?c4 ?c5 ?_)
      case c3 => unfold maxLen; omega
      case c4 => omega
      case c5 => exact hz
      intro v' w1 hown hgr
      have hb1 := below_app' HO.out hgr hz
      have HB1 := vl (HB.out.trans (hb1.mono (Nat.le_succ _)))
      have HX1 := vl ((hb1.cell (p := ⟨w.heap.size, 1, none⟩) (Nat.lt_succ_self _)).trans HX.out)
      have HO1 := vl hown
      clear hown hgr hb1
      go_wp2
      go_roundw
      case rel => exact ⟨k + 1, by omega, by go_num, HB1, HX1, vl (by rw [HE.out.2, HE.out.1, btl_app]; exact HO1.out)⟩
      case measure => simp [intOf]; omega
    · obtain rfl : k = T.length := by omega
      go_wp2
      have ho := HO.out
      rw [List.take_length] at ho
      go_ret
      exact ⟨⟨_, rfl, own_base ho (Nat.le_succ _)⟩, HB.out⟩
theorem boats_spec (up : Bool) (A : Option Addr) (c : Nat) (T : List (List Bt)) (w : World) (hm : Mod T) (hp : Trn w A T) :
    Calls Try.prog 138 #[.agg #[.bool up, .slice A T.length c]] w fun e w' => (∃ A' c' g, e = .returned (.slice A' (bts T).length c') ∧ RowB w' A' (bts T) g ∧ w.heap.size ≤ g) ∧ Below w.heap.size w w' := by
  refine (boats_own up A c T w hm hp).mono ?_
  rintro e w' ⟨⟨v, rfl, ho⟩, hb⟩
  obtain ⟨A', c', g, rfl, _, h1, _, h2, _⟩ := rowB_of_own ho hb.size
  exact ⟨⟨A', c', g, rfl, h1, h2⟩, hb⟩
end Go.Proofs.Ytngmpimoebggdaa.C1
