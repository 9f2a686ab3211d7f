/- Rows of vessels, and the measures of a row: of the program. -/
import Derived.Test.YtclofbknbfmmlaaTrI3
import Derived.Test.YtclofbknbfmmlaaTrnU
namespace Go.Proofs.Ytclofbknbfmmlaa.C1
open Go.ChangeShapes Go.WideShapes Go.ChangeAt Go.RowKit
set_option linter.unusedVariables false

/-- Boats as vessels. -/
def vsl (L : List Bt) : List Value := L.map fun b => .iface 90 (.agg #[.int .i64 b.i, .int .i64 b.l, .int .i64 b.w, .int .i64 b.d, .int .i64 b.s, .int .i64 b.c])
theorem vsl_len (L : List Bt) : (vsl L).length = L.length := by simp [vsl]
theorem vsl_at {L : List Bt} {i : Nat} {b : Bt} (h : L[i]? = some b) : (vsl L)[i]? = some (.iface 90 (.agg #[.int .i64 b.i, .int .i64 b.l, .int .i64 b.w, .int .i64 b.d, .int .i64 b.s, .int .i64 b.c])) := by simp [vsl, h]
theorem vsl_app (L M : List Bt) : vsl (L ++ M) = vsl L ++ vsl M := by simp [vsl]
def Vsl (w : World) (A : Option Addr) (L : List Bt) : Prop := 0 < L.length → ∃ g, A = some ⟨g, 0, none⟩ ∧ ∀ i b, L[i]? = some b → w.cell? ⟨g, i, none⟩ = some (.iface 90 (.agg #[.int .i64 b.i, .int .i64 b.l, .int .i64 b.w, .int .i64 b.d, .int .i64 b.s, .int .i64 b.c]))
theorem Vsl.below {w w' : World} {A : Option Addr} {L : List Bt} (h : Vsl w A L) (hb : Below w.heap.size w w') : Vsl w' A L := fun hn => by
  obtain ⟨g, e, hc⟩ := h hn
  exact ⟨g, e, fun i b hi => (hb.cell (cell_lt' (hc i b hi))).trans (hc i b hi)⟩
theorem vsl_of_own {w : World} {B : Nat} {v : Value} {t : TypeId} {L : List Bt} (h : w.ownsRow B t 1 v L.length (vsl L)) : ∃ A c, v = .slice A L.length c ∧ Vsl w A L := by
  rcases h.2 with ⟨rfl, h0⟩ | ⟨g, cap, cur, rfl, _⟩
  · exact ⟨none, 0, by rw [h0], fun hn => by omega⟩
  · refine ⟨_, cap, rfl, fun _ => ⟨g, rfl, fun i b hi => ?_⟩⟩
    have hl := len_of hi
    rw [h.cellAt i (by omega), vsl_at hi]
theorem infoV : (Try.prog.info? 106).map (fun i => (i.zero, i.size, i.bytes)) = some (some .nilIface, 1, 16) := by kernel_rfl
set_option maxRecDepth 100000 in
set_option maxHeartbeats 1000000 in
theorem vessels (A : Option Addr) (c : Nat) (L : List Bt) (w : World) (hn : L.length ≤ 1048576) (hp : Bts w A L) :
    Calls Try.prog 103 #[.slice A L.length c] w fun e w' => (∃ v, e = .returned v ∧ w'.ownsRow w.heap.size 106 1 v L.length (vsl L)) ∧ Below w.heap.size w w' := by
  obtain ⟨i0, hi, hz0, hz1, hz2⟩ := info_parts infoV
  have HP := vl hp
  clear hp
  go_enter Try.func103, Try.ntmps103
  go_wp2_with (at_make; refine wpList_make_own _ rfl _ _ 104 rfl w.heap.size 106 i0 .nilIface 1 Try.underlying104 hi hz0 hz1 .i64 .i64 _ L.length rfl rfl (by rfl) (by rw [hz2]; omega) (by unfold maxLen; omega) (Nat.le_refl _) ?_; intro w0 hown0 hgr0)
  have HB0 := vl (below_none hgr0)
  have HO0 := vl hown0
  clear hown0 hgr0
  go_wp2
  go_loopw [3, 11] (fun v i wr => ∃ k : Nat, k ≤ L.length ∧ i = .int .i64 k ∧ Veil (Below w.heap.size w wr) ∧ Veil (wr.ownsRow w.heap.size 106 1 v k (vsl (L.take k)))) (fun _ i _ => L.length - (intOf i).toNat)
  case atStart => exact ⟨0, by omega, rfl, HB0, HO0⟩
  case round =>
    obtain ⟨k, hk, rfl, HB, HO⟩ := hrel
    by_cases hlt : k < L.length
    · obtain ⟨b, hb⟩ := get_of hlt
      obtain ⟨g, o, rfl, hc⟩ := (HP.out.below HB.out) (by omega)
      obtain ⟨x0, x1, x2, x3, x4, x5⟩ := hc k b hb
      have HI := vl (show vsl (L.take (k + 1)) = vsl (L.take k) ++ [.iface 90 (.agg #[.int .i64 b.i, .int .i64 b.l, .int .i64 b.w, .int .i64 b.d, .int .i64 b.s, .int .i64 b.c])] by rw [List.take_add_one, hb, vsl_app]; rfl)
      clear hc hb
      go_wp2_with (at_builtin; refine wpList_app rfl _ _ 104 rfl w.heap.size 106 i0 _ 1 16 Try.underlying104 hi hz0 hz1 hz2 rfl (by decide) _ _ _ rfl ((HO.out.alloc _).alloc _) (some ⟨wr.heap.size + 1, 0, none⟩) 1 1 [.iface 90 (.agg #[.int .i64 b.i, .int .i64 b.l, .int .i64 b.w, .int .i64 b.d, .int .i64 b.s, .int .i64 b.c])] rfl rfl ?c1 ?c2 ?c3 ?c4 ?c5 ?_)
      case c1 => exact fun _ => ⟨_, rfl, fun j u hu => World.news_of_block (by have := heap_alloc_new (wr.alloc (.cells #[.int .i64 b.i, .int .i64 b.l, .int .i64 b.w, .int .i64 b.d, .int .i64 b.s, .int .i64 b.c] 90)) (.cells #[.iface 90 (.agg #[.int .i64 b.i, .int .i64 b.l, .int .i64 b.w, .int .i64 b.d, .int .i64 b.s, .int .i64 b.c])] 106); simpa using this) j u (by simpa using hu)⟩
      case c2 => intro u hu; simp at hu; subst hu; rfl
      case c3 => unfold maxLen; omega
      case c4 => omega
      case c5 => have := HB.out.size; simp; omega
      intro v' w2 hown hgr
      have HB2 := vl (((HB.out.alloc HB.out.size (.cells #[.int .i64 b.i, .int .i64 b.l, .int .i64 b.w, .int .i64 b.d, .int .i64 b.s, .int .i64 b.c] 90)).alloc (by have := HB.out.size; simp; omega) (.cells #[.iface 90 (.agg #[.int .i64 b.i, .int .i64 b.l, .int .i64 b.w, .int .i64 b.d, .int .i64 b.s, .int .i64 b.c])] 106)).trans (below_app' ((HO.out.alloc (.cells #[.int .i64 b.i, .int .i64 b.l, .int .i64 b.w, .int .i64 b.d, .int .i64 b.s, .int .i64 b.c] 90)).alloc (.cells #[.iface 90 (.agg #[.int .i64 b.i, .int .i64 b.l, .int .i64 b.w, .int .i64 b.d, .int .i64 b.s, .int .i64 b.c])] 106)) hgr (by have := HB.out.size; simp; omega)))
      rw [← HI.out] at hown
      have HO2 := vl hown
      clear hown hgr x0 x1 x2 x3 x4 x5
      go_wp2
      go_roundw
      case rel => exact ⟨k + 1, by omega, by go_num, HB2, HO2⟩
      case measure => simp [intOf]; omega
    · obtain rfl : k = L.length := by omega
      have HO2 := HO
      rw [List.take_length] at HO2
      go_wp2
      go_ret
      exact ⟨⟨_, rfl, HO2.out⟩, HB.out⟩
theorem blen_impl (b : Bt) (w : World) : Calls Try.prog 132 #[.agg #[.int .i64 b.i, .int .i64 b.l, .int .i64 b.w, .int .i64 b.d, .int .i64 b.s, .int .i64 b.c]] w fun e w' => e = .returned (.int .i64 b.l) ∧ Below w.heap.size w w' := by
  have HB0 := vl ((Below.refl w.heap.size w).alloc (Nat.le_refl _) (.cells #[.int .i64 b.i, .int .i64 b.l, .int .i64 b.w, .int .i64 b.d, .int .i64 b.s, .int .i64 b.c] 90))
  go_enter Try.func132, Try.ntmps132
  go_wp2
  go_ret
  exact ⟨rfl, HB0.out⟩
set_option maxRecDepth 100000 in
set_option maxHeartbeats 1000000 in
theorem great_impl (A : Option Addr) (c : Nat) (L : List Bt) (w : World) (hn : L.length ≤ 1048576) (hp : Vsl w A L) :
    Calls Try.prog 102 #[.slice A L.length c] w fun e w' => e = .returned (.int .i64 (lenR L)) ∧ Below w.heap.size w w' := by
  have HP := vl hp
  clear hp
  go_enter Try.func102, Try.ntmps102
  go_wp2
  go_loopw [3, 8] (fun n i wr => ∃ k : Nat, k ≤ L.length ∧ i = .int .i64 k ∧ n = .int .i64 (fk (fun n b => max n b.l) 0 L k) ∧ Veil (Below w.heap.size w wr)) (fun _ i _ => L.length - (intOf i).toNat)
  case atStart => exact ⟨0, by omega, rfl, by rw [fk_zero], vl (Below.refl _ _)⟩
  case round =>
    obtain ⟨k, hk, rfl, rfl, HB⟩ := hrel
    by_cases hlt : k < L.length
    · obtain ⟨b, hb⟩ := get_of hlt
      obtain ⟨g, rfl, hc⟩ := (HP.out.below HB.out) (by omega)
      have x0 := hc k b hb
      have HS := vl (fk_succ (f := fun (n : Int) (b : Bt) => max n b.l) (a := (0 : Int)) hb)
      clear hc hb
      generalize fk (fun n b => max n b.l) 0 L k = n at HS ⊢
      have hm : ∀ w : World, (method 237 90 (.agg #[.int .i64 b.i, .int .i64 b.l, .int .i64 b.w, .int .i64 b.d, .int .i64 b.s, .int .i64 b.c]) "loop.example/g03317/impl.length").run Try.prog w = .ok (132, .agg #[.int .i64 b.i, .int .i64 b.l, .int .i64 b.w, .int .i64 b.d, .int .i64 b.s, .int .i64 b.c]) w := fun _ => by kernel_rfl
      go_wp2_with fail
      refine (blen_impl b _).mono ?_
      rintro e w1 ⟨rfl, hb1⟩
      have HB1 := vl (HB.out.trans (hb1.mono HB.out.size))
      clear hb1 hm x0
      go_wp2
      all_goals
        go_roundw
        case rel => exact ⟨k + 1, by omega, by go_num, congrArg (Value.int .i64) (by rw [HS.out]; omega), HB1⟩
        case measure => simp [intOf]; omega
    · obtain rfl : k = L.length := by omega
      go_wp2
      go_ret
      exact ⟨by rw [fk_end]; rfl, HB.out⟩
theorem bwid_impl (b : Bt) (w : World) : Calls Try.prog 133 #[.agg #[.int .i64 b.i, .int .i64 b.l, .int .i64 b.w, .int .i64 b.d, .int .i64 b.s, .int .i64 b.c]] w fun e w' => e = .returned (.int .i64 b.w) ∧ Below w.heap.size w w' := by
  have HB0 := vl ((Below.refl w.heap.size w).alloc (Nat.le_refl _) (.cells #[.int .i64 b.i, .int .i64 b.l, .int .i64 b.w, .int .i64 b.d, .int .i64 b.s, .int .i64 b.c] 90))
  go_enter Try.func133, Try.ntmps133
  go_wp2
  go_ret
  exact ⟨rfl, HB0.out⟩
set_option maxRecDepth 100000 in
set_option maxHeartbeats 1000000 in
theorem sumw_impl (A : Option Addr) (c : Nat) (L : List Bt) (w : World) (hn : L.length ≤ 6) (hin : ∀ b ∈ L, BIn b) (hp : Vsl w A L) :
    Calls Try.prog 104 #[.slice A L.length c] w fun e w' => e = .returned (.int .i64 (widR L)) ∧ Below w.heap.size w w' := by
  have HP := vl hp
  clear hp
  have HI := vl hin
  clear hin
  go_enter Try.func104, Try.ntmps104
  go_wp2
  go_loopw [3, 8] (fun n i wr => ∃ k : Nat, k ≤ L.length ∧ i = .int .i64 k ∧ n = .int .i64 (fk (fun n b => n + b.w) 0 L k) ∧ Veil (Below w.heap.size w wr)) (fun _ i _ => L.length - (intOf i).toNat)
  case atStart => exact ⟨0, by omega, rfl, by rw [fk_zero], vl (Below.refl _ _)⟩
  case round =>
    obtain ⟨k, hk, rfl, rfl, HB⟩ := hrel
    by_cases hlt : k < L.length
    · obtain ⟨b, hb⟩ := get_of hlt
      obtain ⟨g, rfl, hc⟩ := (HP.out.below HB.out) (by omega)
      have x0 := hc k b hb
      have HS := vl (fk_succ (f := fun (n : Int) (b : Bt) => n + b.w) (a := (0 : Int)) hb)
      obtain ⟨s0, s1⟩ := widR_bd HI.out k
      have w0 := (HI.out b (mem_of hb)).w0; have w1 := (HI.out b (mem_of hb)).w1
      clear hc hb
      generalize fk (fun n b => n + b.w) 0 L k = n at HS s0 s1 ⊢
      have hm : ∀ w : World, (method 237 90 (.agg #[.int .i64 b.i, .int .i64 b.l, .int .i64 b.w, .int .i64 b.d, .int .i64 b.s, .int .i64 b.c]) "loop.example/g03317/impl.width").run Try.prog w = .ok (133, .agg #[.int .i64 b.i, .int .i64 b.l, .int .i64 b.w, .int .i64 b.d, .int .i64 b.s, .int .i64 b.c]) w := fun _ => by kernel_rfl
      have s2 : n ≤ 180 := by omega
      clear s1
      go_wp2_with fail
      refine (bwid_impl b _).mono ?_
      rintro e w1 ⟨rfl, hb1⟩
      have HB1 := vl (HB.out.trans (hb1.mono HB.out.size))
      clear hb1 hm x0
      go_wp2
      all_goals
        go_roundw
        case rel => exact ⟨k + 1, by omega, by go_num, congrArg (Value.int .i64) (by rw [HS.out]), HB1⟩
        case measure => simp [intOf]; omega
    · obtain rfl : k = L.length := by omega
      go_wp2
      go_ret
      exact ⟨by rw [fk_end]; rfl, HB.out⟩
end Go.Proofs.Ytclofbknbfmmlaa.C1
