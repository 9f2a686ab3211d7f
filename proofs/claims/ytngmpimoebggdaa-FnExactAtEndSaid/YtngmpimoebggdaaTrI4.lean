/- Rows of vessels, and the measures of a row: of the program. -/
import Derived.Test.YtngmpimoebggdaaTrI3
import Derived.Test.YtngmpimoebggdaaTrnU
namespace Go.Proofs.Ytngmpimoebggdaa.C1
open Go.ChangeShapes Go.WideShapes Go.ChangeAt Go.RowKit
set_option linter.unusedVariables false

theorem wrap_in64 {n : Int} (h : -9223372036854775808 ≤ n ∧ n ≤ 9223372036854775807) : wrap64 n = n := by unfold wrap64; omega
/-- Sums as the program forms them: they may go round. -/
def widW (r : List Bt) : Int := r.foldl (fun n b => wrap64 (n + b.w)) 0
def lenW (T : List (List Bt)) : Int := T.foldl (fun n r => wrap64 (n + lenR r)) 0
def widX (T : List (List Bt)) : Int := T.foldl (fun n r => max n (widW r)) 0
theorem widW_eq {r : List Bt} (h6 : r.length ≤ 6) (h : ∀ b ∈ r, BIn b) : widW r = widR r := by
  have key : ∀ k, k ≤ r.length → fk (fun n (b : Bt) => wrap64 (n + b.w)) 0 r k = fk (fun n (b : Bt) => n + b.w) 0 r k := by
    intro k
    induction k with
    | zero => intro _; rw [fk_zero, fk_zero]
    | succ k ih =>
      intro hk
      obtain ⟨b, hb⟩ := get_of (L := r) (k := k) (by omega)
      rw [fk_succ hb, fk_succ hb, ih (by omega)]
      obtain ⟨s0, s1⟩ := widR_bd h k
      have h0 := (h b (mem_of hb)).w0
      have h1 := (h b (mem_of hb)).w1
      exact wrap_in64 (by omega)
  have := key r.length (Nat.le_refl _)
  rw [fk_end, fk_end] at this
  exact this
theorem lenW_eq {T : List (List Bt)} (ht : TIn T) : lenW T = lenZ T := by
  have hn := ht.rows.2
  have key : ∀ k, k ≤ T.length → fk (fun n r => wrap64 (n + lenR r)) 0 T k = fk (fun n r => n + lenR r) 0 T k := by
    intro k
    induction k with
    | zero => intro _; rw [fk_zero, fk_zero]
    | succ k ih =>
      intro hk
      obtain ⟨r, hr⟩ := get_of (L := T) (k := k) (by omega)
      rw [fk_succ hr, fk_succ hr, ih (by omega)]
      obtain ⟨s0, s1⟩ := lenZ_bd ht k
      obtain ⟨_, hr6, hin⟩ := ht.row hr
      obtain ⟨l0, l1⟩ := lenR_le hin
      exact wrap_in64 (by omega)
  have := key T.length (Nat.le_refl _)
  rw [fk_end, fk_end] at this
  exact this
theorem widX_eq {T : List (List Bt)} (ht : TIn T) : widX T = widZ T := by
  have key : ∀ k, k ≤ T.length → fk (fun n r => max n (widW r)) 0 T k = fk (fun n r => max n (widR r)) 0 T k := by
    intro k
    induction k with
    | zero => intro _; rw [fk_zero, fk_zero]
    | succ k ih =>
      intro hk
      obtain ⟨r, hr⟩ := get_of (L := T) (k := k) (by omega)
      obtain ⟨_, hr6, hin⟩ := ht.row hr
      rw [fk_succ hr, fk_succ hr, ih (by omega), widW_eq (by omega) hin]
  have := key T.length (Nat.le_refl _)
  rw [fk_end, fk_end] at this
  exact this
theorem infoV : (Try.prog.info? 215).map (fun i => (i.zero, i.size, i.bytes)) = some (some .nilIface, 1, 16) := by kernel_rfl
theorem blen_impl (b : Bt) (w : World) : Calls Try.prog 242 #[.agg #[.int .i64 b.i, .int .i64 b.l, .int .i64 b.w, .int .i64 b.d, .int .i64 b.s, .int .i64 b.c]] w fun e w' => e = .returned (.int .i64 b.l) ∧ Below w.heap.size w w' := by
  have HB0 := vl ((Below.refl w.heap.size w).alloc (Nat.le_refl _) (.cells #[.int .i64 b.i, .int .i64 b.l, .int .i64 b.w, .int .i64 b.d, .int .i64 b.s, .int .i64 b.c] 177))
  go_enter Try.func242, Try.ntmps242
  go_wp2
  go_ret
  exact ⟨rfl, HB0.out⟩
set_option maxRecDepth 100000 in
set_option maxHeartbeats 1000000 in
theorem great_impl (A : Option Addr) (c : Nat) (L : List Bt) (w : World) (hn : L.length ≤ 1048576) (hp : Bts w A L) :
    Calls Try.prog 201 #[.slice A L.length c] w fun e w' => e = .returned (.int .i64 (lenR L)) ∧ Below w.heap.size w w' := by
  have HP := vl hp
  clear hp
  go_enter Try.func201, Try.ntmps201
  go_wp2
  go_loopw [3, 8] (fun n i wr => ∃ k : Nat, k ≤ L.length ∧ i = .int .i64 k ∧ n = .int .i64 (fk (fun n b => max n b.l) 0 L k) ∧ Veil (Below w.heap.size w wr)) (fun _ i _ => L.length - (intOf i).toNat)
  case atStart => exact ⟨0, by omega, rfl, by rw [fk_zero], vl (Below.refl _ _)⟩
  case round =>
    obtain ⟨k, hk, rfl, rfl, HB⟩ := hrel
    by_cases hlt : k < L.length
    · obtain ⟨b, hb⟩ := get_of hlt
      obtain ⟨g, o, rfl, hc⟩ := (HP.out.below HB.out) (by omega)
      obtain ⟨x0, x1, x2, x3, x4, x5⟩ := hc k b hb
      have HB0 := vl (HB.out.alloc HB.out.size (.cells #[.int .i64 b.i, .int .i64 b.l, .int .i64 b.w, .int .i64 b.d, .int .i64 b.s, .int .i64 b.c] 177))
      have HS := vl (fk_succ (f := fun (n : Int) (b : Bt) => max n b.l) (a := (0 : Int)) hb)
      clear hc hb
      generalize fk (fun n b => max n b.l) 0 L k = n at HS ⊢
      have hm : ∀ w : World, (method 359 177 (.agg #[.int .i64 b.i, .int .i64 b.l, .int .i64 b.w, .int .i64 b.d, .int .i64 b.s, .int .i64 b.c]) "loop.example/g03317/impl.length").run Try.prog w = .ok (242, .agg #[.int .i64 b.i, .int .i64 b.l, .int .i64 b.w, .int .i64 b.d, .int .i64 b.s, .int .i64 b.c]) w := fun _ => by kernel_rfl
      go_wp2_with fail
      refine (blen_impl b _).mono ?_
      rintro e w1 ⟨rfl, hb1⟩
      have HB1 := vl (HB0.out.trans (hb1.mono HB0.out.size))
      clear hb1 hm x0 x1 x2 x3 x4 x5
      go_wp2
      all_goals
        go_roundw
        case rel => exact ⟨k + 1, by omega, by go_num, congrArg (Value.int .i64) (by rw [HS.out]; omega), HB1⟩
        case measure => simp [intOf]; omega
    · obtain rfl : k = L.length := by omega
      go_wp2
      go_ret
      exact ⟨by rw [fk_end]; rfl, HB.out⟩
theorem bwid_impl (b : Bt) (w : World) : Calls Try.prog 243 #[.agg #[.int .i64 b.i, .int .i64 b.l, .int .i64 b.w, .int .i64 b.d, .int .i64 b.s, .int .i64 b.c]] w fun e w' => e = .returned (.int .i64 b.w) ∧ Below w.heap.size w w' := by
  have HB0 := vl ((Below.refl w.heap.size w).alloc (Nat.le_refl _) (.cells #[.int .i64 b.i, .int .i64 b.l, .int .i64 b.w, .int .i64 b.d, .int .i64 b.s, .int .i64 b.c] 177))
  go_enter Try.func243, Try.ntmps243
  go_wp2
  go_ret
  exact ⟨rfl, HB0.out⟩
set_option maxRecDepth 100000 in
set_option maxHeartbeats 1000000 in
theorem sumw_impl (A : Option Addr) (c : Nat) (L : List Bt) (w : World) (hn : L.length ≤ 1048576) (hp : Bts w A L) :
    Calls Try.prog 202 #[.slice A L.length c] w fun e w' => e = .returned (.int .i64 (widW L)) ∧ Below w.heap.size w w' := by
  have HP := vl hp
  clear hp
  go_enter Try.func202, Try.ntmps202
  go_wp2
  go_loopw [3, 8] (fun n i wr => ∃ k : Nat, k ≤ L.length ∧ i = .int .i64 k ∧ n = .int .i64 (fk (fun n (b : Bt) => wrap64 (n + b.w)) 0 L k) ∧ Veil (Below w.heap.size w wr)) (fun _ i _ => L.length - (intOf i).toNat)
  case atStart => exact ⟨0, by omega, rfl, by rw [fk_zero], vl (Below.refl _ _)⟩
  case round =>
    obtain ⟨k, hk, rfl, rfl, HB⟩ := hrel
    by_cases hlt : k < L.length
    · obtain ⟨b, hb⟩ := get_of hlt
      obtain ⟨g, o, rfl, hc⟩ := (HP.out.below HB.out) (by omega)
      obtain ⟨x0, x1, x2, x3, x4, x5⟩ := hc k b hb
      have HB0 := vl (HB.out.alloc HB.out.size (.cells #[.int .i64 b.i, .int .i64 b.l, .int .i64 b.w, .int .i64 b.d, .int .i64 b.s, .int .i64 b.c] 177))
      have HS := vl (fk_succ (f := fun (n : Int) (b : Bt) => wrap64 (n + b.w)) (a := (0 : Int)) hb)
      clear hc hb
      generalize fk (fun n (b : Bt) => wrap64 (n + b.w)) 0 L k = n at HS ⊢
      have hm : ∀ w : World, (method 359 177 (.agg #[.int .i64 b.i, .int .i64 b.l, .int .i64 b.w, .int .i64 b.d, .int .i64 b.s, .int .i64 b.c]) "loop.example/g03317/impl.width").run Try.prog w = .ok (243, .agg #[.int .i64 b.i, .int .i64 b.l, .int .i64 b.w, .int .i64 b.d, .int .i64 b.s, .int .i64 b.c]) w := fun _ => by kernel_rfl
      go_wp2_with fail
      refine (bwid_impl b _).mono ?_
      rintro e w1 ⟨rfl, hb1⟩
      have HB1 := vl (HB0.out.trans (hb1.mono HB0.out.size))
      clear hb1 hm x0 x1 x2 x3 x4 x5
      go_wp2
      all_goals
        go_roundw
        case rel => exact ⟨k + 1, by omega, by go_num, congrArg (Value.int .i64) (by rw [HS.out]), HB1⟩
        case measure => simp [intOf]; omega
    · obtain rfl : k = L.length := by omega
      go_wp2
      go_ret
      exact ⟨by rw [fk_end]; rfl, HB.out⟩
end Go.Proofs.Ytngmpimoebggdaa.C1
