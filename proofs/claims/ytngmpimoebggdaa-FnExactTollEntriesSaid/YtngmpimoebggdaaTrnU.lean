/- The measures of a train: of the model. -/
import Derived.Test.YtngmpimoebggdaaTrnT
namespace Go.Proofs.Ytngmpimoebggdaa.C1
open Go.ChangeShapes Go.WideShapes Go.ChangeAt Go.RowKit
set_option linter.unusedVariables false

/-- A train's two cells. -/
def TBox (w : World) (g : Nat) (up : Bool) (A : Option Addr) (n c : Nat) : Prop := w.cell? ⟨g, 0, none⟩ = some (.bool up) ∧ w.cell? ⟨g, 1, none⟩ = some (.slice A n c)
theorem TBox.below {w w' : World} {g : Nat} {up : Bool} {A : Option Addr} {n c : Nat} (h : TBox w g up A n c) (hb : Below w.heap.size w w') : TBox w' g up A n c := ⟨(hb.cell (cell_lt' h.1)).trans h.1, (hb.cell (cell_lt' h.2)).trans h.2⟩
theorem TBox.new (w : World) (up : Bool) (A : Option Addr) (n c : Nat) (t : TypeId) : TBox (w.alloc (.cells #[.bool up, .slice A n c] t)) w.heap.size up A n c := ⟨by simp, by simp⟩
theorem TBox.drewN {w : World} {g : Nat} {up : Bool} {A : Option Addr} {n c : Nat} (h : TBox w g up A n c) (k : Nat) : TBox (w.drewN k) g up A n c := h
theorem tOk_nil {T : List (List Bt)} (h : T.length = 0) : tOk T = false := by
  obtain rfl := List.eq_nil_of_length_eq_zero h
  rfl
theorem tOk_none {T : List (List Bt)} (h : (bts T).length = 0) : tOk T = false := tOk_len (by rw [h]; rfl)
theorem in_tOk {T : List (List Bt)} (h : tOk T = true) : TIn T := tOk_iff.1 h
set_option maxHeartbeats 2000000 in
theorem len_spec (up : Bool) (A : Option Addr) (c : Nat) (T : List (List Bt)) (w : World) (hm : Mod T) (hp : Trn w A T) :
    Calls Try.prog 87 #[.agg #[.bool up, .slice A T.length c]] w fun e w' => e = .returned (.int .i64 (lenT T)) ∧ Below w.heap.size w w' := by
  have HM := vl hm
  have hn := hm.rows
  have HB0 := vl ((Below.refl w.heap.size w).alloc (Nat.le_refl _) (.cells #[.bool up, .slice A T.length c] 29))
  have HP := vl (hp.alloc (.cells #[.bool up, .slice A T.length c] 29))
  have HX0 := vl (TBox.new w up A T.length c 29)
  clear hp hm
  go_enter Try.func87, Try.ntmps87
  go_wp2
  cases hok : tOk T with
  | false =>
    have HE := vl (show lenT T = 0 by unfold lenT; rw [hok]; rfl)
    have HO := vl hok
    clear hok
    go_loopw [3, 4] (fun s i wr => s = .int .i64 0 ∧ i = .int .i64 0 ∧ Veil (Below w.heap.size w wr) ∧ Veil (TBox wr w.heap.size up A T.length c) ∧ Veil (Trn wr A T)) (fun _ _ _ => 1)
    case atStart => exact ⟨rfl, rfl, HB0, HX0, HP⟩
    case round =>
      obtain ⟨rfl, rfl, HB, HX, HP1⟩ := hrel
      obtain ⟨x0, x1⟩ := HX.out
      by_cases h0 : 0 < T.length
      · have h0' : (0 : Int) < (T.length : Int) := by omega
        go_wp2_with fail
        refine (tok_spec up A c T _ HM.out HP1.out).mono ?_
        rintro e w2 ⟨rfl, hb2⟩
        rw [HO.out]
        have HB2 := vl (HB.out.trans (hb2.mono HB.out.size))
        clear hb2
        go_wp2
        go_ret
        exact ⟨ret_int HE.out.symm, HB2.out⟩
      · have h0' : (T.length : Int) ≤ 0 := by omega
        go_wp2
        go_ret
        exact ⟨ret_int HE.out.symm, HB.out⟩
  | true =>
    have HI := vl (in_tOk hok)
    have HE := vl (show lenT T = fk (fun s r => s + lenR r) 0 T T.length by unfold lenT; rw [hok, if_pos rfl, fk_end]; rfl)
    have HO := vl hok
    clear hok
    go_loopw [3, 4] (fun s i wr => ∃ k : Nat, k ≤ T.length ∧ i = .int .i64 k ∧ s = .int .i64 (fk (fun s r => s + lenR r) 0 T k) ∧ Veil (Below w.heap.size w wr) ∧ Veil (TBox wr w.heap.size up A T.length c) ∧ Veil (Trn wr A T)) (fun _ i _ => T.length - (intOf i).toNat)
    case atStart => exact ⟨0, by omega, rfl, by rw [fk_zero], HB0, HX0, HP⟩
    case round =>
      obtain ⟨k, hk, rfl, rfl, HB, HX, HP1⟩ := hrel
      obtain ⟨x0, x1⟩ := HX.out
      by_cases hlt : k < T.length
      · obtain ⟨r, hr⟩ := get_of hlt
        obtain ⟨s0, s1⟩ := lenZ_bd HI.out k
        have hT := HI.out.rows.2
        have hrn := (HI.out.row hr).2.1
        have HR := vl (HI.out.row hr).2.2
        have HS := vl (fk_succ (f := fun s r => s + lenR r) (a := (0 : Int)) hr)
        have HK := vl hr
        clear hr
        generalize fk (fun s r => s + lenR r) 0 T k = s at s0 s1 HS ⊢
        have s2 : s ≤ 1200 := by omega
        clear s1
        go_wp2_with fail
        refine (tok_spec up A c T _ HM.out HP1.out).mono ?_
        rintro e w2 ⟨rfl, hb2⟩
        rw [HO.out]
        have HB2 := vl (HB.out.trans (hb2.mono HB.out.size))
        have HX2 := vl (HX.out.below hb2)
        have HP2 := vl (HP1.out.below hb2)
        clear hb2 x0 x1
        obtain ⟨x0, x1⟩ := HX2.out
        obtain ⟨g, o, rfl, hc⟩ := HP2.out (by omega)
        obtain ⟨Ai, ci, c0, HA⟩ := hc k r HK.out
        clear hc
        go_wp2
        go_loop [5, 6] (fun n i => ∃ m : Nat, m ≤ r.length ∧ i = .int .i64 m ∧ n = .int .i64 (fk (fun n b => max n b.l) 0 r m)) (fun _ i => r.length - (intOf i).toNat)
        case atStart => exact ⟨0, by omega, rfl, by rw [fk_zero]⟩
        case round =>
          obtain ⟨m, hm, rfl, rfl⟩ := hrel
          by_cases hml : m < r.length
          · obtain ⟨b, hb⟩ := get_of hml
            obtain ⟨g', o', rfl, hc'⟩ := HA.out (by omega)
            have y1 := (hc' m b hb).2.1
            have HF := vl (fk_succ (f := fun (n : Int) (b : Bt) => max n b.l) (a := (0 : Int)) hb)
            clear hc' hb
            generalize fk (fun n b => max n b.l) 0 r m = n at HF ⊢
            go_wp2
            all_goals
              go_round
              case rel => exact ⟨m + 1, by omega, by go_num, congrArg (Value.int .i64) (by rw [HF.out]; omega)⟩
              case measure => simp [intOf]; omega
          · obtain rfl : m = r.length := by omega
            obtain ⟨l0, l1⟩ := lenR_bd HR.out r.length
            have HG := vl (fk_end (fun (n : Int) (b : Bt) => max n b.l) 0 r)
            generalize fk (fun n b => max n b.l) 0 r r.length = n at l0 l1 HG ⊢
            go_wp2
            go_roundw
            case rel => exact ⟨k + 1, by omega, by go_num, congrArg (Value.int .i64) (by rw [HS.out, HG.out]; rfl), HB2, HX2, HP2⟩
            case measure => simp [intOf]; omega
      · obtain rfl : k = T.length := by omega
        go_wp2
        go_ret
        exact ⟨ret_int HE.out.symm, HB.out⟩
set_option maxHeartbeats 2000000 in
theorem wid_spec (up : Bool) (A : Option Addr) (c : Nat) (T : List (List Bt)) (w : World) (hm : Mod T) (hp : Trn w A T) :
    Calls Try.prog 88 #[.agg #[.bool up, .slice A T.length c]] w fun e w' => e = .returned (.int .i64 (widT T)) ∧ Below w.heap.size w w' := by
  have HM := vl hm
  have hn := hm.rows
  have HB0 := vl ((Below.refl w.heap.size w).alloc (Nat.le_refl _) (.cells #[.bool up, .slice A T.length c] 29))
  have HP := vl (hp.alloc (.cells #[.bool up, .slice A T.length c] 29))
  have HX0 := vl (TBox.new w up A T.length c 29)
  clear hp hm
  go_enter Try.func88, Try.ntmps88
  go_wp2
  cases hok : tOk T with
  | false =>
    have HE := vl (show widT T = 0 by unfold widT; rw [hok]; rfl)
    have HO := vl hok
    clear hok
    go_loopw [3, 4] (fun s i wr => s = .int .i64 0 ∧ i = .int .i64 0 ∧ Veil (Below w.heap.size w wr) ∧ Veil (TBox wr w.heap.size up A T.length c) ∧ Veil (Trn wr A T)) (fun _ _ _ => 1)
    case atStart => exact ⟨rfl, rfl, HB0, HX0, HP⟩
    case round =>
      obtain ⟨rfl, rfl, HB, HX, HP1⟩ := hrel
      obtain ⟨x0, x1⟩ := HX.out
      by_cases h0 : 0 < T.length
      · have h0' : (0 : Int) < (T.length : Int) := by omega
        go_wp2_with fail
        refine (tok_spec up A c T _ HM.out HP1.out).mono ?_
        rintro e w2 ⟨rfl, hb2⟩
        rw [HO.out]
        have HB2 := vl (HB.out.trans (hb2.mono HB.out.size))
        clear hb2
        go_wp2
        go_ret
        exact ⟨ret_int HE.out.symm, HB2.out⟩
      · have h0' : (T.length : Int) ≤ 0 := by omega
        go_wp2
        go_ret
        exact ⟨ret_int HE.out.symm, HB.out⟩
  | true =>
    have HI := vl (in_tOk hok)
    have HE := vl (show widT T = fk (fun s r => max s (widR r)) 0 T T.length by unfold widT; rw [hok, if_pos rfl, fk_end]; rfl)
    have HO := vl hok
    clear hok
    go_loopw [3, 4] (fun s i wr => ∃ k : Nat, k ≤ T.length ∧ i = .int .i64 k ∧ s = .int .i64 (fk (fun s r => max s (widR r)) 0 T k) ∧ Veil (Below w.heap.size w wr) ∧ Veil (TBox wr w.heap.size up A T.length c) ∧ Veil (Trn wr A T)) (fun _ i _ => T.length - (intOf i).toNat)
    case atStart => exact ⟨0, by omega, rfl, by rw [fk_zero], HB0, HX0, HP⟩
    case round =>
      obtain ⟨k, hk, rfl, rfl, HB, HX, HP1⟩ := hrel
      obtain ⟨x0, x1⟩ := HX.out
      by_cases hlt : k < T.length
      · obtain ⟨r, hr⟩ := get_of hlt
        obtain ⟨s0, s1⟩ := widZ_bd HI.out k
        have hT := HI.out.rows.2
        have hrn := (HI.out.row hr).2.1
        have HR := vl (HI.out.row hr).2.2
        have HS := vl (fk_succ (f := fun s r => max s (widR r)) (a := (0 : Int)) hr)
        have HK := vl hr
        clear hr
        generalize fk (fun s r => max s (widR r)) 0 T k = s at s0 s1 HS ⊢
        have s2 : s ≤ 180 := by omega
        clear s1
        go_wp2_with fail
        refine (tok_spec up A c T _ HM.out HP1.out).mono ?_
        rintro e w2 ⟨rfl, hb2⟩
        rw [HO.out]
        have HB2 := vl (HB.out.trans (hb2.mono HB.out.size))
        have HX2 := vl (HX.out.below hb2)
        have HP2 := vl (HP1.out.below hb2)
        clear hb2 x0 x1
        obtain ⟨x0, x1⟩ := HX2.out
        obtain ⟨g, o, rfl, hc⟩ := HP2.out (by omega)
        obtain ⟨Ai, ci, c0, HA⟩ := hc k r HK.out
        clear hc
        go_wp2
        go_loop [5, 6] (fun n i => ∃ m : Nat, m ≤ r.length ∧ i = .int .i64 m ∧ n = .int .i64 (fk (fun n b => n + b.w) 0 r m)) (fun _ i => r.length - (intOf i).toNat)
        case atStart => exact ⟨0, by omega, rfl, by rw [fk_zero]⟩
        case round =>
          obtain ⟨m, hm, rfl, rfl⟩ := hrel
          by_cases hml : m < r.length
          · obtain ⟨b, hb⟩ := get_of hml
            obtain ⟨g', o', rfl, hc'⟩ := HA.out (by omega)
            have y1 := (hc' m b hb).2.2.1
            obtain ⟨w0, w1⟩ := widR_bd HR.out m
            have hw0 := (HR.out b (mem_of hb)).w0; have hw1 := (HR.out b (mem_of hb)).w1
            have HF := vl (fk_succ (f := fun (n : Int) (b : Bt) => n + b.w) (a := (0 : Int)) hb)
            clear hc' hb
            generalize fk (fun n b => n + b.w) 0 r m = n at HF w0 w1 ⊢
            have w2 : n ≤ 180 := by omega
            clear w1
            go_wp2
            all_goals
              go_round
              case rel => exact ⟨m + 1, by omega, by go_num, congrArg (Value.int .i64) (by rw [HF.out])⟩
              case measure => simp [intOf]; omega
          · obtain rfl : m = r.length := by omega
            obtain ⟨l0, l1⟩ := widR_bd HR.out r.length
            have HG := vl (fk_end (fun (n : Int) (b : Bt) => n + b.w) 0 r)
            generalize fk (fun n b => n + b.w) 0 r r.length = n at l0 l1 HG ⊢
            have HG' := vl (show widR r = n from HG.out.symm)
            go_wp2
            all_goals
              go_roundw
              case rel => exact ⟨k + 1, by omega, by go_num, congrArg (Value.int .i64) (by rw [HS.out, HG'.out]; omega), HB2, HX2, HP2⟩
              case measure => simp [intOf]; omega
      · obtain rfl : k = T.length := by omega
        go_wp2
        go_ret
        exact ⟨ret_int HE.out.symm, HB.out⟩
end Go.Proofs.Ytngmpimoebggdaa.C1
