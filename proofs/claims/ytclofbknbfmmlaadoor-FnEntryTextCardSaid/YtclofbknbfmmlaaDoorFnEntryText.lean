/-
  For every input the Go function 'laws.FnEntryText' returns true, and each argument reads afterwards as it read before. No further condition.
-/
import Derived.Test.YtclofbknbfmmlaaDoorPaI
import Derived.Test.YtclofbknbfmmlaaDoorSmE
import Derived.Test.YtclofbknbfmmlaaDoorDrawS
import Derived.Test.YtclofbknbfmmlaaDoorLift
import Derived.Test.YtclofbknbfmmlaaDoorOpen
import Derived.Test.YtclofbknbfmmlaaDoorLaid
import Derived.ChangeMaps5
namespace Go.Proofs.YtclofbknbfmmlaaDoor.fnEntryText
open Go.Proofs.YtclofbknbfmmlaaDoor.C1 Go.Proofs.YtclofbknbfmmlaaDoor.Lift Go.Proofs.YtclofbknbfmmlaaDoor.Opened
open Go.ChangeShapes Go.WideShapes Go.ChangeAt Go.RowKit Go.ChangeMaps
set_option linter.unusedVariables false

theorem parE_more {b : En} (h : enOk b = true) : parE (joinT 5 (enZ b) ++ [32, 49]) = (zEn, false) := by
  refine enRes_no (Or.inr fun e => ?_)
  obtain ⟨b', hb', e2⟩ := valid_of (by simp) e
  have h1 := spl_num (enZ_pos hb')
  have h2 : joinT 5 (enZ b) ++ [32, 49] = Lib.join (numT 5 (enZ b) ++ [[49]]) [32] := by
    rw [join_snoc _ _ (fun e => by have := congrArg List.length e; rw [numT_len] at this; simp at this)]
    unfold joinT
    simp
  have hm : ∀ f ∈ numT 5 (enZ b) ++ [[49]], ∀ x ∈ f, x ≠ 32 := fun f hf x hx => by
    rcases List.mem_append.1 hf with h3 | h3
    · exact (dig_sp ((num_mem (enZ_pos h) h3).2 x hx).1).1
    · rw [List.mem_singleton.1 h3] at hx
      rw [List.mem_singleton.1 hx]; decide
  have h3 : spl [] (Lib.join (numT 5 (enZ b) ++ [[49]]) [32]) = numT 5 (enZ b) ++ [[49]] := by
    rw [num_cons, List.cons_append] at hm ⊢
    exact spl_join _ _ hm
  rw [e2, h2, h3] at h1
  have := congrArg List.length h1
  rw [List.length_append, numT_len, numT_len] at this
  simp at this
set_option maxRecDepth 100000 in
set_option maxHeartbeats 4000000 in
theorem walk (A : Option Addr) (n cap : Nat) (f : Nat → Int) (w : World) (hn : n ≤ 9223372036854775807) (hs : SrcB w A n f) (ht : Pow10 w) (ha : Ascii w) :
    Calls Tryd.prog 5 #[.slice A n cap] w fun e w' => e = .returned (.bool true) ∧ Below w.heap.size w w' := by
  by_cases hbig : 1048576 < n
  · go_enter Tryd.func5, Tryd.ntmps5
    go_wp2_with (go_at_call 9; refine (big_yes _ _ _ _ hbig).mono ?_; rintro e w' ⟨rfl, rfl⟩)
    go_ret
    exact ⟨rfl, Below.refl _ _⟩
  have hl : n ≤ 1048576 := by omega
  obtain ⟨i0, hi, hz0, hz1, hz2⟩ := info_parts infoE
  have HS := vl hs
  have HT := vl ht
  have HA := vl ha
  clear hs hbig ht ha
  go_enter Tryd.func5, Tryd.ntmps5
  go_wp2_with fail
  refine (big_no _ _ _ _ hl).mono ?_; rintro e w' ⟨rfl, rfl⟩
  go_wp2_with fail
  refine (drawbook _ _ _ f _ hl HS.out).mono ?_
  rintro e w1 ⟨⟨A1, c1, g1, L, rfl, hA, hL, hr, _, _⟩, hb1⟩
  have HALL := vl hA
  have HR := vl hr
  have HB1 := vl hb1
  have hs1 := hb1.size
  have HO0 := vl (World.ownsRow_made (size := 5) (e := 36) w1 #[] 0 (Nat.le_refl _) (by decide) rfl)
  clear hA hr hb1
  go_wp2
  go_loopw [4, 5] (fun v i wr => ∃ k : Nat, k ≤ L.length ∧ i = .int .i64 k ∧ Veil (Below w1.heap.size w1 wr) ∧ Veil (wr.ownsRow w1.heap.size 36 5 v k (enl (L.take k)))) (fun _ i _ => L.length - (intOf i).toNat)
  case atStart => exact ⟨0, by omega, rfl, vl ((Below.refl _ _).alloc (Nat.le_refl _) _), HO0⟩
  case round =>
    obtain ⟨k, hk, rfl, HB, HO⟩ := hrel
    by_cases hlt : k < L.length
    · obtain ⟨b, hb⟩ := get_of hlt
      have hE := HR.out.ens
      obtain ⟨g, o, rfl, hc⟩ := hE (by omega)
      obtain ⟨x0, x1, x2, x3, x4⟩ := (hc k b hb).below HB.out
      have hok := List.all_eq_true.1 HALL.out b (List.mem_of_getElem? hb)
      have HEN := vl (show enl (L.take (k + 1)) = enl (L.take k) ++ b.cells from by rw [List.take_add_one, hb]; simp [enl])
      have HJ := vl (fmtE_yes hok)
      have HP1 := vl (parV_of (parE_valid hok))
      have HP2 := vl (parV_of (parE_more hok))
      have hjl := joinT_le (n := 5) (F := enZ b) (enZ_in hok)
      have HBW := vl (HB1.out.trans (HB.out.mono HB1.out.size))
      clear hE hc hok hb
      go_wp2_with fail
      refine (fmte_impl b _ (HT.out.below HBW.out)).mono ?_
      rintro e w2 ⟨rfl, hb2⟩
      rw [HJ.out]
      have HB2 := vl (HB.out.trans (hb2.mono HB.out.size))
      have HO2 := vl (own_below HO.out hb2)
      have HW2 := vl (HBW.out.trans (hb2.mono HBW.out.size))
      have hsz : (⟨(joinT 5 (enZ b)).toArray⟩ : ByteArray).size ≤ 110 := by rw [str_size]; omega
      have HD1 := vl (show (⟨(joinT 5 (enZ b)).toArray⟩ : ByteArray).data.toList = joinT 5 (enZ b) from rfl)
      have HD2 := vl (show ((⟨(joinT 5 (enZ b)).toArray⟩ : ByteArray) ++ ⟨#[32, 49]⟩).data.toList = joinT 5 (enZ b) ++ [32, 49] from by simp)
      have hsz2 : ((⟨(joinT 5 (enZ b)).toArray⟩ : ByteArray) ++ ⟨#[32, 49]⟩).size ≤ 1048576 := by
        have : ((⟨(joinT 5 (enZ b)).toArray⟩ : ByteArray) ++ ⟨#[32, 49]⟩).size = (⟨(joinT 5 (enZ b)).toArray⟩ : ByteArray).size + 2 := by simp [ByteArray.size_append]; rfl
        omega
      clear hb2 x0 x1 x2 x3 x4 HB HO HBW hjl
      generalize (⟨(joinT 5 (enZ b)).toArray⟩ : ByteArray) = tb at hsz HD1 HD2 hsz2 ⊢
      go_wp2_with fail
      refine (pare_impl tb _ (by omega) (HT.out.below HW2.out) (HA.out.below HW2.out)).mono ?_
      rintro e w3 ⟨rfl, hb3⟩
      rw [HD1.out, HP1.out]
      have hba := (Below.refl w3.heap.size w3).alloc (Nat.le_refl _) (.cells #[.int .i64 b.f, .int .i64 b.t, .int .i64 b.a, .int .i64 b.m, .int .i64 b.y] 36)
      have HB3 := vl ((HB2.out.trans (hb3.mono HB2.out.size)).trans (hba.mono (Nat.le_trans HB2.out.size hb3.size)))
      have HO3 := vl (own_below (own_below HO2.out hb3) hba)
      have HW3 := vl ((HW2.out.trans (hb3.mono HW2.out.size)).trans (hba.mono (Nat.le_trans HW2.out.size hb3.size)))
      have HX3 := vl (BxE.new w3 b 36)
      clear hb3 hba HB2 HO2 HW2
      go_wp2_with fail
      refine (pare_impl _ _ hsz2 (HT.out.below HW3.out) (HA.out.below HW3.out)).mono ?_
      rintro e w4 ⟨rfl, hb4⟩
      rw [HD2.out, HP2.out]
      have hba := (Below.refl w4.heap.size w4).alloc (Nat.le_refl _) (.cells #[.int .i64 zEn.f, .int .i64 zEn.t, .int .i64 zEn.a, .int .i64 zEn.m, .int .i64 zEn.y] 36)
      have HB4 := vl ((HB3.out.trans (hb4.mono HB3.out.size)).trans (hba.mono (Nat.le_trans HB3.out.size hb4.size)))
      have HO4 := vl (own_below (own_below HO3.out hb4) hba)
      have HX4 := vl ((HX3.out.below hb4).below hba)
      clear hb4 hba HB3 HO3 HW3 HX3
      obtain ⟨x0, x1, x2, x3, x4⟩ := HX4.out
      have hs4 := HB4.out.size
      rw [World.size_alloc] at hs4
      go_wp2_with (at_builtin; refine wpList_append_own _ rfl _ _ 32 rfl w1.heap.size 36 i0 _ 5 40 Tryd.underlying32 hi hz0 hz1 hz2 rfl (by decide) _ _ _ rfl (HO4.out.alloc _) ⟨w4.heap.size + 1, 0, none⟩ 1 1 b.cells rfl rfl ?c1 ?c2 ?c3 ?c4 ?c5 ?_)
      case c1 => exact newsE (w4.alloc (.cells #[.int .i64 zEn.f, .int .i64 zEn.t, .int .i64 zEn.a, .int .i64 zEn.m, .int .i64 zEn.y] 36)) (w4.heap.size + 1) b 36 (by simp)
      case c2 => exact enOne b
      case c3 => unfold maxLen; omega
      case c4 => omega
      case c5 => simp; omega
      intro v' w6 hown6 hgrow _
      have HOk := vl (fun q hq => (HO4.out.lt q hq).1)
      have HB6 := vl (Below.grown (HB4.out.alloc (by rw [World.size_alloc]; omega) (.cells #[.int .i64 b.f, .int .i64 b.t, .int .i64 b.a, .int .i64 b.m, .int .i64 b.y] 36)) hgrow (by simp; omega) HOk.out)
      have HO6 := vl (show w6.ownsRow w1.heap.size 36 5 v' (k + 1) (enl (L.take (k + 1))) from by rw [HEN.out]; exact hown6)
      clear hown6 hgrow HO4 HB4 HX4 x0 x1 x2 x3 x4
      go_wp2
      go_roundw
      case rel => exact ⟨k + 1, by omega, by go_num, HB6, HO6⟩
      case measure => simp [intOf]; omega
    · obtain rfl : k = L.length := by omega
      rw [List.take_length] at HO
      obtain ⟨A', c', g', rfl, _, h1, _, _, _⟩ := rowE_of_own HO.out HB.out.size
      have HE1 := vl h1.ens
      have HE2 := vl (HR.out.below HB.out).ens
      have HBW := vl (HB1.out.trans (HB.out.mono HB1.out.size))
      clear h1 HO HB
      go_wp2_with fail
      refine (sames _ _ _ _ L _ (by omega) HE1.out HE2.out).mono ?_
      rintro e w2 ⟨rfl, hb2⟩
      have HB2 := vl (HBW.out.trans (hb2.mono HBW.out.size))
      clear hb2
      go_wp2
      go_ret
      exact ⟨rfl, HB2.out⟩

theorem parOk : Tryd.f5.params.toList.all (fun t => Tryd.prog.readableRec t && decide (t < Tryd.prog.types.size)) = true := by kernel_rfl
theorem laid_met (os : Os) : laidMetH Tryd.prog Rows.fnEntryTextRow.laid ((World.doorLaid Tryd.prog 400 os).forCall (fun _ _ => 0) ⟨#[], #[.slice none 0 0], []⟩).memory :=
  laidMetH_of_parts3 (fuel := 8) (laidMet_of_run' 8 (by kernel_rfl) (by kernel_rfl)) (by kernel_rfl) (by kernel_rfl)
theorem reads (os : Os) {H : Type} (enc : TypeId × Value → H) : ∃ places, DataW.whole enc Tryd.prog ((World.doorLaid Tryd.prog 400 os).forCall (fun _ _ => 0) ⟨#[], #[.slice none 0 0], []⟩).memory Tryd.f5.params.toList Rows.fnEntryTextSpec.vars false #[.slice none 0 0].toList 8 = some ([.nil], [], places) :=
  ⟨[], by kernel_rfl⟩
set_option maxRecDepth 100000 in
theorem lifted (os : Os) (started : os.Started) (H : Type) (enc : TypeId × Value → H) (F : Stop.Interp) :
    ReturnsInHanded {} Tryd.checked os 5 .any ((OpenSpec.ofChange Rows.fnEntryTextSpec).preRow enc Tryd.prog Tryd.f5 Rows.fnEntryTextRow.domain false Rows.fnEntryTextRow.laid) (((OpenSpec.ofChange Rows.fnEntryTextSpec).at F).post enc Tryd.prog Tryd.f5 false true false false) := by
  obtain ⟨places, hx⟩ := reads os enc
  refine law_laid (C := Tryd.checked) own started (by kernel_rfl) Tryd.func5 laid (fun t ht => by
      have h := List.all_eq_true.1 parOk t ht
      rw [Bool.and_eq_true] at h
      exact ⟨h.1, of_decide_eq_true h.2⟩) rfl Tryd.underlying4 rfl
    (fun xs hx => by
      rw [show Tryd.f5.params.toList.length = 1 from by rw [Tryd.params5]; rfl] at hx
      match xs, hx with
      | [d0], _ => rfl)
    (witness_row_atRef (enc := enc) (C := Tryd.checked) false (World.doorLaid Tryd.prog 400 os) #[.slice none 0 0] rfl (by kernel_rfl) (by kernel_rfl) (by kernel_rfl)
      (OpenSpec.preRow_of_cond 8 hx (by kernel_rfl) (fun k hk => by cases hk) (by kernel_rfl) (laid_met os))) ?_
  intro W base args ds p hval0 hA0 _ hL
  rw [MakeChecks.laidMetH_plain _ _ _ (by kernel_rfl)] at hL
  have F0 := pow10 hL (by repeat (first | exact List.Mem.head _ | apply List.Mem.tail))
  have F1 := ascii hL (by repeat (first | exact List.Mem.head _ | apply List.Mem.tail))
  have hval : ∀ (j : Nat) t v, Tryd.f5.params[j]? = some t → args[j]? = some v → Value.okWide Tryd.prog W .any base t v := hval0
  have hA : DataW.TrodAll enc Tryd.prog W 0 (fun _ => true) true Tryd.f5.params.toList args.toList ds p := hA0
  clear hA0 hval0
  rw [Tryd.params5] at hA hval
  obtain ⟨v0, vs0, d0, ds0, p0, q0, hargs, rfl, rfl, h0, r0⟩ := trodAll_cons hA
  obtain ⟨rfl, rfl, rfl⟩ := trodAll_nil r0
  obtain rfl : args = #[v0] := by cases args; simp_all
  obtain ⟨A0, n0, c0, f0, rfl, x0, y0⟩ := slice_bytes Tryd.underlying22 (by kernel_rfl) Tryd.underlying5 (hval 0 22 _ rfl rfl) h0
  exact walk A0 n0 c0 f0 W x0 y0 F0 F1
theorem said : Rows.FnEntryTextSaid :=
  OpenClaim.holds_of_cond 5 Tryd.f5 rfl rfl rfl rfl rfl rfl rfl ⟨rfl, rfl, rfl, rfl, rfl⟩ rfl rfl rfl rfl rfl (by kernel_rfl) Tryd.func5 (by kernel_rfl)
    (of_decide_eq_true (by kernel_rfl)) (by unfold Func.isWrapper; first | (rw [if_pos (by decide +kernel)]; kernel_rfl) | (rw [if_neg (by decide +kernel)]; exact ⟨rfl, rfl⟩))
    (fun os started H enc _ F => by rw [OpenClaim.pre_eq_preRow]; exact lifted os started H enc F)
theorem plain (f : FuncId) (fn : Func) (hf : Tryd.pinned.checked.prog.funcNamed Rows.fnEntryTextRow.func = some f) (hfn : Tryd.pinned.checked.prog.funcs[f]? = some fn) :
    true = Tryd.pinned.checked.prog.looks [] ∧ ∀ (j : Nat) t, fn.params[j]? = some t → Tryd.pinned.checked.prog.wantsStandIn t = false := by
  obtain rfl : f = 5 := Option.some.inj ((show Tryd.prog.funcNamed Rows.fnEntryTextRow.func = some 5 by kernel_rfl).symm.trans hf) |>.symm
  obtain rfl : fn = Tryd.f5 := (Option.some.inj (Tryd.func5.symm.trans hfn)).symm
  refine ⟨by kernel_rfl, fun j t ht => ?_⟩
  have hw : Tryd.f5.params.toList.all (fun t => Tryd.prog.wantsStandIn t == false) = true := by kernel_rfl
  have := List.all_eq_true.1 hw t (by simpa using Array.mem_of_getElem? ht)
  exact (show Tryd.prog.wantsStandIn t = false by simpa using this)
/-- The statement: the tied card. -/
theorem proved : Rows.FnEntryTextCardSaid :=
  Claim7.holds_tied_plain_at .later [] _ _ _ _ said (fun _ h => by cases h) (by kernel_rfl) (fun _ h => by cases h) fnEntryText_row_tie rfl ⟨rfl, rfl⟩ (by kernel_rfl) rfl plain (by kernel_rfl)
#print axioms proved
end Go.Proofs.YtclofbknbfmmlaaDoor.fnEntryText
