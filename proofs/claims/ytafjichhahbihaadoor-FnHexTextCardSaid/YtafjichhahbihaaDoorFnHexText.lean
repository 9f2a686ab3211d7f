/-
  For every input the Go function 'laws.FnHexText' returns true, and each argument reads afterwards as it read before. No further condition.
-/
import Derived.Test.YtafjichhahbihaaDoorDec
import Derived.Test.YtafjichhahbihaaDoorFmt
import Derived.Test.YtafjichhahbihaaDoorDrawS
import Derived.Test.YtafjichhahbihaaDoorLift
import Derived.Test.YtafjichhahbihaaDoorOpen
import Derived.Test.YtafjichhahbihaaDoorLaid
import Derived.ChangeMaps5
namespace Go.Proofs.YtafjichhahbihaaDoor.fnHexText
open Go.Proofs.YtafjichhahbihaaDoor.C1 Go.Proofs.YtafjichhahbihaaDoor.Lift Go.Proofs.YtafjichhahbihaaDoor.Opened
open Go.ChangeShapes Go.WideShapes Go.ChangeAt Go.RowKit Go.ChangeMaps
set_option linter.unusedVariables false

theorem hexL_getD (l : List UInt8) : ∀ i, i < l.length → (hexL l).getD (2 * i) 0 = figB ((l.getD i 0).toNat / 16) ∧ (hexL l).getD (2 * i + 1) 0 = figB ((l.getD i 0).toNat % 16) := by
  induction l with
  | nil => intro i h; simp at h
  | cons b l ih =>
    intro i h
    have e : hexL (b :: l) = figB (b.toNat / 16) :: figB (b.toNat % 16) :: hexL l := by simp [hexL]
    rw [e]
    cases i with
    | zero => exact ⟨rfl, rfl⟩
    | succ i =>
      have := ih i (by simpa using h)
      rw [show 2 * (i + 1) = 2 * i + 1 + 1 by omega]
      exact this
theorem valZ_figZ (x : Int) (h0 : 0 ≤ x) (h1 : x < 16) : valZ (figZ x) = x := by
  unfold valZ figZ
  by_cases h : x < 10
  · rw [if_pos h, if_pos (by omega)]; omega
  · rw [if_neg h, if_neg (by omega), if_pos (by omega)]; omega
theorem hex_at (l : List UInt8) (i : Nat) (h : i < l.length) : valZ (bz ⟨(hexL l).toArray⟩ (2 * i)) = ((l.getD i 0).toNat / 16 : Nat) ∧ valZ (bz ⟨(hexL l).toArray⟩ (2 * i + 1)) = ((l.getD i 0).toNat % 16 : Nat) := by
  obtain ⟨h1, h2⟩ := hexL_getD l i h
  have hb := (l.getD i 0).toNat_lt
  have b1 : bz ⟨(hexL l).toArray⟩ (2 * i) = figZ ((l.getD i 0).toNat / 16 : Nat) := by
    unfold bz
    rw [show (⟨(hexL l).toArray⟩ : ByteArray).data.toList = hexL l from rfl, h1, figB_toNat (by omega)]
  have b2 : bz ⟨(hexL l).toArray⟩ (2 * i + 1) = figZ ((l.getD i 0).toNat % 16 : Nat) := by
    unfold bz
    rw [show (⟨(hexL l).toArray⟩ : ByteArray).data.toList = hexL l from rfl, h2, figB_toNat (by omega)]
  exact ⟨by rw [b1, valZ_figZ _ (by omega) (by omega)], by rw [b2, valZ_figZ _ (by omega) (by omega)]⟩
theorem hex_size (l : List UInt8) : (⟨(hexL l).toArray⟩ : ByteArray).size = 2 * l.length := by
  show (hexL l).toArray.size = _
  rw [List.size_toArray, hexL_len]
theorem hex_upto (l : List UInt8) : Upto ⟨(hexL l).toArray⟩ l.length := by
  refine ⟨fun i hi => ?_, Or.inl (hex_size l).symm⟩
  obtain ⟨h1, h2⟩ := hex_at l i hi
  exact ⟨by rw [h1]; omega, by rw [h2]; omega⟩
theorem hex_dec (l : List UInt8) : decL ⟨(hexL l).toArray⟩ l.length = l := by
  apply List.ext_getElem?
  intro i
  unfold decL
  rw [List.getElem?_map]
  by_cases h2 : i < l.length
  · obtain ⟨a, b⟩ := hex_at l i h2
    have e : l.getD i 0 = l[i] := by simp [List.getD_eq_getElem?_getD, h2]
    rw [e] at a b
    rw [List.getElem?_range h2, List.getElem?_eq_getElem h2, Option.map_some]
    apply congrArg some
    unfold decB
    rw [a, b]
    have hb := l[i].toNat_lt
    apply UInt8.toNat_inj.1
    rw [UInt8.toNat_ofNat']
    omega
  · rw [List.getElem?_eq_none (by simpa using h2), List.getElem?_eq_none (by simpa using h2)]
    rfl
theorem hex_res (s : ByteArray) : decRes ⟨(hexL s.data.toList).toArray⟩ s.data.toList.length = .tuple #[.string s, .bool true] := by
  unfold decRes
  rw [if_pos (hex_size _).symm, hex_dec]
theorem walk (A : Option Addr) (n cap : Nat) (f : Nat → Int) (w : World) (hn : n ≤ 9223372036854775807) (hs : SrcB w A n f) (hp : Pow10 w) :
    Calls Tryd.prog 3 #[.slice A n cap] w fun e w' => e = .returned (.bool true) ∧ Below w.heap.size w w' := by
  by_cases hbig : 1048576 < n
  · go_enter Tryd.func3, Tryd.ntmps3
    go_wp2_with (go_at_call 9; refine (big_yes _ _ _ _ hbig).mono ?_; rintro e w' ⟨rfl, rfl⟩)
    go_ret
    exact ⟨rfl, Below.refl _ _⟩
  have hl : n ≤ 1048576 := by omega
  have HS := Lib.hid hs
  have HP := Lib.hid hp
  clear hs hbig hp
  go_enter Tryd.func3, Tryd.ntmps3
  go_wp2_with fail
  refine (big_no _ _ _ _ hl).mono ?_; rintro e w' ⟨rfl, rfl⟩
  go_wp2_with fail
  refine (encHex_draw _ _ _ f _ hl HS.out).mono ?_
  rintro e w1 ⟨⟨s, hsz, rfl⟩, hb1⟩
  have HB1 := Lib.hid hb1
  clear hb1
  by_cases hlong : 20000 < s.size
  · have H10 := Lib.hid (show Lib.itoa 10 = [49, 48] by decide +kernel)
    go_wp2_with fail
    refine (hex_impl_no s _ hlong (by omega)).mono ?_
    rintro e w2 ⟨rfl, rfl⟩
    go_wp2_with fail
    refine (fmt_impl 10 _ (by omega) (by omega) (HP.out.below HB1.out)).mono ?_
    rintro e w3 ⟨rfl, hb3⟩
    rw [H10.out]
    have HB3 := Lib.hid (HB1.out.trans (hb3.mono HB1.out.size))
    clear hb3
    go_wp2
    go_ret
    exact ⟨rfl, HB3.out⟩
  · have hsh : s.size ≤ 20000 := by omega
    have hz := hex_size s.data.toList
    have hz1 : s.data.toList.length = s.size := by simp
    have HZ := Lib.hid hz
    have HZ1 := Lib.hid hz1
    have HR := Lib.hid (hex_res s)
    clear hlong hz hz1
    go_wp2_with fail
    refine (hex_impl s _ hsh).mono ?_
    rintro e w2 ⟨rfl, hb2⟩
    have HB2 := Lib.hid (HB1.out.trans (hb2.mono HB1.out.size))
    clear hb2
    go_wp2_with fail
    refine (dec_impl _ s.data.toList.length _ (by have := HZ.out; have := HZ1.out; omega) (by have := HZ.out; omega) (hex_upto _)).mono ?_
    rintro e w3 ⟨rfl, hb3⟩
    rw [HR.out]
    have HB3 := Lib.hid (HB2.out.trans (hb3.mono HB2.out.size))
    clear hb3
    have hlen : (hexL s.data.toList).length = 2 * s.size := by rw [hexL_len, HZ1.out]
    go_wp2
    go_ret
    exact ⟨rfl, HB3.out⟩

theorem own : ownKnob Tryd.prog.godebug = none := by kernel_rfl
theorem laid : laidOutB Tryd.prog = true := by kernel_rfl
theorem parOk : Tryd.f3.params.toList.all (fun t => Tryd.prog.readableRec t && decide (t < Tryd.prog.types.size)) = true := by kernel_rfl
theorem laid_met (os : Os) : laidMetH Tryd.prog Rows.fnHexTextRow.laid ((World.doorLaid Tryd.prog 400 os).forCall (fun _ _ => 0) ⟨#[], #[.slice none 0 0], []⟩).memory :=
  laidMetH_of_parts3 (fuel := 8) (laidMet_of_run' 8 (by kernel_rfl) (by kernel_rfl)) (by kernel_rfl) (by kernel_rfl)
theorem reads (os : Os) {H : Type} (enc : TypeId × Value → H) : ∃ places, DataW.whole enc Tryd.prog ((World.doorLaid Tryd.prog 400 os).forCall (fun _ _ => 0) ⟨#[], #[.slice none 0 0], []⟩).memory Tryd.f3.params.toList Rows.fnHexTextSpec.vars false #[.slice none 0 0].toList 8 = some ([.nil], [], places) :=
  ⟨[], by kernel_rfl⟩
set_option maxRecDepth 100000 in
theorem lifted (os : Os) (started : os.Started) (H : Type) (enc : TypeId × Value → H) (F : Stop.Interp) :
    ReturnsInHanded {} Tryd.checked os 3 .any ((OpenSpec.ofChange Rows.fnHexTextSpec).preRow enc Tryd.prog Tryd.f3 Rows.fnHexTextRow.domain false Rows.fnHexTextRow.laid) (((OpenSpec.ofChange Rows.fnHexTextSpec).at F).post enc Tryd.prog Tryd.f3 false true false false) := by
  obtain ⟨places, hx⟩ := reads os enc
  refine law_laid (C := Tryd.checked) own started (by kernel_rfl) Tryd.func3 laid (fun t ht => by
      have h := List.all_eq_true.1 parOk t ht
      rw [Bool.and_eq_true] at h
      exact ⟨h.1, of_decide_eq_true h.2⟩) rfl Tryd.underlying4 rfl
    (fun xs hx => by
      rw [show Tryd.f3.params.toList.length = 1 from by rw [Tryd.params3]; rfl] at hx
      match xs, hx with
      | [d0], _ => rfl)
    (witness_row_atRef (enc := enc) (C := Tryd.checked) false (World.doorLaid Tryd.prog 400 os) #[.slice none 0 0] rfl (by kernel_rfl) (by kernel_rfl) (by kernel_rfl)
      (OpenSpec.preRow_of_cond 8 hx (by kernel_rfl) (fun k hk => by cases hk) (by kernel_rfl) (laid_met os))) ?_
  intro W base args ds p hval0 hA0 _ hL
  rw [MakeChecks.laidMetH_plain _ _ _ (by kernel_rfl)] at hL
  have F0 := pow10 hL (by repeat (first | exact List.Mem.head _ | apply List.Mem.tail))
  have hval : ∀ (j : Nat) t v, Tryd.f3.params[j]? = some t → args[j]? = some v → Value.okWide Tryd.prog W .any base t v := hval0
  have hA : DataW.TrodAll enc Tryd.prog W 0 (fun _ => true) true Tryd.f3.params.toList args.toList ds p := hA0
  clear hA0 hval0
  rw [Tryd.params3] at hA hval
  obtain ⟨v0, vs0, d0, ds0, p0, q0, hargs, rfl, rfl, h0, r0⟩ := trodAll_cons hA
  obtain ⟨rfl, rfl, rfl⟩ := trodAll_nil r0
  obtain rfl : args = #[v0] := by cases args; simp_all
  obtain ⟨A0, n0, c0, f0, rfl, x0, y0⟩ := slice_bytes Tryd.underlying22 (by kernel_rfl) Tryd.underlying5 (hval 0 22 _ rfl rfl) h0
  exact walk A0 n0 c0 f0 W x0 y0 F0
theorem said : Rows.FnHexTextSaid :=
  OpenClaim.holds_of_cond 3 Tryd.f3 rfl rfl rfl rfl rfl rfl rfl ⟨rfl, rfl, rfl, rfl, rfl⟩ rfl rfl rfl rfl rfl (by kernel_rfl) Tryd.func3 (by kernel_rfl)
    (of_decide_eq_true (by kernel_rfl)) (by unfold Func.isWrapper; first | (rw [if_pos (by decide +kernel)]; kernel_rfl) | (rw [if_neg (by decide +kernel)]; exact ⟨rfl, rfl⟩))
    (fun os started H enc _ F => by rw [OpenClaim.pre_eq_preRow]; exact lifted os started H enc F)
theorem plain (f : FuncId) (fn : Func) (hf : Tryd.pinned.checked.prog.funcNamed Rows.fnHexTextRow.func = some f) (hfn : Tryd.pinned.checked.prog.funcs[f]? = some fn) :
    false = Tryd.pinned.checked.prog.looks [] ∧ ∀ (j : Nat) t, fn.params[j]? = some t → Tryd.pinned.checked.prog.wantsStandIn t = false := by
  obtain rfl : f = 3 := Option.some.inj ((show Tryd.prog.funcNamed Rows.fnHexTextRow.func = some 3 by kernel_rfl).symm.trans hf) |>.symm
  obtain rfl : fn = Tryd.f3 := (Option.some.inj (Tryd.func3.symm.trans hfn)).symm
  refine ⟨by kernel_rfl, fun j t ht => ?_⟩
  have hw : Tryd.f3.params.toList.all (fun t => Tryd.prog.wantsStandIn t == false) = true := by kernel_rfl
  have := List.all_eq_true.1 hw t (by simpa using Array.mem_of_getElem? ht)
  exact (show Tryd.prog.wantsStandIn t = false by simpa using this)
/-- The statement: the tied card. -/
theorem proved : Rows.FnHexTextCardSaid :=
  Claim7.holds_tied_plain_at .later [] _ _ _ _ said (fun _ h => by cases h) (by kernel_rfl) (fun _ h => by cases h) fnHexText_row_tie rfl ⟨rfl, rfl⟩ (by kernel_rfl) rfl plain (by kernel_rfl)
#print axioms proved
end Go.Proofs.YtafjichhahbihaaDoor.fnHexText
