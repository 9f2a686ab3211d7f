/-
  For every input the Go function 'laws.FnFieldsAgain' returns true, and each argument reads afterwards as it read before. No further condition.
-/
import Derived.Test.YtafjichhahbihaaDoorSplit
import Derived.Test.YtafjichhahbihaaDoorDrawS
import Derived.Test.YtafjichhahbihaaDoorLift
import Derived.Test.YtafjichhahbihaaDoorOpen
import Derived.Test.YtafjichhahbihaaDoorLaid
import Derived.ChangeMaps5
namespace Go.Proofs.YtafjichhahbihaaDoor.fnFieldsAgain
open Go.Proofs.YtafjichhahbihaaDoor.C1 Go.Proofs.YtafjichhahbihaaDoor.Lift Go.Proofs.YtafjichhahbihaaDoor.Opened
open Go.ChangeShapes Go.WideShapes Go.ChangeAt Go.RowKit Go.ChangeMaps
set_option linter.unusedVariables false

/-! The fields of the fields, joined by spaces, are the fields. -/
def Good (f : List UInt8) : Prop := f ≠ [] ∧ ∀ b ∈ f, Lib.isSp b = false
theorem go_in (l : List UInt8) : ∀ cur, (∀ b ∈ cur, Lib.isSp b = false) → ∀ f ∈ Lib.fieldsGo cur l, Good f ∧ (∀ b ∈ f, b ∈ cur ∨ b ∈ l) ∧ f.length ≤ cur.length + l.length := by
  induction l with
  | nil =>
    intro cur hc f hf
    cases cur with
    | nil => simp [Lib.fieldsGo] at hf
    | cons x r =>
      have e : f = x :: r := by simpa [Lib.fieldsGo] using hf
      subst e
      exact ⟨⟨by simp, hc⟩, fun b hb => Or.inl hb, by simp⟩
  | cons x l ih =>
    intro cur hc f hf
    cases hx : Lib.isSp x with
    | true =>
      cases cur with
      | nil =>
        rw [Lib.fieldsGo_sp x l hx] at hf
        obtain ⟨h1, h2, h3⟩ := ih [] (fun b hb => by simp at hb) f hf
        exact ⟨h1, fun b hb => Or.inr (by rcases h2 b hb with h | h; · simp at h
                                          · exact List.mem_cons_of_mem _ h), by simp at *; omega⟩
      | cons y r =>
        rw [Lib.fieldsGo_end (y :: r) x l hx (by simp)] at hf
        rcases List.mem_cons.1 hf with e | h
        · subst e
          exact ⟨⟨by simp, hc⟩, fun b hb => Or.inl hb, by simp⟩
        · obtain ⟨h1, h2, h3⟩ := ih [] (fun b hb => by simp at hb) f h
          exact ⟨h1, fun b hb => Or.inr (by rcases h2 b hb with h | h; · simp at h
                                            · exact List.mem_cons_of_mem _ h), by simp at *; omega⟩
    | false =>
      rw [Lib.fieldsGo_more cur x l hx] at hf
      obtain ⟨h1, h2, h3⟩ := ih (cur ++ [x]) (fun b hb => by
        rcases List.mem_append.1 hb with h | h
        · exact hc b h
        · rw [List.mem_singleton.1 h]; exact hx) f hf
      refine ⟨h1, fun b hb => ?_, by simp at *; omega⟩
      rcases h2 b hb with h | h
      · rcases List.mem_append.1 h with h | h
        · exact Or.inl h
        · exact Or.inr (by rw [List.mem_singleton.1 h]; exact List.mem_cons_self ..)
      · exact Or.inr (List.mem_cons_of_mem _ h)
def joinSp (fs : List (List UInt8)) : List UInt8 := fs.flatMap fun f => f ++ [32]
theorem go_word (f r : List UInt8) : ∀ cur, (∀ b ∈ f, Lib.isSp b = false) → cur ++ f ≠ [] → Lib.fieldsGo cur (f ++ 32 :: r) = (cur ++ f) :: Lib.fieldsGo [] r := by
  induction f with
  | nil =>
    intro cur _ hne
    rw [List.append_nil] at *
    exact Lib.fieldsGo_end cur 32 r rfl hne
  | cons x f ih =>
    intro cur hf hne
    rw [List.cons_append, Lib.fieldsGo_more cur x _ (hf x (List.mem_cons_self ..)), ih (cur ++ [x]) (fun b hb => hf b (List.mem_cons_of_mem _ hb)) (by simp)]
    simp
theorem go_join (fs : List (List UInt8)) (h : ∀ f ∈ fs, Good f) : Lib.fieldsGo [] (joinSp fs) = fs := by
  induction fs with
  | nil => rfl
  | cons f fs ih =>
    have e : joinSp (f :: fs) = f ++ 32 :: joinSp fs := by simp [joinSp]
    obtain ⟨h1, h2⟩ := h f (List.mem_cons_self ..)
    rw [e, go_word f _ [] h2 (by simpa using h1), ih (fun g hg => h g (List.mem_cons_of_mem _ hg))]
    rfl
theorem join_snoc (fs : List (List UInt8)) (k : Nat) (h : k < fs.length) : joinSp (fs.take (k + 1)) = joinSp (fs.take k) ++ fs.getD k [] ++ [32] := by
  have e : fs.getD k [] = fs[k] := by simp [List.getD_eq_getElem?_getD, h]
  rw [List.take_succ_eq_append_getElem h, e]
  unfold joinSp
  rw [List.flatMap_append, List.flatMap_cons, List.flatMap_nil, List.append_nil, List.append_assoc]
theorem join_mem (fs : List (List UInt8)) (b : UInt8) (hb : b ∈ joinSp fs) : b = 32 ∨ ∃ f ∈ fs, b ∈ f := by
  unfold joinSp at hb
  obtain ⟨f, hf, h⟩ := List.mem_flatMap.1 hb
  rcases List.mem_append.1 h with h | h
  · exact Or.inr ⟨f, hf, h⟩
  · exact Or.inl (by simpa using h)
theorem join_len (fs : List (List UInt8)) (m : Nat) (h : ∀ f ∈ fs, f.length ≤ m) : (joinSp fs).length ≤ fs.length * (m + 1) := by
  induction fs with
  | nil => simp [joinSp]
  | cons f fs ih =>
    have e : joinSp (f :: fs) = f ++ 32 :: joinSp fs := by simp [joinSp]
    have h1 := h f (List.mem_cons_self ..)
    have h2 := ih (fun g hg => h g (List.mem_cons_of_mem _ hg))
    rw [e, List.length_append, List.length_cons, List.length_cons, Nat.add_mul]
    omega
theorem again_ok {s : ByteArray} (h : SplitOk s) (hl : (⟨(joinSp (outL s)).toArray⟩ : ByteArray).size ≤ 600) : okS ⟨(joinSp (outL s)).toArray⟩ = true ∧ outL ⟨(joinSp (outL s)).toArray⟩ = outL s := by
  have e := (ok_yes h).2
  have hg := go_in s.data.toList [] (fun b hb => by simp at hb)
  have hf : Lib.fields (⟨(joinSp (outL s)).toArray⟩ : ByteArray).data.toList = outL s := by
    show Lib.fieldsGo [] (joinSp (outL s)) = outL s
    exact go_join _ (fun f hf => (hg f (by rw [e] at hf; exact hf)).1)
  have hok : SplitOk ⟨(joinSp (outL s)).toArray⟩ := by
    refine ⟨hl, fun i hi _ => ?_, by rw [hf, e]; exact h.2.2⟩
    have hi' : i < (joinSp (outL s)).length := by
      have : (⟨(joinSp (outL s)).toArray⟩ : ByteArray).size = (joinSp (outL s)).length := by show (joinSp (outL s)).toArray.size = _; simp
      omega
    have eb : bz ⟨(joinSp (outL s)).toArray⟩ i = (((joinSp (outL s))[i]'hi').toNat : Int) := by
      unfold bz
      show (((joinSp (outL s)).getD i 0).toNat : Int) = _
      simp [List.getD_eq_getElem?_getD, hi']
    rw [eb]
    rcases join_mem _ _ (List.getElem_mem hi') with h1 | ⟨f, hf1, h1⟩
    · rw [h1]; decide
    · rw [e] at hf1
      rcases (hg f hf1).2.1 _ h1 with h2 | h2
      · simp at h2
      · obtain ⟨j, hj, ej⟩ := List.getElem_of_mem h2
        have hj' : j < s.size := by simpa using hj
        have h3 := h.2.1 j hj' hj'
        have h4 := bz_at s j hj'
        have h5 : s[j] = s.data.toList[j] := rfl
        rw [h5, ej] at h4
        omega
  exact ⟨(ok_yes hok).1, (ok_yes hok).2.trans hf⟩
theorem out_bd (s : ByteArray) (k : Nat) : (outL s).length ≤ 24 ∧ ∀ f ∈ outL s, f.length ≤ 600 := by
  by_cases h : SplitOk s
  · have e := (ok_yes h).2
    rw [e]
    refine ⟨h.2.2, fun f hf => ?_⟩
    have := (go_in s.data.toList [] (fun b hb => by simp at hb) f hf).2.2
    have h1 := h.1
    have h2 : s.data.toList.length = s.size := by simp
    simp at this
    omega
  · rw [(ok_no h).2]; simp
theorem cat3 (a b : List UInt8) : (⟨(a ++ b ++ [32]).toArray⟩ : ByteArray) = ⟨a.toArray⟩ ++ ⟨b.toArray⟩ ++ ⟨#[32]⟩ := by
  apply ByteArray.ext
  rw [ByteArray.data_append, ByteArray.data_append]
  simp
set_option maxHeartbeats 2000000 in
theorem walk (A : Option Addr) (n cap : Nat) (f : Nat → Int) (w : World) (hn : n ≤ 9223372036854775807) (hs : SrcB w A n f) (hp : Pow10 w) (ht : Ascii w) :
    Calls Tryd.prog 5 #[.slice A n cap] w fun e w' => e = .returned (.bool true) ∧ Below w.heap.size w w' := by
  by_cases hbig : 1048576 < n
  · go_enter Tryd.func5, Tryd.ntmps5
    go_wp2_with (go_at_call 9; refine (big_yes _ _ _ _ hbig).mono ?_; rintro e w' ⟨rfl, rfl⟩)
    go_ret
    exact ⟨rfl, Below.refl _ _⟩
  have hl : n ≤ 1048576 := by omega
  have HS := Lib.hid hs
  have HP := Lib.hid hp
  have HT := Lib.hid ht
  clear hs hbig hp ht
  go_enter Tryd.func5, Tryd.ntmps5
  go_wp2_with fail
  refine (big_no _ _ _ _ hl).mono ?_; rintro e w' ⟨rfl, rfl⟩
  go_wp2_with fail
  refine (splitF_draw _ _ _ f _ hl HS.out).mono ?_
  rintro e w1 ⟨⟨s, hsz, rfl⟩, hb1⟩
  have HB1 := Lib.hid hb1
  clear hb1
  have hn24 := (out_bd s 0).1
  go_wp2_with fail
  refine (split_impl s _ (by omega) (HT.out.below HB1.out)).mono ?_
  rintro e w2 ⟨A2, c2, rfl, ho2, hb2⟩
  have HO2 := Lib.hid ho2
  have HB2 := Lib.hid (HB1.out.trans (hb2.mono HB1.out.size))
  clear ho2 hb2
  go_wp2_with fail
  refine (split_spec s _ (by omega)).mono ?_
  rintro e w3 ⟨A3, c3, rfl, ho3, hb3⟩
  have HO2a := Lib.hid (own_below HO2.out hb3)
  have HB3 := Lib.hid (HB2.out.trans (hb3.mono HB2.out.size))
  clear ho3 hb3 HO2
  by_cases hok : SplitOk s
  · have HOK := Lib.hid hok
    have HK := Lib.hid (ok_yes hok).1
    rw [HK.out]
    clear hok
    go_wp2
    go_loopw [8, 9] (fun t i wr => ∃ k : Nat, k ≤ (outL s).length ∧ i = .int .i64 k ∧ t = .string ⟨(joinSp ((outL s).take k)).toArray⟩ ∧ wr = w3) (fun _ i _ => (outL s).length - (intOf i).toNat)
    case atStart => exact ⟨0, by omega, rfl, rfl, rfl⟩
    case round =>
      obtain ⟨k, hk, rfl, rfl, rfl⟩ := hrel
      have hjl : (joinSp ((outL s).take k)).length ≤ 20000 := by
        have h1 := join_len ((outL s).take k) 600 (fun f hf => (out_bd s 0).2 f (List.mem_of_mem_take hf))
        have h2 : ((outL s).take k).length ≤ 24 := by rw [List.length_take]; omega
        have h3 : ((outL s).take k).length * (600 + 1) ≤ 24 * 601 := Nat.mul_le_mul_right _ h2
        omega
      by_cases hlt : k < (outL s).length
      · obtain ⟨g, rfl, _, _, ca, _⟩ := own_at HO2a.out hlt
        rw [strs_at _ k hlt] at ca
        have hfl : ((outL s).getD k []).length ≤ 600 := by
          have : (outL s).getD k [] = (outL s)[k] := by simp [List.getD_eq_getElem?_getD, hlt]
          rw [this]
          exact (out_bd s 0).2 _ (List.getElem_mem hlt)
        have HJ := Lib.hid (join_snoc (outL s) k hlt)
        generalize (outL s).getD k [] = fk at ca hfl HJ
        generalize joinSp ((outL s).take k) = jk at hjl HJ ⊢
        go_wp2
        go_roundw
        case rel => exact ⟨k + 1, by omega, by go_num, by rw [HJ.out, cat3], by trivial⟩
        case measure => simp [intOf]; omega
      · obtain rfl : k = (outL s).length := by omega
        rw [List.take_length] at hjl ⊢
        have hsz2 : (⟨(joinSp (outL s)).toArray⟩ : ByteArray).size ≤ 20000 := by show (joinSp (outL s)).toArray.size ≤ _; simpa using hjl
        have HSZ := Lib.hid (show (⟨(joinSp (outL s)).toArray⟩ : ByteArray).size = (joinSp (outL s)).length by show (joinSp (outL s)).toArray.size = _; simp)
        clear hsz2
        go_wp2_with fail
        refine (split_impl _ _ (by rw [HSZ.out]; omega) (HT.out.below HB3.out)).mono ?_
        rintro e w4 ⟨A4, c4, rfl, ho4, hb4⟩
        have HO4 := Lib.hid ho4
        have HO2b := Lib.hid (own_below HO2a.out hb4)
        have HB4 := Lib.hid (HB3.out.trans (hb4.mono HB3.out.size))
        clear ho4 hb4 HO2a
        by_cases hlong : 600 < (joinSp (outL s)).length
        · go_wp2
          go_ret
          exact ⟨rfl, HB4.out⟩
        · have hsh : (joinSp (outL s)).length ≤ 600 := by omega
          obtain ⟨q1, q2⟩ := again_ok HOK (by rw [HSZ.out]; exact hsh)
          have HQ2 := Lib.hid q2
          have HQ1 := Lib.hid q1
          rw [q1, q2]
          have HO4' := HO4.out
          rw [q2] at HO4'
          have HO5 := Lib.hid HO4'
          clear q1 q2 hlong HO4' HO4
          go_wp2_with fail
          refine (sameTexts _ _ _ _ _ _ _ (outL s) _ (by omega) HO2b.out HO5.out).mono ?_
          rintro e w5 ⟨rfl, hb5⟩
          have HB5 := Lib.hid (HB4.out.trans (hb5.mono HB4.out.size))
          clear hb5
          go_wp2
          go_ret
          exact ⟨rfl, HB5.out⟩
  · have HK := Lib.hid (ok_no hok)
    have H3 := Lib.hid (show Lib.itoa (-3) = [45, 51] by decide +kernel)
    rw [HK.out.1, HK.out.2]
    clear hok
    go_wp2_with fail
    refine (fmt_impl (-3) _ (by omega) (by omega) (HP.out.below HB3.out)).mono ?_
    rintro e w4 ⟨rfl, hb4⟩
    rw [H3.out]
    have HB4 := Lib.hid (HB3.out.trans (hb4.mono HB3.out.size))
    clear hb4
    go_wp2
    go_ret
    exact ⟨rfl, HB4.out⟩

theorem own : ownKnob Tryd.prog.godebug = none := by kernel_rfl
theorem laid : laidOutB Tryd.prog = true := by kernel_rfl
theorem parOk : Tryd.f5.params.toList.all (fun t => Tryd.prog.readableRec t && decide (t < Tryd.prog.types.size)) = true := by kernel_rfl
theorem laid_met (os : Os) : laidMetH Tryd.prog Rows.fnFieldsAgainRow.laid ((World.doorLaid Tryd.prog 400 os).forCall (fun _ _ => 0) ⟨#[], #[.slice none 0 0], []⟩).memory :=
  laidMetH_of_parts3 (fuel := 8) (laidMet_of_run' 8 (by kernel_rfl) (by kernel_rfl)) (by kernel_rfl) (by kernel_rfl)
theorem reads (os : Os) {H : Type} (enc : TypeId × Value → H) : ∃ places, DataW.whole enc Tryd.prog ((World.doorLaid Tryd.prog 400 os).forCall (fun _ _ => 0) ⟨#[], #[.slice none 0 0], []⟩).memory Tryd.f5.params.toList Rows.fnFieldsAgainSpec.vars false #[.slice none 0 0].toList 8 = some ([.nil], [], places) :=
  ⟨[], by kernel_rfl⟩
set_option maxRecDepth 100000 in
theorem lifted (os : Os) (started : os.Started) (H : Type) (enc : TypeId × Value → H) (F : Stop.Interp) :
    ReturnsInHanded {} Tryd.checked os 5 .any ((OpenSpec.ofChange Rows.fnFieldsAgainSpec).preRow enc Tryd.prog Tryd.f5 Rows.fnFieldsAgainRow.domain false Rows.fnFieldsAgainRow.laid) (((OpenSpec.ofChange Rows.fnFieldsAgainSpec).at F).post enc Tryd.prog Tryd.f5 false true false false) := by
  obtain ⟨places, hx⟩ := reads os enc
  refine law_laid (C := Tryd.checked) own started (by kernel_rfl) Tryd.func5 laid (fun t ht => by
      have h := List.all_eq_true.1 parOk t ht
      rw [Bool.and_eq_true] at h
      exact ⟨h.1, of_decide_eq_true h.2⟩) rfl Tryd.underlying4 rfl
    (fun xs hx => by
      rw [show Tryd.f5.params.toList.length = 1 from by rw [Tryd.params5]; rfl] at hx
      match xs, hx with
      | [d0], _ => rfl)
    (witness_row_atRef (enc := enc) (C := Tryd.checked) false (World.doorLaid Tryd.prog 400 os) #[.slice none 0 0] rfl (by kernel_rfl) (by kernel_rfl) (by kernel_rfl)
      (OpenSpec.preRow_of_cond 8 hx (by kernel_rfl) (fun k hk => by cases hk) (by kernel_rfl) (laid_met os))) ?_
  intro W base args ds p hval0 hA0 _ hL
  rw [MakeChecks.laidMetH_plain _ _ _ (by kernel_rfl)] at hL
  have F0 := pow10 hL (by repeat (first | exact List.Mem.head _ | apply List.Mem.tail))
  have F1 := ascii hL (by repeat (first | exact List.Mem.head _ | apply List.Mem.tail))
  have hval : ∀ (j : Nat) t v, Tryd.f5.params[j]? = some t → args[j]? = some v → Value.okWide Tryd.prog W .any base t v := hval0
  have hA : DataW.TrodAll enc Tryd.prog W 0 (fun _ => true) true Tryd.f5.params.toList args.toList ds p := hA0
  clear hA0 hval0
  rw [Tryd.params5] at hA hval
  obtain ⟨v0, vs0, d0, ds0, p0, q0, hargs, rfl, rfl, h0, r0⟩ := trodAll_cons hA
  obtain ⟨rfl, rfl, rfl⟩ := trodAll_nil r0
  obtain rfl : args = #[v0] := by cases args; simp_all
  obtain ⟨A0, n0, c0, f0, rfl, x0, y0⟩ := slice_bytes Tryd.underlying22 (by kernel_rfl) Tryd.underlying5 (hval 0 22 _ rfl rfl) h0
  exact walk A0 n0 c0 f0 W x0 y0 F0 F1
theorem said : Rows.FnFieldsAgainSaid :=
  OpenClaim.holds_of_cond 5 Tryd.f5 rfl rfl rfl rfl rfl rfl rfl ⟨rfl, rfl, rfl, rfl, rfl⟩ rfl rfl rfl rfl rfl (by kernel_rfl) Tryd.func5 (by kernel_rfl)
    (of_decide_eq_true (by kernel_rfl)) (by unfold Func.isWrapper; first | (rw [if_pos (by decide +kernel)]; kernel_rfl) | (rw [if_neg (by decide +kernel)]; exact ⟨rfl, rfl⟩))
    (fun os started H enc _ F => by rw [OpenClaim.pre_eq_preRow]; exact lifted os started H enc F)
theorem plain (f : FuncId) (fn : Func) (hf : Tryd.pinned.checked.prog.funcNamed Rows.fnFieldsAgainRow.func = some f) (hfn : Tryd.pinned.checked.prog.funcs[f]? = some fn) :
    false = Tryd.pinned.checked.prog.looks [] ∧ ∀ (j : Nat) t, fn.params[j]? = some t → Tryd.pinned.checked.prog.wantsStandIn t = false := by
  obtain rfl : f = 5 := Option.some.inj ((show Tryd.prog.funcNamed Rows.fnFieldsAgainRow.func = some 5 by kernel_rfl).symm.trans hf) |>.symm
  obtain rfl : fn = Tryd.f5 := (Option.some.inj (Tryd.func5.symm.trans hfn)).symm
  refine ⟨by kernel_rfl, fun j t ht => ?_⟩
  have hw : Tryd.f5.params.toList.all (fun t => Tryd.prog.wantsStandIn t == false) = true := by kernel_rfl
  have := List.all_eq_true.1 hw t (by simpa using Array.mem_of_getElem? ht)
  exact (show Tryd.prog.wantsStandIn t = false by simpa using this)
/-- The statement: the tied card. -/
theorem proved : Rows.FnFieldsAgainCardSaid :=
  Claim7.holds_tied_plain_at .later [] _ _ _ _ said (fun _ h => by cases h) (by kernel_rfl) (fun _ h => by cases h) fnFieldsAgain_row_tie rfl ⟨rfl, rfl⟩ (by kernel_rfl) rfl plain (by kernel_rfl)
#print axioms proved
end Go.Proofs.YtafjichhahbihaaDoor.fnFieldsAgain
