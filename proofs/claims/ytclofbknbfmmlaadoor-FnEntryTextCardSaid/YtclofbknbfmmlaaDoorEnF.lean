/- The text of an entry: of the program and of its model. -/
import Derived.Test.YtclofbknbfmmlaaDoorEnO
import Derived.Test.YtclofbknbfmmlaaDoorTfG
import Derived.Test.YtclofbknbfmmlaaDoorStr
import Derived.Lib.Join
namespace Go.Proofs.YtclofbknbfmmlaaDoor.C1
open Go.ChangeShapes Go.WideShapes Go.ChangeAt Go.RowKit Go.Proofs.YtclofbknbfmmlaaDoor.Lift
set_option linter.unusedVariables false

/-- The decimal texts of n numbers. -/
def numT (n : Nat) (F : Nat → Int) : List (List UInt8) := (List.range n).map fun i => Lib.itoa (F i)
theorem numT_len (n : Nat) (F : Nat → Int) : (numT n F).length = n := by simp [numT]
theorem numT_snoc (k : Nat) (F : Nat → Int) : numT (k + 1) F = numT k F ++ [Lib.itoa (F k)] := by simp [numT, List.range_succ]
theorem join_snoc {xs : List (List UInt8)} (x sep : List UInt8) (h : xs ≠ []) : Lib.join (xs ++ [x]) sep = Lib.join xs sep ++ sep ++ x := by
  cases xs with
  | nil => exact absurd rfl h
  | cons a r =>
    rw [List.cons_append, Lib.join_cons, Lib.join_cons]
    simp [Lib.joinTail]
def joinT (n : Nat) (F : Nat → Int) : List UInt8 := Lib.join (numT n F) [32]
theorem joinT_one (F : Nat → Int) : joinT 1 F = Lib.itoa (F 0) := by unfold joinT numT; simp [Lib.join_one]
theorem joinT_succ {k : Nat} (F : Nat → Int) (h : 0 < k) : joinT (k + 1) F = joinT k F ++ [32] ++ Lib.itoa (F k) := by
  unfold joinT
  rw [numT_snoc, join_snoc _ _ (fun e => by have := congrArg List.length e; rw [numT_len] at this; simp at this; omega)]
theorem joinT_le {F : Nat → Int} : ∀ {n : Nat}, (∀ i, i < n → -9223372036854775808 ≤ F i ∧ F i ≤ 9223372036854775807) → (joinT n F).length ≤ 22 * n
  | 0, _ => by unfold joinT numT; simp [Lib.join_nil]
  | n + 1, h => by
    have h1 := joinT_le (n := n) (fun i hi => h i (by omega))
    have h2 := Lib.itoa_length_le (F n) (h n (by omega)).1 (h n (by omega)).2
    rcases Nat.eq_zero_or_pos n with h0 | h0
    · subst h0; rw [joinT_one]; omega
    · rw [joinT_succ F h0]; simp only [List.length_append, List.length_cons, List.length_nil]; omega
theorem str_app (a b : List UInt8) : (⟨(a ++ b).toArray⟩ : ByteArray) = ⟨a.toArray⟩ ++ ⟨b.toArray⟩ := by
  apply ByteArray.ext
  simp
theorem str_size (a : List UInt8) : (⟨a.toArray⟩ : ByteArray).size = a.length := by simp [ByteArray.size]
def EnIn (n : Nat) (F : Nat → Int) : Prop := ∀ i, i < n → -9223372036854775808 ≤ F i ∧ F i ≤ 9223372036854775807
set_option maxRecDepth 100000 in
set_option maxHeartbeats 1000000 in
theorem join_spec (A : Option Addr) (n c : Nat) (F : Nat → Int) (w : World) (hn : n ≤ 24) (hF : EnIn n F) (hs : SrcH w A n F) :
    Calls Tryd.prog 68 #[.slice A n c, .string ⟨#[32]⟩] w fun e w' => e = .returned (.string ⟨(joinT n F).toArray⟩) ∧ Below w.heap.size w w' := by
  have HP := vl hs
  have HF := vl hF
  clear hs hF
  go_enter Tryd.func68, Tryd.ntmps68
  go_wp2
  go_loopw [5, 6] (fun s i wr => ∃ (k : Nat) (b : ByteArray), k ≤ n ∧ i = .int .i64 k ∧ s = .string b ∧ Veil (b = ⟨(joinT k F).toArray⟩) ∧ Veil (Below w.heap.size w wr)) (fun _ i _ => n - (intOf i).toNat)
  case atStart => exact ⟨0, _, by omega, rfl, rfl, vl rfl, vl (Below.refl _ _)⟩
  case round =>
    obtain ⟨k, b, hk, rfl, rfl, HS, HB⟩ := hrel
    by_cases hlt : k < n
    · obtain ⟨g, rfl, hc⟩ := (HP.out.below HB.out) (by omega)
      have c0 := hc k hlt
      have hb : b.size ≤ 600 := by
        rw [HS.out, str_size]
        have := joinT_le (n := k) (fun i hi => HF.out i (by omega))
        omega
      obtain ⟨f0, f1⟩ := HF.out k hlt
      have hil := Lib.itoa_length_le (F k) f0 f1
      have hts : (⟨(Lib.itoa (F k)).toArray⟩ : ByteArray).size ≤ 21 := by rw [str_size]; exact hil
      clear hc hil
      rcases Nat.eq_zero_or_pos k with h0 | h0
      · subst h0
        have HB0 := vl (show b = ⟨#[]⟩ by rw [HS.out]; rfl)
        obtain rfl := HB0.out
        have HSS := vl (show (⟨(joinT 1 F).toArray⟩ : ByteArray) = ⟨(Lib.itoa (F 0)).toArray⟩ by rw [joinT_one])
        go_wp2_with fail
        refine (fmt_spec (F 0) _ f0 f1).mono ?_
        rintro e w1 ⟨rfl, hb1⟩
        have HB1 := vl (HB.out.trans (hb1.mono HB.out.size))
        clear hb1 c0
        generalize (⟨(Lib.itoa (F 0)).toArray⟩ : ByteArray) = tb at hts HSS ⊢
        go_wp2
        go_roundw
        case rel => exact ⟨1, _, by omega, by go_num, rfl, vl (by rw [HSS.out]; apply ByteArray.ext; simp), HB1⟩
        case measure => simp [intOf]; omega
      · have h0' : (0 : Int) < (k : Int) := by omega
        have HSP := vl (show (⟨(joinT (k + 1) F).toArray⟩ : ByteArray) = b ++ ⟨#[32]⟩ ++ ⟨(Lib.itoa (F k)).toArray⟩ from by rw [joinT_succ F h0, str_app, str_app, ← HS.out])
        go_wp2_with fail
        refine (fmt_spec (F k) _ f0 f1).mono ?_
        rintro e w1 ⟨rfl, hb1⟩
        have HB1 := vl (HB.out.trans (hb1.mono HB.out.size))
        clear hb1 c0
        generalize (⟨(Lib.itoa (F k)).toArray⟩ : ByteArray) = tb at hts HSP ⊢
        go_wp2
        go_roundw
        case rel => exact ⟨k + 1, _, by omega, by go_num, rfl, vl HSP.out.symm, HB1⟩
        case measure => simp [intOf]; omega
    · obtain rfl : k = n := by omega
      go_wp2
      go_ret
      exact ⟨congrArg (fun x => Ending.returned (.string x)) HS.out, HB.out⟩
theorem infoSt : (Tryd.prog.info? 9).map (fun i => (i.zero, i.size, i.bytes)) = some (some (.string ⟨#[]⟩), 1, 16) := by kernel_rfl
set_option maxRecDepth 100000 in
set_option maxHeartbeats 1000000 in
theorem join_impl (A : Option Addr) (n c : Nat) (F : Nat → Int) (w : World) (h0 : 0 < n) (hn : n ≤ 24) (hF : EnIn n F) (hs : SrcH w A n F) (ht : Pow10 w) :
    Calls Tryd.prog 63 #[.string ⟨#[32]⟩, .slice A n c] w fun e w' => e = .returned (.string ⟨(joinT n F).toArray⟩) ∧ Below w.heap.size w w' := by
  obtain ⟨i0, hi, hz0, hz1, hz2⟩ := info_parts infoSt
  have HP := vl hs
  have HF := vl hF
  have HT := vl ht
  clear hs hF ht
  go_enter Tryd.func63, Tryd.ntmps63
  go_wp2_with (at_make; refine wpList_make_own _ rfl _ _ 89 rfl w.heap.size 9 i0 (.string ⟨#[]⟩) 1 Tryd.underlying89 hi hz0 hz1 .i64 .i64 _ n rfl rfl (by rfl) (by rw [hz2]; omega) (by unfold maxLen; omega) (Nat.le_refl _) ?_; intro w0 hown0 hgr0)
  have HB0 := vl (below_none hgr0)
  have HO0 := vl hown0
  clear hown0 hgr0
  go_wp2
  go_loopw [5, 13] (fun v i wr => ∃ k : Nat, k ≤ n ∧ i = .int .i64 k ∧ Veil (Below w.heap.size w wr) ∧ Veil (wr.ownsRow w.heap.size 9 1 v k (strs (numT k F)))) (fun _ i _ => n - (intOf i).toNat)
  case atStart => exact ⟨0, by omega, rfl, HB0, HO0⟩
  case round =>
    obtain ⟨k, hk, rfl, HB, HO⟩ := hrel
    by_cases hlt : k < n
    · obtain ⟨g, rfl, hc⟩ := (HP.out.below HB.out) (by omega)
      have c0 := hc k hlt
      obtain ⟨f0, f1⟩ := HF.out k hlt
      have HI := vl (show strs (numT (k + 1) F) = strs (numT k F) ++ [.string ⟨(Lib.itoa (F k)).toArray⟩] by rw [numT_snoc]; simp [strs])
      have HT1 := vl (HT.out.below HB.out)
      clear hc
      go_wp2_with fail
      refine (fmt_impl (F k) _ f0 f1 HT1.out).mono ?_
      rintro e w1 ⟨rfl, hb1⟩
      have HB1 := vl (HB.out.trans (hb1.mono HB.out.size))
      have HO1 := vl (own_below HO.out hb1)
      have hs1 := HB1.out.size
      clear hb1 c0
      generalize (⟨(Lib.itoa (F k)).toArray⟩ : ByteArray) = tb at HI ⊢
      go_wp2_with (at_builtin; refine wpList_app rfl _ _ 89 rfl w.heap.size 9 i0 _ 1 16 Tryd.underlying89 hi hz0 hz1 hz2 rfl (by decide) _ _ _ rfl (HO1.out.alloc _) (some ⟨w1.heap.size, 0, none⟩) 1 1 [.string tb] rfl rfl ?c1 ?c2 ?c3 ?c4 ?c5 ?_)
      case c1 => exact fun _ => ⟨_, rfl, fun j u hu => World.news_of_block (heap_alloc_new _ _) j u (by simpa using hu)⟩
      case c2 => intro u hu; simp at hu; subst hu; rfl
      case c3 => unfold maxLen; omega
      case c4 => omega
      case c5 => simp; omega
      intro v' w2 hown hgr
      have HOk := vl (fun k hk => HO1.out.lt k hk)
      have HB2 := vl (Below.grown (HB1.out.alloc hs1 (.cells #[.string tb] 9)) hgr (by simp; omega) (fun k hk => (HOk.out k hk).1))
      have HO2 := vl (show w2.ownsRow w.heap.size 9 1 v' (k + 1) (strs (numT (k + 1) F)) from by rw [HI.out]; exact hown)
      clear hown hgr
      go_wp2
      go_roundw
      case rel => exact ⟨k + 1, by omega, by go_num, HB2, HO2⟩
      case measure => simp [intOf]; omega
    · obtain rfl : k = n := by omega
      obtain ⟨g, cap, hv, hg, hgl⟩ := HO.out.form h0
      subst hv
      have hcap : k ≤ cap := by
        rcases HO.out.2 with ⟨h, _⟩ | ⟨g', cap', cur, h, _, _, hc, _⟩
        · cases h
        · injection h with _ _ h; omega
      have HO' := vl HO.out
      have hlen : (Lib.join (((strs (numT k F)).map (fun v => match v with | .string b => b | _ => ⟨#[]⟩)).map (·.data.toList)) ([32] : List UInt8)) = joinT k F := by
        unfold joinT
        congr 1
        simp [strs]
        conv => rhs; rw [← List.map_id (numT k F)]
        apply List.map_congr_left
        intro a _
        simp
      have hxl : ((strs (numT k F)).map (fun v => match v with | .string b => b | _ => ⟨#[]⟩)).length = k := by simp [strs, numT_len]
      have hcells : ∀ (j : Nat) x, ((strs (numT k F)).map (fun v => match v with | .string b => b | _ => ⟨#[]⟩))[j]? = some x → wr.cell? ⟨g, 0 + j, none⟩ = some (.string x) := fun j x hx => by
        have hj : j < k := by have := (List.getElem?_eq_some_iff.1 hx).1; rwa [hxl] at this
        rw [Nat.zero_add, HO'.out.cellAt j (by omega)]
        rw [List.getElem?_map, Option.map_eq_some_iff] at hx
        obtain ⟨u, h1, h2⟩ := hx
        rw [h1]
        rw [strs_at _ _ (by rw [numT_len]; exact hj)] at h1
        injection h1 with h1
        subst h1
        simp only at h2
        rw [h2]
      have hjl := joinT_le (n := k) (fun i hi => HF.out i hi)
      have HJ := vl (Tryd.strings_Join g 0 cap _ ⟨#[32]⟩ wr hcells hgl (by rw [hxl]; omega) (by rw [hxl]; exact hcap) (by rw [show ((⟨#[32]⟩ : ByteArray).data.toList) = [32] from rfl, hlen]; omega))
      rw [hxl, show ((⟨#[32]⟩ : ByteArray).data.toList) = [32] from rfl, hlen] at HJ
      clear hcells hlen hxl
      go_wp2_with fail
      refine HJ.out.mono ?_
      rintro e w1 ⟨rfl, hb1⟩
      have HB1 := vl (HB.out.trans (hb1.mono HB.out.size))
      clear hb1
      go_wp2
      go_ret
      exact ⟨rfl, HB1.out⟩
def enZ (b : En) (i : Nat) : Int := if i = 0 then b.f else if i = 1 then b.t else if i = 2 then b.a else if i = 3 then b.m else b.y
/-- The text of an entry. -/
def fmtE (b : En) : List UInt8 := if enOk b = true then joinT 5 (enZ b) else []
theorem fmtE_no {b : En} (h : enOk b = false) : fmtE b = [] := by unfold fmtE; rw [h]; rfl
theorem fmtE_yes {b : En} (h : enOk b = true) : fmtE b = joinT 5 (enZ b) := by unfold fmtE; rw [if_pos h]
theorem enZ_in {b : En} (h : enOk b = true) : EnIn 5 (enZ b) := fun i hi => by
  obtain ⟨_, h1, h2, h3, h4, h5⟩ := enOk_in' h
  unfold enZ
  split
  · omega
  · split
    · omega
    · split
      · omega
      · split <;> omega
theorem enZ_src (w : World) (b : En) (t : TypeId) : SrcH (w.alloc (.cells #[.int .i64 b.f, .int .i64 b.t, .int .i64 b.a, .int .i64 b.m, .int .i64 b.y] t)) (some ⟨w.heap.size, 0, none⟩) 5 (enZ b) := fun _ => ⟨_, rfl, fun i hi => by
  match i, hi with
  | 0, _ => simp [enZ]
  | 1, _ => simp [enZ]
  | 2, _ => simp [enZ]
  | 3, _ => simp [enZ]
  | 4, _ => simp [enZ]⟩
set_option maxHeartbeats 1000000 in
theorem fmte_spec (b : En) (w : World) : Calls Tryd.prog 32 #[.agg #[.int .i64 b.f, .int .i64 b.t, .int .i64 b.a, .int .i64 b.m, .int .i64 b.y]] w fun e w' => e = .returned (.string ⟨(fmtE b).toArray⟩) ∧ Below w.heap.size w w' := by
  have HB0 := vl ((Below.refl w.heap.size w).alloc (Nat.le_refl _) (.cells #[.int .i64 b.f, .int .i64 b.t, .int .i64 b.a, .int .i64 b.m, .int .i64 b.y] 36))
  have HX0 := vl (BxE.new w b 36)
  cases hv : enOk b with
  | false =>
    have HV := vl hv
    have HE := vl (fmtE_no hv)
    clear hv
    go_enter Tryd.func32, Tryd.ntmps32
    go_wp2_with fail
    refine (enok_spec b _).mono ?_
    rintro e w1 ⟨rfl, hb1⟩
    rw [HV.out]
    have HB1 := vl (HB0.out.trans (hb1.mono HB0.out.size))
    clear hb1
    go_wp2
    go_ret
    exact ⟨by rw [HE.out]; rfl, HB1.out⟩
  | true =>
    have HV := vl hv
    have HE := vl (fmtE_yes hv)
    clear hv
    go_enter Tryd.func32, Tryd.ntmps32
    go_wp2_with fail
    refine (enok_spec b _).mono ?_
    rintro e w1 ⟨rfl, hb1⟩
    rw [HV.out]
    have HB1 := vl (HB0.out.trans (hb1.mono HB0.out.size))
    have HX1 := vl (HX0.out.below hb1)
    clear hb1
    obtain ⟨x0, x1, x2, x3, x4⟩ := HX1.out
    have HS := vl (enZ_src w1 b 3)
    have HB2 := vl (HB1.out.alloc HB1.out.size (.cells #[.int .i64 b.f, .int .i64 b.t, .int .i64 b.a, .int .i64 b.m, .int .i64 b.y] 3))
    go_wp2_with fail
    refine (join_spec _ 5 _ (enZ b) _ (by decide) (enZ_in HV.out) HS.out).mono ?_
    rintro e w2 ⟨rfl, hb2⟩
    have HB3 := vl (HB2.out.trans (hb2.mono HB2.out.size))
    clear hb2 x0 x1 x2 x3 x4
    go_wp2
    go_ret
    exact ⟨by rw [HE.out]; rfl, HB3.out⟩
set_option maxHeartbeats 1000000 in
theorem fmte_impl (b : En) (w : World) (ht : Pow10 w) : Calls Tryd.prog 23 #[.agg #[.int .i64 b.f, .int .i64 b.t, .int .i64 b.a, .int .i64 b.m, .int .i64 b.y]] w fun e w' => e = .returned (.string ⟨(fmtE b).toArray⟩) ∧ Below w.heap.size w w' := by
  have HB0 := vl ((Below.refl w.heap.size w).alloc (Nat.le_refl _) (.cells #[.int .i64 b.f, .int .i64 b.t, .int .i64 b.a, .int .i64 b.m, .int .i64 b.y] 36))
  have HX0 := vl (BxE.new w b 36)
  have HT := vl ht
  clear ht
  cases hv : enOk b with
  | false =>
    have HV := vl hv
    have HE := vl (fmtE_no hv)
    clear hv
    go_enter Tryd.func23, Tryd.ntmps23
    go_wp2_with fail
    refine (enok_impl b _).mono ?_
    rintro e w1 ⟨rfl, hb1⟩
    rw [HV.out]
    have HB1 := vl (HB0.out.trans (hb1.mono HB0.out.size))
    clear hb1
    go_wp2
    go_ret
    exact ⟨by rw [HE.out]; rfl, HB1.out⟩
  | true =>
    have HV := vl hv
    have HE := vl (fmtE_yes hv)
    clear hv
    go_enter Tryd.func23, Tryd.ntmps23
    go_wp2_with fail
    refine (enok_impl b _).mono ?_
    rintro e w1 ⟨rfl, hb1⟩
    rw [HV.out]
    have HB1 := vl (HB0.out.trans (hb1.mono HB0.out.size))
    have HX1 := vl (HX0.out.below hb1)
    clear hb1
    obtain ⟨x0, x1, x2, x3, x4⟩ := HX1.out
    have HS := vl (enZ_src w1 b 3)
    have HB2 := vl (HB1.out.alloc HB1.out.size (.cells #[.int .i64 b.f, .int .i64 b.t, .int .i64 b.a, .int .i64 b.m, .int .i64 b.y] 3))
    have HT2 := vl (HT.out.below HB2.out)
    go_wp2_with fail
    refine (join_impl _ 5 _ (enZ b) _ (by decide) (by decide) (enZ_in HV.out) HS.out HT2.out).mono ?_
    rintro e w2 ⟨rfl, hb2⟩
    have HB3 := vl (HB2.out.trans (hb2.mono HB2.out.size))
    clear hb2 x0 x1 x2 x3 x4
    go_wp2
    go_ret
    exact ⟨by rw [HE.out]; rfl, HB3.out⟩
end Go.Proofs.YtclofbknbfmmlaaDoor.C1
