/- What a passage costs: of the program and of its model. -/
import Derived.Test.YtngmpimoebggdaaTfO
import Derived.Test.YtngmpimoebggdaaTrI5
import Derived.Test.YtngmpimoebggdaaTrnV
import Derived.Deep.RegionHeld3
namespace Go.Proofs.Ytngmpimoebggdaa.C1
open Go.ChangeShapes Go.WideShapes Go.ChangeAt Go.RowKit Go.Proofs.Ytngmpimoebggdaa.ShareM
set_option linter.unusedVariables false

/-- The toll of a train. -/
def tollZ (T : Tf) (U : List (List Bt)) : Int := if tfOk T = true ∧ tOk U = true then T.b + T.p * lenT U * widT U / 100 + T.C (claT U).toNat else 0
theorem tollZ_no1 {T : Tf} {U : List (List Bt)} (h : tfOk T = false) : tollZ T U = 0 := by unfold tollZ; rw [if_neg (fun h' => by rw [h] at h'; exact absurd h'.1 (by decide))]
theorem tollZ_no2 {T : Tf} {U : List (List Bt)} (h : tOk U = false) : tollZ T U = 0 := by unfold tollZ; rw [if_neg (fun h' => by rw [h] at h'; exact absurd h'.2 (by decide))]
structure TfIn (T : Tf) : Prop where
  b0 : 0 ≤ T.b
  b1 : T.b ≤ 10000
  p0 : 0 ≤ T.p
  p1 : T.p ≤ 100
  n3 : T.n = 3
  c : ∀ i, i < 3 → 0 ≤ T.C i ∧ T.C i ≤ 10000
  m : T.m ≤ 11
  w : ∀ i, i < T.m → 0 ≤ T.W i ∧ T.W i ≤ 1000
  s : 0 < sumTo T.W T.m
theorem tfIn_of {T : Tf} (h : tfOk T = true) : TfIn T := by
  unfold tfOk wgOk at h
  simp only [Bool.and_eq_true, decide_eq_true_eq] at h
  obtain ⟨h1, h2, h3, h4, h5, h6, h7⟩ := h
  have e1 := inB_iff.1 h1
  have e2 := inB_iff.1 h2
  exact ⟨e1.1, e1.2, e2.1, e2.2, h3, fun i hi => inB_iff.1 (rngTo_iff.1 h4 i (by omega)), h5, fun i hi => inB_iff.1 (rngTo_iff.1 h6 i hi), h7⟩
theorem rows_le6 {T : List (List Bt)} (h : TIn T) : T.length ≤ 6 := by
  have hb := h.n1
  have : ∀ S : List (List Bt), (∀ r ∈ S, r ≠ []) → S.length ≤ (bts S).length := by
    intro S
    induction S with
    | nil => intro _; simp
    | cons r S ih =>
      intro hf
      have h1 := ih (fun x hx => hf x (List.mem_cons_of_mem _ hx))
      have h2 : r ≠ [] := hf r List.mem_cons_self
      have h3 : 0 < r.length := List.length_pos_iff.2 h2
      have e : bts (r :: S) = r ++ bts S := by simp [bts]
      rw [e, List.length_append, List.length_cons]
      omega
  have := this T h.full
  omega
theorem lenT_in (T : List (List Bt)) : 0 ≤ lenT T ∧ lenT T ≤ 1200 := by
  unfold lenT
  split
  · rename_i h
    have hI := tOk_iff.1 h
    have h6 := rows_le6 hI
    have := lenZ_bd hI T.length
    rw [fk_end] at this
    have e : lenZ T = T.foldl (fun s r => s + lenR r) 0 := rfl
    rw [← e] at this
    omega
  · omega
theorem widT_in (T : List (List Bt)) : 0 ≤ widT T ∧ widT T ≤ 180 := by
  unfold widT
  split
  · rename_i h
    have hI := tOk_iff.1 h
    have := widZ_bd hI T.length
    rw [fk_end] at this
    exact this
  · omega
theorem claT_in {T : List (List Bt)} (h : tOk T = true) : ∃ k : Nat, claT T = (k : Int) ∧ k < 3 := by
  unfold claT
  rw [if_pos h]
  have hI := tOk_iff.1 h
  have := fk_min (g := Bt.c) (L := bts T) (a := 2) (lo := 0) (by omega) (fun b hb => (hI.ok b hb).c0) (bts T).length
  rw [fk_end] at this
  have e : claZ T = (bts T).foldl (fun n b => min n b.c) 2 := rfl
  rw [← e] at this
  exact ⟨(claZ T).toNat, by omega, by omega⟩
theorem mul_in {a b A B : Int} (h0 : 0 ≤ a) (h1 : a ≤ A) (h2 : 0 ≤ b) (h3 : b ≤ B) : 0 ≤ a * b ∧ a * b ≤ A * B :=
  ⟨Int.mul_nonneg h0 h2, Int.mul_le_mul h1 h3 h2 (Int.le_trans h0 h1)⟩
theorem toll_wrap {b p l w x : Int} (b0 : 0 ≤ b) (b1 : b ≤ 10000) (m10 : 0 ≤ p * l) (m11 : p * l ≤ 100 * 1200) (m20 : 0 ≤ p * l * w) (m21 : p * l * w ≤ 100 * 1200 * 180) (x0 : 0 ≤ x) (x1 : x ≤ 10000) :
    IntKind.i64.wrap (IntKind.i64.wrap (b + IntKind.i64.wrap ((IntKind.i64.wrap (IntKind.i64.wrap (p * l) * w)).tdiv 100)) + x) = b + p * l * w / 100 + x := by
  have i64 : ∀ z : Int, -9223372036854775808 ≤ z → z ≤ 9223372036854775807 → IntKind.i64.wrap z = z := fun z h1 h2 => IntWalk.i64_in _ (by omega)
  rw [i64 (p * l) (by omega) (by omega)]
  generalize p * l * w = z at m20 m21 ⊢
  rw [i64 z (by omega) (by omega), Int.tdiv_eq_ediv_of_nonneg m20]
  have h0 : 0 ≤ z / 100 ∧ z / 100 ≤ 216000 := by omega
  rw [i64 (z / 100) (by omega) (by omega), i64 (b + z / 100) (by omega) (by omega), i64 _ (by omega) (by omega)]
theorem toll_in (T : Tf) (U : List (List Bt)) : 0 ≤ tollZ T U ∧ tollZ T U ≤ 1000000000 := by
  unfold tollZ
  split
  · rename_i h
    have hT := tfIn_of h.1
    obtain ⟨k, hk, hk3⟩ := claT_in h.2
    have hl := lenT_in U
    have hw := widT_in U
    have hc := hT.c k hk3
    have m1 := mul_in hT.p0 hT.p1 hl.1 hl.2
    have m2 := mul_in m1.1 m1.2 hw.1 hw.2
    have := hT.b0
    have := hT.b1
    rw [hk]
    simp only [Int.toNat_natCast]
    generalize T.p * lenT U * widT U = z at m2 ⊢
    omega
  · omega

set_option maxRecDepth 100000 in
set_option maxHeartbeats 8000000 in
theorem toll_spec (T : Tf) (A D : Option Addr) (c d : Nat) (up : Bool) (B : Option Addr) (e : Nat) (U : List (List Bt)) (w : World) (hn : T.n ≤ 1048576) (hm : T.m ≤ 1048576) (hA : SrcG w A T.n T.C) (hD : SrcG w D T.m T.W) (hu : Mod U) (hp : Trn w B U) :
    Calls Try.prog 37 #[.agg #[.int .i64 T.b, .int .i64 T.p, .slice A T.n c, .slice D T.m d], .agg #[.bool up, .slice B U.length e]] w fun en w' => en = .returned (.int .i64 (tollZ T U)) ∧ Below w.heap.size w w' := by
  have hB := ((Below.refl w.heap.size w).alloc (Nat.le_refl _) (.cells #[.int .i64 T.b, .int .i64 T.p, .slice A T.n c, .slice D T.m d] 62)).alloc (by simp) (.cells #[.bool up, .slice B U.length e] 29)
  have HA := vl (hA.below hB)
  have HD := vl (hD.below hB)
  have HP := vl (hp.below hB)
  have HX := vl (Box4.alloc (Box4.new w (.int .i64 T.b) (.int .i64 T.p) (.slice A T.n c) (.slice D T.m d) 62) (.cells #[.bool up, .slice B U.length e] 29))
  have HY0 := TBox.new (w.alloc (.cells #[.int .i64 T.b, .int .i64 T.p, .slice A T.n c, .slice D T.m d] 62)) up B U.length e 29
  rw [World.size_alloc] at HY0
  have HY := vl HY0
  have HB0 := vl hB
  clear hA hD hp HY0
  go_enter Try.func37, Try.ntmps37
  go_wp2_with fail
  generalize hW : (w.alloc (.cells #[.int .i64 T.b, .int .i64 T.p, .slice A T.n c, .slice D T.m d] 62)).alloc (.cells #[.bool up, .slice B U.length e] 29) = W at HA HD HP HX HY HB0 ⊢
  clear hW hB
  refine (tfok_spec T _ _ _ _ _ hn hm HA.out HD.out).mono ?_
  rintro en w1 ⟨rfl, hb1⟩
  have HB1 := vl (HB0.out.trans (hb1.mono HB0.out.size))
  have HA1 := vl (HA.out.below hb1)
  have HP1 := vl (HP.out.below hb1)
  have HX1 := vl (HX.out.below hb1)
  have HY1 := vl (HY.out.below hb1)
  clear hb1 HA HD HP HX HY HB0
  obtain ⟨y0, y1⟩ := HY1.out
  cases hv : tfOk T with
  | false =>
    have H := vl (tollZ_no1 (U := U) hv)
    clear hv
    go_wp2
    go_ret
    exact ⟨ret_int H.out.symm, HB1.out⟩
  | true =>
    have HT := vl (tfIn_of hv)
    have HV := vl hv
    clear hv
    go_wp2_with fail
    refine (tok_spec up B e U _ hu HP1.out).mono ?_
    rintro en w2 ⟨rfl, hb2⟩
    have HB2 := vl (HB1.out.trans (hb2.mono HB1.out.size))
    have HA2 := vl (HA1.out.below hb2)
    have HP2 := vl (HP1.out.below hb2)
    have HX2 := vl (HX1.out.below hb2)
    have HY2 := vl (HY1.out.below hb2)
    clear hb2 HA1 HP1 HX1 HY1 HB1 y0 y1
    cases ho : tOk U with
    | false =>
      have H := vl (tollZ_no2 (T := T) ho)
      clear ho
      go_wp2
      go_ret
      exact ⟨ret_int H.out.symm, HB2.out⟩
    | true =>
      obtain ⟨k, hk, hk3⟩ := claT_in ho
      have HE := vl (show tollZ T U = T.b + T.p * lenT U * widT U / 100 + T.C k by unfold tollZ; rw [if_pos ⟨HV.out, ho⟩, hk, Int.toNat_natCast])
      obtain ⟨l9, HL⟩ : ∃ z, Veil (lenT U = z) := ⟨_, vl rfl⟩
      obtain ⟨w9, HW⟩ : ∃ z, Veil (widT U = z) := ⟨_, vl rfl⟩
      obtain ⟨x9, HX9⟩ : ∃ z, Veil (T.C k = z) := ⟨_, vl rfl⟩
      have hl : 0 ≤ l9 ∧ l9 ≤ 1200 := by rw [← HL.out]; exact lenT_in U
      have hw : 0 ≤ w9 ∧ w9 ≤ 180 := by rw [← HW.out]; exact widT_in U
      have hx : 0 ≤ x9 ∧ x9 ≤ 10000 := by rw [← HX9.out]; exact HT.out.c k hk3
      obtain ⟨m10, m11⟩ := mul_in HT.out.p0 HT.out.p1 hl.1 hl.2
      obtain ⟨m20, m21⟩ := mul_in m10 m11 hw.1 hw.2
      have hd0 : 0 ≤ T.p * l9 * w9 / 100 := by generalize T.p * l9 * w9 = z at m20 m21 ⊢; omega
      have hd1 : T.p * l9 * w9 / 100 ≤ 216000 := by generalize T.p * l9 * w9 = z at m20 m21 ⊢; omega
      obtain ⟨hx0, hx1⟩ := hx
      have k0 : (0 : Int) ≤ (k : Int) := by omega
      have k3 : (k : Int) < 3 := by omega
      have hb0 := HT.out.b0
      have hb1 := HT.out.b1
      have HK := vl hk
      have h3 := HT.out.n3
      obtain ⟨g, hg, hc⟩ := HA2.out (by omega)
      have z0 := hc k (by omega)
      rw [HX9.out] at z0
      have HE' := vl (HE.out.trans (by rw [HL.out, HW.out, HX9.out]))
      obtain ⟨x0, x1, x2, x3⟩ := HX2.out.at
      rw [h3] at x2
      subst hg
      obtain ⟨y0, y1⟩ := HY2.out
      clear ho hk HE hc x3 hl hw HX2 HY2 HA2 h3
      go_wp2
      go_region_held3 (fun w' => w'.cell? ⟨w.heap.size, 0, none⟩ = some (.int .i64 T.b) ∧ w'.cell? ⟨w.heap.size, 1, none⟩ = some (.int .i64 T.p) ∧ w'.cell? ⟨w.heap.size, 2, none⟩ = some (.slice (some ⟨g, 0, none⟩) 3 c) ∧ w'.cell? ⟨w.heap.size + 1, 0, none⟩ = some (.bool up) ∧ w'.cell? ⟨w.heap.size + 1, 1, none⟩ = some (.slice B U.length e) ∧ w'.cell? ⟨g, k, none⟩ = some (.int .i64 x9) ∧ Below w2.heap.size w2 w')
        (first | exact ⟨x0, x1, x2, y0, y1, z0, Below.refl _ _⟩ | exact ⟨x0, x1, x2, y0, y1, z0, (Below.refl _ _).drew⟩ | assumption)
        (first
      | (go_at_call 87; obtain ⟨q0, q1, q2, q3, q4, q5, hb7⟩ : _ ∧ _ ∧ _ ∧ _ ∧ _ ∧ _ ∧ Below w2.heap.size w2 _ := by assumption
         refine (len_spec up B e U _ hu (HP2.out.below hb7)).mono ?_
         rintro en w' ⟨rfl, hb'⟩
         rw [HL.out]
         have S0 := And.intro ((hb'.cell (cell_lt' q0)).trans q0) (And.intro ((hb'.cell (cell_lt' q1)).trans q1) (And.intro ((hb'.cell (cell_lt' q2)).trans q2) (And.intro ((hb'.cell (cell_lt' q3)).trans q3) (And.intro ((hb'.cell (cell_lt' q4)).trans q4) (And.intro ((hb'.cell (cell_lt' q5)).trans q5) (hb7.trans (hb'.mono hb7.size)))))))
         clear hb')
      | (go_at_call 88; obtain ⟨q0, q1, q2, q3, q4, q5, hb7⟩ : _ ∧ _ ∧ _ ∧ _ ∧ _ ∧ _ ∧ Below w2.heap.size w2 _ := by assumption
         refine (wid_spec up B e U _ hu (HP2.out.below hb7)).mono ?_
         rintro en w' ⟨rfl, hb'⟩
         rw [HW.out]
         have S1 := And.intro ((hb'.cell (cell_lt' q0)).trans q0) (And.intro ((hb'.cell (cell_lt' q1)).trans q1) (And.intro ((hb'.cell (cell_lt' q2)).trans q2) (And.intro ((hb'.cell (cell_lt' q3)).trans q3) (And.intro ((hb'.cell (cell_lt' q4)).trans q4) (And.intro ((hb'.cell (cell_lt' q5)).trans q5) (hb7.trans (hb'.mono hb7.size)))))))
         clear hb')
      | (go_at_call 89; obtain ⟨q0, q1, q2, q3, q4, q5, hb7⟩ : _ ∧ _ ∧ _ ∧ _ ∧ _ ∧ _ ∧ Below w2.heap.size w2 _ := by assumption
         refine (cla_spec up B e U _ hu (HP2.out.below hb7)).mono ?_
         rintro en w' ⟨rfl, hb'⟩
         rw [HK.out]
         have S2 := And.intro ((hb'.cell (cell_lt' q0)).trans q0) (And.intro ((hb'.cell (cell_lt' q1)).trans q1) (And.intro ((hb'.cell (cell_lt' q2)).trans q2) (And.intro ((hb'.cell (cell_lt' q3)).trans q3) (And.intro ((hb'.cell (cell_lt' q4)).trans q4) (And.intro ((hb'.cell (cell_lt' q5)).trans q5) (hb7.trans (hb'.mono hb7.size)))))))
         clear hb'))
      all_goals
        obtain ⟨q0, q1, q2, q3, q4, q5, hb9⟩ : _ ∧ _ ∧ _ ∧ _ ∧ _ ∧ _ ∧ Below w2.heap.size w2 _ := by assumption
        go_wp2
        go_ret
        exact ⟨ret_int ((toll_wrap hb0 hb1 m10 m11 m20 m21 hx0 hx1).trans HE'.out.symm), HB2.out.trans (hb9.mono HB2.out.size)⟩
set_option maxRecDepth 100000 in
set_option maxHeartbeats 8000000 in
theorem toll_impl (T : Tf) (A D : Option Addr) (c d : Nat) (up : Bool) (B : Option Addr) (e : Nat) (U : List (List Bt)) (w : World) (hn : T.n ≤ 1048576) (hm : T.m ≤ 1048576) (hA : SrcG w A T.n T.C) (hD : SrcG w D T.m T.W) (hu : Mod U) (hp : Trn w B U) :
    Calls Try.prog 38 #[.agg #[.int .i64 T.b, .int .i64 T.p, .slice A T.n c, .slice D T.m d], .agg #[.bool up, .slice B U.length e]] w fun en w' => en = .returned (.int .i64 (tollZ T U)) ∧ Below w.heap.size w w' := by
  have hB := ((Below.refl w.heap.size w).alloc (Nat.le_refl _) (.cells #[.int .i64 T.b, .int .i64 T.p, .slice A T.n c, .slice D T.m d] 62)).alloc (by simp) (.cells #[.bool up, .slice B U.length e] 29)
  have HA := vl (hA.below hB)
  have HD := vl (hD.below hB)
  have HP := vl (hp.below hB)
  have HX := vl (Box4.alloc (Box4.new w (.int .i64 T.b) (.int .i64 T.p) (.slice A T.n c) (.slice D T.m d) 62) (.cells #[.bool up, .slice B U.length e] 29))
  have HY0 := TBox.new (w.alloc (.cells #[.int .i64 T.b, .int .i64 T.p, .slice A T.n c, .slice D T.m d] 62)) up B U.length e 29
  rw [World.size_alloc] at HY0
  have HY := vl HY0
  have HB0 := vl hB
  clear hA hD hp HY0
  go_enter Try.func38, Try.ntmps38
  go_wp2_with fail
  generalize hW : (w.alloc (.cells #[.int .i64 T.b, .int .i64 T.p, .slice A T.n c, .slice D T.m d] 62)).alloc (.cells #[.bool up, .slice B U.length e] 29) = W at HA HD HP HX HY HB0 ⊢
  clear hW hB
  refine (tfok_impl T _ _ _ _ _ hn hm HA.out HD.out).mono ?_
  rintro en w1 ⟨rfl, hb1⟩
  have HB1 := vl (HB0.out.trans (hb1.mono HB0.out.size))
  have HA1 := vl (HA.out.below hb1)
  have HP1 := vl (HP.out.below hb1)
  have HX1 := vl (HX.out.below hb1)
  have HY1 := vl (HY.out.below hb1)
  clear hb1 HA HD HP HX HY HB0
  obtain ⟨y0, y1⟩ := HY1.out
  cases hv : tfOk T with
  | false =>
    have H := vl (tollZ_no1 (U := U) hv)
    clear hv
    go_wp2
    go_ret
    exact ⟨ret_int H.out.symm, HB1.out⟩
  | true =>
    have HT := vl (tfIn_of hv)
    have HV := vl hv
    clear hv
    go_wp2_with fail
    refine (tok_impl up B e U _ hu HP1.out).mono ?_
    rintro en w2 ⟨rfl, hb2⟩
    have HB2 := vl (HB1.out.trans (hb2.mono HB1.out.size))
    have HA2 := vl (HA1.out.below hb2)
    have HP2 := vl (HP1.out.below hb2)
    have HX2 := vl (HX1.out.below hb2)
    have HY2 := vl (HY1.out.below hb2)
    clear hb2 HA1 HP1 HX1 HY1 HB1 y0 y1
    cases ho : tOk U with
    | false =>
      have H := vl (tollZ_no2 (T := T) ho)
      clear ho
      go_wp2
      go_ret
      exact ⟨ret_int H.out.symm, HB2.out⟩
    | true =>
      obtain ⟨k, hk, hk3⟩ := claT_in ho
      have HE := vl (show tollZ T U = T.b + T.p * lenT U * widT U / 100 + T.C k by unfold tollZ; rw [if_pos ⟨HV.out, ho⟩, hk, Int.toNat_natCast])
      obtain ⟨l9, HL⟩ : ∃ z, Veil (lenT U = z) := ⟨_, vl rfl⟩
      obtain ⟨w9, HW⟩ : ∃ z, Veil (widT U = z) := ⟨_, vl rfl⟩
      obtain ⟨x9, HX9⟩ : ∃ z, Veil (T.C k = z) := ⟨_, vl rfl⟩
      have hl : 0 ≤ l9 ∧ l9 ≤ 1200 := by rw [← HL.out]; exact lenT_in U
      have hw : 0 ≤ w9 ∧ w9 ≤ 180 := by rw [← HW.out]; exact widT_in U
      have hx : 0 ≤ x9 ∧ x9 ≤ 10000 := by rw [← HX9.out]; exact HT.out.c k hk3
      obtain ⟨m10, m11⟩ := mul_in HT.out.p0 HT.out.p1 hl.1 hl.2
      obtain ⟨m20, m21⟩ := mul_in m10 m11 hw.1 hw.2
      have hd0 : 0 ≤ T.p * l9 * w9 / 100 := by generalize T.p * l9 * w9 = z at m20 m21 ⊢; omega
      have hd1 : T.p * l9 * w9 / 100 ≤ 216000 := by generalize T.p * l9 * w9 = z at m20 m21 ⊢; omega
      obtain ⟨hx0, hx1⟩ := hx
      have k0 : (0 : Int) ≤ (k : Int) := by omega
      have k3 : (k : Int) < 3 := by omega
      have hb0 := HT.out.b0
      have hb1 := HT.out.b1
      have HK := vl hk
      have h3 := HT.out.n3
      obtain ⟨g, hg, hc⟩ := HA2.out (by omega)
      have z0 := hc k (by omega)
      rw [HX9.out] at z0
      have HE' := vl (HE.out.trans (by rw [HL.out, HW.out, HX9.out]))
      obtain ⟨x0, x1, x2, x3⟩ := HX2.out.at
      rw [h3] at x2
      subst hg
      obtain ⟨y0, y1⟩ := HY2.out
      clear ho hk HE hc x3 hl hw HX2 HY2 HA2 h3
      go_wp2
      go_region_held3 (fun w' => w'.cell? ⟨w.heap.size, 0, none⟩ = some (.int .i64 T.b) ∧ w'.cell? ⟨w.heap.size, 1, none⟩ = some (.int .i64 T.p) ∧ w'.cell? ⟨w.heap.size, 2, none⟩ = some (.slice (some ⟨g, 0, none⟩) 3 c) ∧ w'.cell? ⟨w.heap.size + 1, 0, none⟩ = some (.bool up) ∧ w'.cell? ⟨w.heap.size + 1, 1, none⟩ = some (.slice B U.length e) ∧ w'.cell? ⟨g, k, none⟩ = some (.int .i64 x9) ∧ Below w2.heap.size w2 w')
        (first | exact ⟨x0, x1, x2, y0, y1, z0, Below.refl _ _⟩ | exact ⟨x0, x1, x2, y0, y1, z0, (Below.refl _ _).drew⟩ | assumption)
        (first
      | (go_at_call 90; obtain ⟨q0, q1, q2, q3, q4, q5, hb7⟩ : _ ∧ _ ∧ _ ∧ _ ∧ _ ∧ _ ∧ Below w2.heap.size w2 _ := by assumption
         refine (len_impl up B e U _ hu (HP2.out.below hb7)).mono ?_
         rintro en w' ⟨rfl, hb'⟩
         rw [HL.out]
         have S0 := And.intro ((hb'.cell (cell_lt' q0)).trans q0) (And.intro ((hb'.cell (cell_lt' q1)).trans q1) (And.intro ((hb'.cell (cell_lt' q2)).trans q2) (And.intro ((hb'.cell (cell_lt' q3)).trans q3) (And.intro ((hb'.cell (cell_lt' q4)).trans q4) (And.intro ((hb'.cell (cell_lt' q5)).trans q5) (hb7.trans (hb'.mono hb7.size)))))))
         clear hb')
      | (go_at_call 91; obtain ⟨q0, q1, q2, q3, q4, q5, hb7⟩ : _ ∧ _ ∧ _ ∧ _ ∧ _ ∧ _ ∧ Below w2.heap.size w2 _ := by assumption
         refine (wid_impl up B e U _ hu (HP2.out.below hb7)).mono ?_
         rintro en w' ⟨rfl, hb'⟩
         rw [HW.out]
         have S1 := And.intro ((hb'.cell (cell_lt' q0)).trans q0) (And.intro ((hb'.cell (cell_lt' q1)).trans q1) (And.intro ((hb'.cell (cell_lt' q2)).trans q2) (And.intro ((hb'.cell (cell_lt' q3)).trans q3) (And.intro ((hb'.cell (cell_lt' q4)).trans q4) (And.intro ((hb'.cell (cell_lt' q5)).trans q5) (hb7.trans (hb'.mono hb7.size)))))))
         clear hb')
      | (go_at_call 92; obtain ⟨q0, q1, q2, q3, q4, q5, hb7⟩ : _ ∧ _ ∧ _ ∧ _ ∧ _ ∧ _ ∧ Below w2.heap.size w2 _ := by assumption
         refine (cla_impl up B e U _ hu (HP2.out.below hb7)).mono ?_
         rintro en w' ⟨rfl, hb'⟩
         rw [HK.out]
         have S2 := And.intro ((hb'.cell (cell_lt' q0)).trans q0) (And.intro ((hb'.cell (cell_lt' q1)).trans q1) (And.intro ((hb'.cell (cell_lt' q2)).trans q2) (And.intro ((hb'.cell (cell_lt' q3)).trans q3) (And.intro ((hb'.cell (cell_lt' q4)).trans q4) (And.intro ((hb'.cell (cell_lt' q5)).trans q5) (hb7.trans (hb'.mono hb7.size)))))))
         clear hb'))
      all_goals
        obtain ⟨q0, q1, q2, q3, q4, q5, hb9⟩ : _ ∧ _ ∧ _ ∧ _ ∧ _ ∧ _ ∧ Below w2.heap.size w2 _ := by assumption
        go_wp2
        go_ret
        exact ⟨ret_int ((toll_wrap hb0 hb1 m10 m11 m20 m21 hx0 hx1).trans HE'.out.symm), HB2.out.trans (hb9.mono HB2.out.size)⟩
end Go.Proofs.Ytngmpimoebggdaa.C1
