/- Settlements of the program and of its model. -/
import Derived.Test.YtngmpimoebggdaaStlM
import Derived.Test.YtngmpimoebggdaaTfO
import Derived.Test.YtngmpimoebggdaaApp
import Derived.StillTailTactics
namespace Go.Proofs.Ytngmpimoebggdaa.C1
open Go.ChangeShapes Go.WideShapes Go.ChangeAt Go.RowKit Go.Proofs.Ytngmpimoebggdaa.ShareM
set_option linter.unusedVariables false

theorem inAll_rng (Z : Nat → Int) : ∀ n, rngTo Z (-1000000000) 1000000000 n = inAll Z n
  | 0 => rfl
  | n + 1 => by unfold rngTo inAll; rw [inAll_rng Z n]
theorem own_set {w : World} {B n size g j : Nat} {e : TypeId} {v u : Value} {xs : List Value} (h : w.ownsRow B e size v n xs) (hne : ∀ k, v.ownBlock = some k → k ≠ g) : (w.setCell ⟨g, j, none⟩ u).ownsRow B e size v n xs :=
  h.kept (grown_set (World.grownBy.refl w (some g))) (by
    cases hv : v.ownBlock with
    | none => exact .inl rfl
    | some k => exact .inr (by intro e; injection e with e; exact hne k hv e))
/-- What a function that gives entries leaves. -/
def GivesE (w : World) (E : List En) (e : Ending) (w' : World) : Prop :=
  (∃ A' c' g, e = .returned (.slice A' E.length c') ∧ RowE w' A' E g ∧ Free w' (E.length * 5) g ∧ w.heap.size ≤ g ∧ (0 < E.length → g < w'.heap.size)) ∧ Below w.heap.size w w'
theorem givesE_none {w w' : World} {A : Option Addr} {c : Nat} (hb : Below w.heap.size w w') : GivesE w [] (.returned (.slice A 0 c)) w' :=
  ⟨⟨A, c, w.heap.size, rfl, ⟨fun h => absurd h (by simp), fun i b hi => by simp at hi⟩, fun i hi => absurd hi (by simp), Nat.le_refl _, fun h => absurd h (by simp)⟩, hb⟩
theorem givesE_own {w w' : World} {B : Nat} {v : Value} {E : List En} (h : w'.ownsRow B 136 5 v E.length (enl E)) (hB : w.heap.size ≤ B) (hB' : B ≤ w'.heap.size) (hb : Below w.heap.size w w') : GivesE w E (.returned v) w' := by
  obtain ⟨A, c, g, rfl, _, h1, h2, h3, h4⟩ := rowE_of_own h hB'
  exact ⟨⟨A, c, g, rfl, h1, h2, by omega, h4⟩, hb⟩
theorem RowI.grown {w w' : World} {A : Option Addr} {n g : Nat} {Z : Nat → Int} {row : Option Nat} (h : RowI w A n g Z) (hg : w.grownBy w' row) (hne : 0 < n → some g ≠ row) : RowI w' A n g Z :=
  ⟨h.1, fun i hi => hg.cell (h.2 i hi) (hne (by omega))⟩
theorem Free.grown {w w' : World} {n g : Nat} {row : Option Nat} (h : Free w n g) (hl : 0 < n → g < w.heap.size) (hg : w.grownBy w' row) (hne : 0 < n → some g ≠ row) : Free w' n g := fun i hi => by
  have e := hg.block g (hl (by omega)) (hne (by omega))
  have := h i hi
  unfold World.frozen? at *
  rw [e]; exact this
theorem RowI.upd {w : World} {A : Option Addr} {n g k : Nat} {Z : Nat → Int} (h : RowI w A n g Z) (hk : k < n) (x : Int) : RowI (w.setCell ⟨g, k, none⟩ (.int .i64 x)) A n g (upd Z k x) := by
  refine ⟨h.1, fun i hi => ?_⟩
  by_cases e : i = k
  · subst e
    rw [upd_at]
    exact World.cell?_setCell_same _ _ _ (h.2 i hi)
  · rw [upd_ne e]
    exact (World.cell?_setCell_other _ _ _ _ (by intro h; injection h with _ h; omega)).trans (h.2 i hi)
theorem Free.setI {w : World} {n g : Nat} (h : Free w n g) (a : Addr) (u : Value) : Free (w.setCell a u) n g := fun i hi => by rw [World.frozen?_setCell]; exact h i hi
theorem news_e (w : World) (b : En) (t : TypeId) : ∀ (j : Nat) (u : Value), b.cells[j]? = some u → (w.alloc (.cells #[.int .i64 b.f, .int .i64 b.t, .int .i64 b.a, .int .i64 b.m, .int .i64 b.y] t)).cell? ((⟨w.heap.size, 0, none⟩ : Addr).add j) = some u := fun j u h => by
  have hj : j < 5 := by have := (List.getElem?_eq_some_iff.1 h).1; simpa [En.cells] using this
  match j, hj with
  | 0, _ => simp [En.cells] at h; subst h; simp [Addr.add]
  | 1, _ => simp [En.cells] at h; subst h; simp [Addr.add]
  | 2, _ => simp [En.cells] at h; subst h; simp [Addr.add]
  | 3, _ => simp [En.cells] at h; subst h; simp [Addr.add]
  | 4, _ => simp [En.cells] at h; subst h; simp [Addr.add]
theorem news_e' (w : World) (q : Nat) (b : En) (t : TypeId) (hq : q = w.heap.size) : ∀ (j : Nat) (u : Value), b.cells[j]? = some u → (w.alloc (.cells #[.int .i64 b.f, .int .i64 b.t, .int .i64 b.a, .int .i64 b.m, .int .i64 b.y] t)).cell? ((⟨q, 0, none⟩ : Addr).add j) = some u := by
  subst hq; exact news_e w b t
theorem en_one (b : En) : ∀ u ∈ b.cells, u.oneCell' = true := fun u hu => by
  simp [En.cells] at hu
  rcases hu with rfl | rfl | rfl | rfl | rfl <;> rfl
theorem src_g {w : World} {A : Option Addr} {n : Nat} {Z : Nat → Int} (h : SrcG w A n Z) : 0 < n → ∃ ad, A = some ad ∧ ∀ j u, (itl n Z)[j]? = some u → w.cell? (ad.add j) = some u := fun hn => by
  obtain ⟨g, e, hc⟩ := h hn
  refine ⟨_, e, fun j u hu => ?_⟩
  have hj : j < n := by have := (List.getElem?_eq_some_iff.1 hu).1; rwa [itl_len] at this
  rw [itl_at hj] at hu
  injection hu with hu
  subst hu
  have e' : (⟨g, 0, none⟩ : Addr).add j = ⟨g, j, none⟩ := by unfold Addr.add; split <;> simp_all
  rw [e']
  exact hc j hj
def lenV : Value → Nat
  | .slice _ n _ => n
  | _ => 0
set_option maxHeartbeats 1000000 in
theorem can_impl (A : Option Addr) (n c : Nat) (Z : Nat → Int) (w : World) (hn : n ≤ 1048576) (hs : SrcG w A n Z) :
    Calls Try.prog 104 #[.slice A n c] w (GivesB w (canZ n Z)) := by
  have HP := vl hs
  clear hs
  by_cases h12 : 12 < n
  · have H := vl (can_len (Z := Z) h12)
    go_enter Try.func104, Try.ntmps104
    go_wp2
    go_ret
    exact ⟨ret_bool H.out.symm, Below.refl _ _⟩
  have b12 : n ≤ 12 := by omega
  have b12' : (n : Int) ≤ 12 := by omega
  clear h12
  cases hr : inAll Z n with
  | false =>
    have H := vl (show canZ n Z = false by unfold canZ; rw [hr, Bool.false_and, Bool.and_false])
    have HR := vl ((inAll_rng Z n).trans hr)
    clear hr
    go_enter Try.func104, Try.ntmps104
    go_wp2_with fail
    refine (allw_impl _ _ _ Z (-1000000000) 1000000000 _ hn HP.out _ HR.out).mono ?_
    rintro e w1 ⟨rfl, hb1⟩
    have HB1 := vl hb1
    clear hb1
    go_wp2
    go_ret
    exact ⟨ret_bool H.out.symm, HB1.out⟩
  | true =>
    have H := vl (can_sum b12 hr)
    have HA := vl hr
    have HR := vl ((inAll_rng Z n).trans hr)
    clear hr
    go_enter Try.func104, Try.ntmps104
    go_wp2_with fail
    refine (allw_impl _ _ _ Z (-1000000000) 1000000000 _ hn HP.out _ HR.out).mono ?_
    rintro e w1 ⟨rfl, hb1⟩
    have HB1 := vl hb1
    have HP1 := vl (HP.out.below hb1)
    clear hb1
    go_wp2
    go_loop [3, 16] (fun s i => ∃ k : Nat, k ≤ n ∧ i = .int .i64 k ∧ s = .int .i64 (sumTo Z k)) (fun _ i => n - (intOf i).toNat)
    case atStart => exact ⟨0, by omega, rfl, rfl⟩
    case round =>
      obtain ⟨k, hk, rfl, rfl⟩ := hrel
      obtain ⟨s0, s1⟩ := sum_inAll (Z := Z) (k := k) (inAll_iff.2 fun i hi => inAll_iff.1 HA.out i (by omega)) (by omega)
      by_cases hlt : k < n
      · obtain ⟨g, rfl, hc⟩ := HP1.out (by omega)
        have c0 := hc k hlt
        obtain ⟨z0, z1⟩ := inB_iff.1 (inAll_iff.1 HA.out k hlt)
        clear hc
        go_wp2
        go_round
        case rel => exact ⟨k + 1, by omega, by go_num, rfl⟩
        case measure => simp [intOf]; omega
      · obtain rfl : k = n := by omega
        generalize sumTo Z k = z at H s0 s1 ⊢
        by_cases h0 : z = 0
        · have H6 := vl (H.out.trans (decide_eq_true h0))
          go_wp2
          go_ret
          exact ⟨ret_bool (by first | exact H6.out.symm | (rw [H6.out]; simp; omega)), HB1.out⟩
        · have H6 := vl (H.out.trans (decide_eq_false h0))
          go_wp2
          go_ret
          exact ⟨ret_bool (by first | exact H6.out.symm | (rw [H6.out]; simp; omega)), HB1.out⟩
theorem clone_z (A : Option Addr) (n c : Nat) (w : World) (hn : n ≤ 1048576) (Z : Nat → Int) (hp : SrcG w A n Z) :
    Calls Try.prog 105 #[.slice A n c] w fun e w' => (∃ A' c' g, e = .returned (.slice A' n c') ∧ RowI w' A' n g Z ∧ Free w' n g ∧ w.heap.size ≤ g ∧ (0 < n → g < w'.heap.size)) ∧ Below w.heap.size w w' := by
  obtain ⟨i0, hi, hz0, hz1, hz2⟩ := info_parts infoI
  have HP := vl (src_g hp)
  clear hp
  go_enter Try.func105, Try.ntmps105
  go_wp2_with (at_builtin; refine wpList_app rfl _ _ 47 rfl w.heap.size 3 i0 _ 1 8 Try.underlying47 hi hz0 hz1 hz2 rfl (by decide) _ _ _ rfl (own_nil _ _ _ _) A n c (itl n Z) rfl (by rw [itl_len]; omega) HP.out itl_one ?c3 ?c4 (Nat.le_refl _) ?_)
  case c3 => unfold maxLen; omega
  case c4 => omega
  intro v' w1 hown hgr
  have hb : Below w.heap.size w w1 := below_none hgr
  obtain ⟨A', c', g, rfl, _, h1, h2, h3, h4⟩ := rowI_of_own hown hb.size
  have H := vl (And.intro h1 (And.intro h2 (And.intro h3 h4)))
  have HB := vl hb
  clear hown hgr h1 h2 h3 h4 hb hi hz0 hz1 hz2
  go_wp2
  go_ret
  exact ⟨⟨A', c', g, rfl, H.out⟩, HB.out⟩
theorem uns_impl (x : Int) (w : World) : Calls Try.prog 106 #[.int .i64 x] w fun e w' => e = .returned (.bool (!decide (x = 0))) ∧ w = w' := by
  by_cases h : x = 0
  · subst h
    go_enter Try.func106, Try.ntmps106
    go_wp2
    go_ret
    exact ⟨rfl, rfl⟩
  · have H := vl (show (!decide (x = 0)) = true by simp [h])
    go_enter Try.func106, Try.ntmps106
    go_wp2
    go_ret
    exact ⟨ret_bool (by first | exact H.out.symm | (rw [H.out]; simp [h])), rfl⟩
set_option maxHeartbeats 1000000 in
theorem zany_no (A : Option Addr) (n c : Nat) (Z : Nat → Int) (w : World) (hn : n ≤ 1048576) (hs : SrcG w A n Z) (ho : ∀ i, i < n → Z i = 0) :
    Calls Try.prog 107 #[.slice A n c, .func (Fn.func 106) #[] #[]] w fun e w' => e = .returned (.bool false) ∧ w = w' := by
  have HP := vl hs
  have HO := vl ho
  clear hs ho
  have HI : Veil (Calls Try.prog 169 #[.slice A n c, .func (Fn.func 106) #[] #[]] w fun e w' => e = .returned (.int .i64 (-1)) ∧ w = w') := vl (by
    go_enter Try.func169, Try.ntmps169
    go_wp2
    go_loop [8] (fun i => ∃ k : Nat, k ≤ n ∧ i = .int .i64 k) (fun i => n - (intOf i).toNat)
    case atStart => exact ⟨0, by omega, rfl⟩
    case round =>
      obtain ⟨k, hk, rfl⟩ := hrel
      by_cases hlt : k < n
      · obtain ⟨g, rfl, hc⟩ := HP.out (by omega)
        have c0 := hc k hlt
        have HK := vl (HO.out k hlt)
        clear hc
        go_wp2_with (go_at_call 106; refine (uns_impl _ _).mono ?_; rintro e w' ⟨rfl, rfl⟩; rw [decide_eq_true HK.out])
        go_round
        case rel => exact ⟨k + 1, by omega, by go_num⟩
        case measure => simp [intOf]; omega
      · go_wp2
        go_ret
        exact ⟨rfl, rfl⟩)
  go_enter Try.func107, Try.ntmps107
  go_wp2_with fail
  refine HI.out.mono ?_
  rintro e w1 ⟨rfl, rfl⟩
  go_wp2
  go_ret
  exact ⟨rfl, rfl⟩
set_option maxHeartbeats 1000000 in
theorem zany_yes (A : Option Addr) (n c : Nat) (Z : Nat → Int) (w : World) (hn : n ≤ 1048576) (hs : SrcG w A n Z) (j : Nat) (hj : j < n) (ho : Z j ≠ 0) :
    Calls Try.prog 107 #[.slice A n c, .func (Fn.func 106) #[] #[]] w fun e w' => e = .returned (.bool true) ∧ w = w' := by
  have HP := vl hs
  have HO := vl ho
  clear hs ho
  have HI : Veil (Calls Try.prog 169 #[.slice A n c, .func (Fn.func 106) #[] #[]] w fun e w' => (∃ k : Nat, e = .returned (.int .i64 (k : Int))) ∧ w = w') := vl (by
    go_enter Try.func169, Try.ntmps169
    go_wp2
    go_loop [8] (fun i => ∃ k : Nat, k ≤ j ∧ i = .int .i64 k) (fun i => n - (intOf i).toNat)
    case atStart => exact ⟨0, by omega, rfl⟩
    case round =>
      obtain ⟨k, hk, rfl⟩ := hrel
      have hlt : k < n := by omega
      obtain ⟨g, rfl, hc⟩ := HP.out (by omega)
      have c0 := hc k hlt
      clear hc
      by_cases h0 : Z k = 0
      · have HK := vl h0
        have hne : k ≠ j := fun e => HO.out (by rw [← e]; exact h0)
        clear h0
        go_wp2_with (go_at_call 106; refine (uns_impl _ _).mono ?_; rintro e w' ⟨rfl, rfl⟩; rw [decide_eq_true HK.out])
        go_round
        case rel => exact ⟨k + 1, by omega, by go_num⟩
        case measure => simp [intOf]; omega
      · have HK := vl h0
        clear h0
        go_wp2_with (go_at_call 106; refine (uns_impl _ _).mono ?_; rintro e w' ⟨rfl, rfl⟩; rw [decide_eq_false HK.out])
        go_ret
        exact ⟨⟨k, rfl⟩, rfl⟩)
  go_enter Try.func107, Try.ntmps107
  go_wp2_with fail
  refine HI.out.mono ?_
  rintro e w1 ⟨⟨k, rfl⟩, rfl⟩
  have k0 : (0 : Int) ≤ (k : Int) := by omega
  go_wp2
  go_ret
  exact ⟨rfl, rfl⟩
set_option maxHeartbeats 1000000 in
theorem max_impl (A : Option Addr) (n c : Nat) (Z : Nat → Int) (w : World) (hn : n ≤ 1048576) (h0 : 0 < n) (hs : SrcG w A n Z) :
    Calls Try.prog 170 #[.slice A n c] w fun e w' => e = .returned (.int .i64 (Z (hiTo Z n))) ∧ w = w' := by
  obtain ⟨g, rfl, hc⟩ := hs h0
  have c00 := hc 0 h0
  have HC := vl hc
  have n1 : ¬ (n : Int) < 1 := by omega
  have n0 : (0 : Int) < (n : Int) := by omega
  clear hs hc
  go_enter Try.func170, Try.ntmps170
  go_wp2
  go_loop [3, 4] (fun m i => ∃ k : Nat, 1 ≤ k ∧ k ≤ n ∧ i = .int .i64 k ∧ m = .int .i64 (Z (hiTo Z k))) (fun _ i => n - (intOf i).toNat)
  case atStart => exact ⟨1, by omega, by omega, rfl, by unfold hiTo hiTo; rw [if_neg (Int.lt_irrefl _)]⟩
  case round =>
    obtain ⟨k, hk1, hk, rfl, rfl⟩ := hrel
    by_cases hlt : k < n
    · have c0 := HC.out k hlt
      go_wp2
      go_round
      case rel =>
        refine ⟨k + 1, by omega, by omega, by go_num, ?_⟩
        rw [hiTo]
        by_cases h : Z (hiTo Z k) < Z k
        · (simp only [if_pos h]) <;> (try congr 1) <;> (try omega)
        · (simp only [if_neg h]) <;> (try congr 1) <;> (try omega)
      case measure => simp [intOf]; omega
    · obtain rfl : k = n := by omega
      go_wp2
      go_ret
      exact ⟨rfl, rfl⟩
set_option maxHeartbeats 1000000 in
theorem min_impl (A : Option Addr) (n c : Nat) (Z : Nat → Int) (w : World) (hn : n ≤ 1048576) (h0 : 0 < n) (hs : SrcG w A n Z) :
    Calls Try.prog 171 #[.slice A n c] w fun e w' => e = .returned (.int .i64 (Z (loTo Z n))) ∧ w = w' := by
  obtain ⟨g, rfl, hc⟩ := hs h0
  have c00 := hc 0 h0
  have HC := vl hc
  have n1 : ¬ (n : Int) < 1 := by omega
  have n0 : (0 : Int) < (n : Int) := by omega
  clear hs hc
  go_enter Try.func171, Try.ntmps171
  go_wp2
  go_loop [3, 4] (fun m i => ∃ k : Nat, 1 ≤ k ∧ k ≤ n ∧ i = .int .i64 k ∧ m = .int .i64 (Z (loTo Z k))) (fun _ i => n - (intOf i).toNat)
  case atStart => exact ⟨1, by omega, by omega, rfl, by rw [lo_succ, if_neg (by show ¬ Z 0 < Z 0; omega)]; rfl⟩
  case round =>
    obtain ⟨k, hk1, hk, rfl, rfl⟩ := hrel
    by_cases hlt : k < n
    · have c0 := HC.out k hlt
      go_wp2
      go_round
      case rel =>
        refine ⟨k + 1, by omega, by omega, by go_num, ?_⟩
        rw [lo_succ]
        by_cases h : Z k < Z (loTo Z k)
        · (simp only [if_pos h]) <;> (try congr 1) <;> (try omega)
        · (simp only [if_neg h]) <;> (try congr 1) <;> (try omega)
      case measure => simp [intOf]; omega
    · obtain rfl : k = n := by omega
      go_wp2
      go_ret
      exact ⟨rfl, rfl⟩
set_option maxHeartbeats 1000000 in
theorem idx_impl (A : Option Addr) (n c : Nat) (Z : Nat → Int) (v : Int) (h : Nat) (w : World) (hn : n ≤ 1048576) (hs : SrcG w A n Z) (hh : h < n) (hv : Z h = v) (hf : ∀ i, i < h → Z i ≠ v) :
    Calls Try.prog 172 #[.slice A n c, .int .i64 v] w fun e w' => e = .returned (.int .i64 (h : Int)) ∧ w = w' := by
  obtain ⟨g, rfl, hc⟩ := hs (by omega)
  have HC := vl hc
  have HV := vl hv
  have HF := vl hf
  clear hs hc hv hf
  go_enter Try.func172, Try.ntmps172
  go_wp2
  go_loop [8] (fun i => ∃ k : Nat, k ≤ h ∧ i = .int .i64 k) (fun i => n - (intOf i).toNat)
  case atStart => exact ⟨0, by omega, rfl⟩
  case round =>
    obtain ⟨k, hk, rfl⟩ := hrel
    have hlt : k < n := by omega
    have c0 := HC.out k hlt
    by_cases he : k = h
    · subst he
      rw [HV.out] at c0
      go_wp2
      go_ret
      exact ⟨rfl, rfl⟩
    · have hne := HF.out k (by omega)
      have hne' : ¬ v = Z k := fun e => hne e.symm
      go_wp2
      go_round
      case rel => exact ⟨k + 1, by omega, by go_num⟩
      case measure => simp [intOf]; omega
set_option maxRecDepth 100000 in
set_option maxHeartbeats 1000000 in
theorem gtl_impl (A : Option Addr) (n c : Nat) (Z : Nat → Int) (w : World) (hI : StI Z n) (ho : owes Z n) (hs : SrcG w A n Z) :
    Calls Try.prog 108 #[.slice A n c] w fun e w' => e = .returned (.agg #[.int .i64 (hiTo Z n : Int), .int .i64 (loTo Z n : Int), .int .i64 (amtZ Z n), .int .i64 0, .int .i64 0]) ∧ Below w.heap.size w w' := by
  have hn : n ≤ 1048576 := by have := hI.n12; omega
  have h0 : 0 < n := ho.1
  obtain ⟨a1, a2, p, q, hne⟩ := hI.pos ho
  have b2 := hI.bd _ a2
  have HS := vl (hs.below ((Below.refl w.heap.size w).alloc (Nat.le_refl _) (.cells #[.int .i64 0, .int .i64 0, .int .i64 0, .int .i64 0, .int .i64 0] 136)))
  have HAm := vl (show amtZ Z n = min (Z (hiTo Z n)) (-Z (loTo Z n)) from rfl)
  have HF := vl (fun i (hi : i < hiTo Z n) => show Z i ≠ Z (hiTo Z n) by have := hi_first Z n i hi; omega)
  have HG := vl (fun i (hi : i < loTo Z n) => show Z i ≠ Z (loTo Z n) by have := lo_first Z n i hi; omega)
  obtain ⟨u, hu⟩ : ∃ u, Z (hiTo Z n) = u := ⟨_, rfl⟩
  obtain ⟨v, hv⟩ : ∃ v, Z (loTo Z n) = v := ⟨_, rfl⟩
  have HU := vl hu
  have HV := vl hv
  rw [hv] at b2
  obtain ⟨b3, b4⟩ := b2
  have A1 := vl a1
  have A2 := vl a2
  clear hs hu hv a1 a2 p q hne
  go_enter Try.func108, Try.ntmps108
  go_wp2_with (first
    | (go_at_call 170; refine (max_impl _ _ _ Z _ hn h0 HS.out).mono ?_; rintro e w' ⟨rfl, rfl⟩; rw [HU.out])
    | (go_at_call 171; refine (min_impl _ _ _ Z _ hn h0 HS.out).mono ?_; rintro e w' ⟨rfl, rfl⟩; rw [HV.out]))
  refine (idx_impl _ _ _ Z u (hiTo Z n) _ hn HS.out A1.out HU.out (fun i hi => by have := HF.out i hi; rwa [HU.out] at this)).mono ?_
  rintro e w' ⟨rfl, rfl⟩
  go_wp2_with fail
  refine (idx_impl _ _ _ Z v (loTo Z n) _ hn HS.out A2.out HV.out (fun i hi => by have := HG.out i hi; rwa [HV.out] at this)).mono ?_
  rintro e w' ⟨rfl, rfl⟩
  go_wp2
  · have hA : amtZ Z n = -v := by have := HAm.out; rw [HU.out, HV.out] at this; omega
    rw [hA]
    refine bodyPost_ret (v := .agg #[.int .i64 (hiTo Z n : Int), .int .i64 (loTo Z n : Int), .int .i64 (-v), .int .i64 0, .int .i64 0]) (by simp [results, Try.results108, go_sem]) rfl ?_
    exact ⟨rfl, by (repeat' (first | (with_reducible exact Below.refl _ _) | (with_reducible refine Below.drew ?_) | (with_reducible refine Below.alloc ?_ ?_ _) | (with_reducible refine Below.setCell ?_ ?_ _) | (first | omega | (simp; omega) | (simp; done))))⟩
  · have hA : amtZ Z n = u := by have := HAm.out; rw [HU.out, HV.out] at this; omega
    rw [hA]
    refine bodyPost_ret (v := .agg #[.int .i64 (hiTo Z n : Int), .int .i64 (loTo Z n : Int), .int .i64 (u), .int .i64 0, .int .i64 0]) (by simp [results, Try.results108, go_sem]) rfl ?_
    exact ⟨rfl, by (repeat' (first | (with_reducible exact Below.refl _ _) | (with_reducible refine Below.drew ?_) | (with_reducible refine Below.alloc ?_ ?_ _) | (with_reducible refine Below.setCell ?_ ?_ _) | (first | omega | (simp; omega) | (simp; done))))⟩
set_option maxRecDepth 100000 in
set_option maxHeartbeats 8000000 in
theorem settle_impl (A : Option Addr) (n c : Nat) (Z : Nat → Int) (t : Int) (w : World) (hn : n ≤ 1048576) (hp : SrcG w A n Z) :
    Calls Try.prog 57 #[.slice A n c, .int .i64 t] w (GivesE w (settleL n Z t)) := by
  obtain ⟨i0, hi, hz0, hz1, hz2⟩ := info_parts infoE
  have HP := vl hp
  clear hp
  cases hc : canZ n Z with
  | false =>
    have HS := vl (settle_bad (t := t) hc)
    have HC := vl hc
    clear hc hi hz0 hz1 hz2
    go_enter Try.func57, Try.ntmps57
    go_wp2_with fail
    refine (can_impl _ _ _ Z _ hn HP.out).mono ?_
    rintro e w1 ⟨rfl, hb1⟩
    rw [HC.out]
    have HB1 := vl hb1
    clear hb1
    go_wp2
    go_ret
    rw [HS.out]
    exact givesE_none HB1.out
  | true =>
    have HC := vl hc
    have HI := vl (can_iff.1 hc)
    cases ht : inB t 0 1000000 with
    | false =>
      have HS := vl (settle_time (n := n) (Z := Z) ht)
      have HT := vl ht
      clear hc ht hi hz0 hz1 hz2
      go_enter Try.func57, Try.ntmps57
      go_wp2_with fail
      refine (can_impl _ _ _ Z _ hn HP.out).mono ?_
      rintro e w1 ⟨rfl, hb1⟩
      rw [HC.out]
      have HB1 := vl hb1
      clear hb1
      go_wp2_with (go_at_call 100; refine (time_i _ _).mono ?_; rintro e w' ⟨rfl, rfl⟩; rw [HT.out])
      go_ret
      rw [HS.out]
      exact givesE_none HB1.out
    | true =>
      have HS := vl (settle_ok hc ht)
      have HT := vl ht
      have n12 := HI.out.n12
      clear hc ht
      rw [HS.out]
      go_enter Try.func57, Try.ntmps57
      go_wp2_with fail
      refine (can_impl _ _ _ Z _ hn HP.out).mono ?_
      rintro e w1 ⟨rfl, hb1⟩
      rw [HC.out]
      have HB1 := vl hb1
      have HP1 := vl (HP.out.below hb1)
      clear hb1
      go_wp2_with (go_at_call 100; refine (time_i _ _).mono ?_; rintro e w' ⟨rfl, rfl⟩; rw [HT.out])
      refine (clone_z _ _ _ _ hn Z HP1.out).mono ?_
      rintro e w2 ⟨⟨A5, c5, g5, rfl, hr5, hf5, hg5, hl5⟩, hb2⟩
      have HB2 := vl (HB1.out.trans (hb2.mono HB1.out.size))
      have hs1 := HB1.out.size
      have hs2 := HB2.out.size
      have HR5 := vl hr5
      have HF5 := vl hf5
      have HL5 := vl hl5
      clear hb2 hr5 hf5 hl5
      go_wp2
      go_loopw [7] (fun v wr => ∃ (Y : Nat → Int) (f : Nat) (acc : List En), Veil (StR n t (setl n t 12 Z) Y f acc) ∧ Veil (Below w.heap.size w wr) ∧ Veil (w2.heap.size ≤ wr.heap.size) ∧ Veil (RowI wr A5 n g5 Y) ∧ Veil (Free wr n g5) ∧ Veil (wr.ownsRow w2.heap.size 136 5 v acc.length (enl acc))) (fun v _ => 13 - lenV v)
      case atStart => exact ⟨Z, 12, [], vl (StR.start HI.out), HB2, vl (Nat.le_refl _), HR5, HF5, vl (own_nil _ _ _ _)⟩
      case round =>
        obtain ⟨Y, f, acc, HSt, HB, HW, HR, HF, HO⟩ := hrel
        have hI := HSt.out.ok
        by_cases ho : owes Y n
        · obtain ⟨a1, a2, p, q, hne⟩ := hI.pos ho
          obtain ⟨b0, b1, b2, b3⟩ := hI.amt ho
          have c1 := hI.bd _ a1
          have c2 := hI.bd _ a2
          obtain ⟨hf, hst⟩ := HSt.out.step ho
          have HSt' := vl hst
          have hlen := HSt.out.len
          obtain ⟨V5, d5, g7, hv7, _, _⟩ := rowE_of_own HO.out HW.out
          subst hv7
          have HOW := vl ho
          have HII := vl hI
          have HAm := vl (show entZ Y n t = ⟨(hiTo Y n : Int), (loTo Y n : Int), amtZ Y n, t, 0⟩ from rfl)
          have HNx := vl (show nxtZ Y n = upd (upd Y (hiTo Y n) (Y (hiTo Y n) - amtZ Y n)) (loTo Y n) (Y (loTo Y n) + amtZ Y n) from rfl)
          have hY : Y (hiTo Y n) ≠ 0 := by omega
          have HYh := vl hY
          obtain ⟨c10, c11⟩ := c1
          obtain ⟨c20, c21⟩ := c2
          clear hI ho hst hY
          go_wp2_with fail
          refine (zany_yes _ _ _ Y _ hn HR.out.srcG (hiTo Y n) a1 HYh.out).mono ?_
          rintro e w' ⟨rfl, rfl⟩
          go_wp2_with fail
          refine (gtl_impl _ _ _ Y _ HII.out HOW.out HR.out.srcG).mono ?_
          rintro e w3 ⟨rfl, hb3⟩
          generalize hh : hiTo Y n = h at a1 p hne c10 c11 b1 HAm HNx HSt' ⊢
          generalize hl : loTo Y n = l at a2 q hne c20 c21 b2 HAm HNx HSt' ⊢
          generalize ha : amtZ Y n = a at b0 b1 b2 b3 HAm HNx HSt' ⊢
          generalize hx : Y h = x at p c10 c11 b1 HNx ⊢
          generalize hy : Y l = y at q c20 c21 b2 HNx ⊢
          have hn0 : 0 < n := by omega
          obtain rfl := HR.out.1 hn0
          have hl5 := HL5.out hn0
          have hh0 : (h : Int) < (n : Int) := by omega
          have hl0 : (l : Int) < (n : Int) := by omega
          have hrw : wr.heap.size ≤ w3.heap.size := hb3.size
          have hw2 := HW.out
          have n1 : w3.heap.size ≠ g5 := by omega
          have n2 : g5 ≠ w3.heap.size := by omega
          have HOk := vl (fun k hk => HO.out.lt k hk)
          have HB4 := vl ((HB.out.trans (hb3.mono HB.out.size)).alloc (Nat.le_trans HB.out.size hb3.size) (.cells #[.int .i64 (h : Int), .int .i64 (l : Int), .int .i64 a, .int .i64 0, .int .i64 0] 136))
          have HR4 := vl ((HR.out.below hb3).below ((Below.refl w3.heap.size w3).alloc (Nat.le_refl _) (.cells #[.int .i64 (h : Int), .int .i64 (l : Int), .int .i64 a, .int .i64 0, .int .i64 0] 136)))
          have HF4 := vl ((HF.out.below (fun _ => HR.out.lt hn0) hb3).below (fun _ => (HR.out.below hb3).lt hn0) ((Below.refl w3.heap.size w3).alloc (Nat.le_refl _) (.cells #[.int .i64 (h : Int), .int .i64 (l : Int), .int .i64 a, .int .i64 0, .int .i64 0] 136)))
          have HO4 := vl ((own_below HO.out hb3).alloc (.cells #[.int .i64 (h : Int), .int .i64 (l : Int), .int .i64 a, .int .i64 0, .int .i64 0] 136))
          have HX4 := vl (BxE.new w3 ⟨(h : Int), (l : Int), a, 0, 0⟩ 136)
          have HZ4 := vl (show (w3.alloc (.cells #[.int .i64 (h : Int), .int .i64 (l : Int), .int .i64 a, .int .i64 0, .int .i64 0] 136)).frozen? ⟨w3.heap.size, 3, none⟩ = false by simp)
          have hs4 : (w3.alloc (.cells #[.int .i64 (h : Int), .int .i64 (l : Int), .int .i64 a, .int .i64 0, .int .i64 0] 136)).heap.size = w3.heap.size + 1 := by simp
          clear hb3
          go_wp2
          generalize hW4 : w3.alloc (.cells #[.int .i64 (h : Int), .int .i64 (l : Int), .int .i64 a, .int .i64 0, .int .i64 0] 136) = W4 at HB4 HR4 HF4 HO4 HX4 HZ4 hs4 ⊢
          clear hW4
          obtain ⟨y0, y1, y2, y3, y4⟩ := HX4.out
          simp only at y0 y1 y2 y3 y4
          have c0 := HR4.out.2 h a1
          rw [hx] at c0
          have z0 := HF4.out h a1
          go_still_tail 9, (by kernel_rfl)
          change wpList _ _ _ _ _ W4.drew
          go_wp2
          have hne' : l ≠ h := fun e => hne e.symm
          have HO5 := vl (show ((W4.setCell ⟨g5, h, none⟩ (.int .i64 (x - a))).drew).ownsRow w2.heap.size 136 5 (.slice V5 acc.length d5) acc.length (enl acc) from own_set HO4.out (fun k hk => by have := HOk.out k hk; omega))
          have HB5 := vl (show Below w.heap.size w (W4.setCell ⟨g5, h, none⟩ (.int .i64 (x - a))).drew from (HB4.out.setCell (by show w.heap.size ≤ g5; omega) _).drew)
          have HR5 := vl (show RowI ((W4.setCell ⟨g5, h, none⟩ (.int .i64 (x - a))).drew) (some ⟨g5, 0, none⟩) n g5 (upd Y h (x - a)) from HR4.out.upd a1 _)
          have HF5 := vl (show Free ((W4.setCell ⟨g5, h, none⟩ (.int .i64 (x - a))).drew) n g5 from HF4.out.setI _ _)
          have HX5 := vl (show BxE ((W4.setCell ⟨g5, h, none⟩ (.int .i64 (x - a))).drew) w3.heap.size ⟨(h : Int), (l : Int), a, 0, 0⟩ from
            have e : ∀ j v, W4.cell? ⟨w3.heap.size, j, none⟩ = some v → (W4.setCell ⟨g5, h, none⟩ (.int .i64 (x - a))).cell? ⟨w3.heap.size, j, none⟩ = some v := fun j v hc => (World.cell?_setCell_other _ _ _ _ (by intro h; injection h with h; omega)).trans hc
            ⟨e _ _ y0, e _ _ y1, e _ _ y2, e _ _ y3, e _ _ y4⟩)
          have HZ5 := vl (show ((W4.setCell ⟨g5, h, none⟩ (.int .i64 (x - a))).drew).frozen? ⟨w3.heap.size, 3, none⟩ = false from (World.frozen?_setCell _ _ _ _).trans HZ4.out)
          have hs5 : ((W4.setCell ⟨g5, h, none⟩ (.int .i64 (x - a))).drew).heap.size = w3.heap.size + 1 := by rw [← hs4]; simp
          generalize hW5 : (W4.setCell ⟨g5, h, none⟩ (.int .i64 (x - a))).drew = W5 at HB5 HR5 HF5 HO5 HX5 HZ5 hs5 ⊢
          clear hW5 y0 y1 y2 y3 y4 c0 z0 HB4 HR4 HF4 HO4 HX4 HZ4 hs4
          obtain ⟨y0, y1, y2, y3, y4⟩ := HX5.out
          simp only at y0 y1 y2 y3 y4
          have c0 := HR5.out.2 l a2
          rw [upd_ne hne', hy] at c0
          have z0 := HF5.out l a2
          go_still_tail 9, (by kernel_rfl)
          change wpList _ _ _ _ _ W5.drew
          have HNA := vl (show ∀ k, (Value.slice V5 acc.length d5).ownBlock = some k → k ≠ g5 ∧ k ≠ w3.heap.size from fun k hk => by have := HOk.out k hk; omega)
          have HO6 := vl (show ((W5.setCell ⟨g5, l, none⟩ (.int .i64 (y + a))).setCell ⟨w3.heap.size, 3, none⟩ (.int .i64 t)).ownsRow w2.heap.size 136 5 (.slice V5 acc.length d5) acc.length (enl acc) from own_set (show (W5.setCell ⟨g5, l, none⟩ (.int .i64 (y + a))).ownsRow w2.heap.size 136 5 (.slice V5 acc.length d5) acc.length (enl acc) from own_set HO5.out (fun k hk => (HNA.out k hk).1)) (fun k hk => (HNA.out k hk).2))
          have HB6 := vl (show Below w.heap.size w ((W5.setCell ⟨g5, l, none⟩ (.int .i64 (y + a))).setCell ⟨w3.heap.size, 3, none⟩ (.int .i64 t)) from (HB5.out.setCell (by show w.heap.size ≤ g5; omega) _).setCell (by show w.heap.size ≤ w3.heap.size; omega) _)
          have HR6 := vl (show RowI ((W5.setCell ⟨g5, l, none⟩ (.int .i64 (y + a))).setCell ⟨w3.heap.size, 3, none⟩ (.int .i64 t)) (some ⟨g5, 0, none⟩) n g5 (nxtZ Y n) from by
            rw [HNx.out]
            exact RowI.grown (show RowI (W5.setCell ⟨g5, l, none⟩ (.int .i64 (y + a))) (some ⟨g5, 0, none⟩) n g5 (upd (upd Y h (x - a)) l (y + a)) from HR5.out.upd a2 _) (grown_set (World.grownBy.refl _ (some w3.heap.size))) (fun _ e => by injection e with e; exact n2 e))
          have HF6 := vl (show Free ((W5.setCell ⟨g5, l, none⟩ (.int .i64 (y + a))).setCell ⟨w3.heap.size, 3, none⟩ (.int .i64 t)) n g5 from Free.setI (show Free (W5.setCell ⟨g5, l, none⟩ (.int .i64 (y + a))) n g5 from HF5.out.setI _ _) _ _)
          have hs6 : ((W5.setCell ⟨g5, l, none⟩ (.int .i64 (y + a))).setCell ⟨w3.heap.size, 3, none⟩ (.int .i64 t)).heap.size = w3.heap.size + 1 := by rw [← hs5]; simp
          have z3 := HZ5.out
          have y0a : -2000000000 ≤ y + a := by omega
          have y0b : y + a ≤ 2000000000 := by omega
          generalize hW6 : (W5.setCell ⟨g5, l, none⟩ (.int .i64 (y + a))).setCell ⟨w3.heap.size, 3, none⟩ (.int .i64 t) = W6 at HO6 HB6 HR6 HF6 hs6
          have HW6 := vl hW6
          clear hW6
          go_wp2_with (at_builtin; (rw [HW6.out]; refine wpList_app rfl _ _ 71 rfl w2.heap.size 136 i0 _ 5 40 Try.underlying71 hi hz0 hz1 hz2 rfl (by decide) _ _ _ rfl (show (W6.alloc (.cells #[.int .i64 (h : Int), .int .i64 (l : Int), .int .i64 a, .int .i64 t, .int .i64 0] 136)).drew.ownsRow w2.heap.size 136 5 (.slice V5 acc.length d5) acc.length (enl acc) from HO6.out.alloc _) (some ⟨w3.heap.size + 1, 0, none⟩) 1 1 (En.cells ⟨(h : Int), (l : Int), a, t, 0⟩) rfl rfl (fun _ => ⟨_, rfl, ?c1⟩) ?c2 ?c3 ?c4 ?c5 ?_))
          case c1 => exact news_e' W6 _ ⟨(h : Int), (l : Int), a, t, 0⟩ _ hs6.symm
          case c2 => exact en_one _
          case c3 => unfold maxLen; omega
          case c4 => omega
          case c5 => simp; omega
          intro v' w7 hown hgr
          have HE9 := vl (show (w7.ownsRow w2.heap.size 136 5 v' (acc ++ [entZ Y n t]).length (enl (acc ++ [entZ Y n t]))) from by
            rw [enl_app, enl_one', HAm.out, List.length_append]; exact hown)
          have hb6s := HB6.out.size
          have HB7 := vl (Below.grown (show Below w.heap.size w ((W6.alloc (.cells #[.int .i64 (h : Int), .int .i64 (l : Int), .int .i64 a, .int .i64 t, .int .i64 0] 136)).drew) from (HB6.out.alloc HB6.out.size _).drew) hgr (by simp; omega) (fun k hk => by have := HOk.out k hk; omega))
          have hw7 := hgr.size
          have hlt6 := HR6.out.lt hn0
          have HR7 := vl (RowI.grown (show RowI ((W6.alloc (.cells #[.int .i64 (h : Int), .int .i64 (l : Int), .int .i64 a, .int .i64 t, .int .i64 0] 136)).drew) (some ⟨g5, 0, none⟩) n g5 (nxtZ Y n) from HR6.out.below ((Below.refl W6.heap.size W6).alloc (Nat.le_refl _) _).drew) hgr (fun _ e => by have := (HOk.out g5 e.symm).1; omega))
          have HF7 := vl (Free.grown (show Free ((W6.alloc (.cells #[.int .i64 (h : Int), .int .i64 (l : Int), .int .i64 a, .int .i64 t, .int .i64 0] 136)).drew) n g5 from HF6.out.below (fun _ => hlt6) ((Below.refl W6.heap.size W6).alloc (Nat.le_refl _) _).drew) (fun _ => by simp; omega) hgr (fun _ e => by have := (HOk.out g5 e.symm).1; omega))
          have hw27 : w2.heap.size ≤ w7.heap.size := by simp at hw7; omega
          obtain ⟨V9, d9, g9, hv9, _⟩ := rowE_of_own HE9.out hw27
          have HV9 := vl hv9
          clear hgr hown y0 y1 y2 y3 y4 c0 z0 z3 hw7
          go_wp2
          go_roundw
          case rel => exact ⟨nxtZ Y n, f - 1, acc ++ [entZ Y n t], HSt', HB7, vl hw27, HR7, HF7, HE9⟩
          case measure =>
            rw [HV9.out]
            simp only [lenV, List.length_append, List.length_cons, List.length_nil]
            omega
        · have HOW := vl (show ∀ i, i < n → Y i = 0 from by
            intro i hin
            have h0 : 0 < n := by omega
            have h1 : Y (hiTo Y n) = 0 := by
              by_cases e : Y (hiTo Y n) = 0
              · exact e
              · exact absurd ⟨h0, e⟩ ho
            exact sum_zero_of (fun j hj => by have := hi_ge Y n j hj; omega) hI.s i hin)
          have hdone := HSt.out.done ho
          have HD := vl hdone
          clear hI ho hdone
          go_wp2_with fail
          refine (zany_no _ _ _ Y _ hn HR.out.srcG HOW.out).mono ?_
          rintro e w' ⟨rfl, rfl⟩
          go_wp2
          go_ret
          rw [← HD.out]
          exact givesE_own HO.out (by omega) HW.out HB.out
end Go.Proofs.Ytngmpimoebggdaa.C1
