/-
  For every input the Go function 'laws.FnTables' returns true, and each argument reads afterwards as it read before. No further condition.
-/
import Derived.Test.YtafjichhahbihaaDTab
import Derived.Test.YtafjichhahbihaaPlace2
import Derived.Deep.RegionHeld3
import Derived.Test.YtafjichhahbihaaLift
import Derived.Test.YtafjichhahbihaaOpen
namespace Go.Proofs.Ytafjichhahbihaa.fnTables
open Go.Proofs.Ytafjichhahbihaa.C1 Go.Proofs.Ytafjichhahbihaa.Lift Go.Proofs.Ytafjichhahbihaa.Opened
open Go.ChangeShapes Go.WideShapes Go.ChangeAt Go.RowKit
set_option linter.unusedVariables false

theorem least_facts (f : Int → Bool) : ∀ (m : Nat) (lo : Int), f (lo + m) = true → f (leastFrom f lo m) = true ∧ lo ≤ leastFrom f lo m ∧ leastFrom f lo m ≤ lo + m ∧ ∀ u, lo ≤ u → u < leastFrom f lo m → f u = false := by
  intro m
  induction m with
  | zero => intro lo h; unfold leastFrom; exact ⟨by simpa using h, by omega, by omega, fun u h1 h2 => by omega⟩
  | succ m ih =>
    intro lo h
    unfold leastFrom
    cases hf : f lo with
    | true => rw [if_pos rfl]; exact ⟨hf, by omega, by omega, fun u h1 h2 => by omega⟩
    | false =>
      rw [if_neg (by decide)]
      obtain ⟨h1, h2, h3, h4⟩ := ih (lo + 1) (by rw [show lo + 1 + (m : Int) = lo + ((m + 1 : Nat) : Int) by omega]; exact h)
      refine ⟨h1, by omega, by omega, fun u hu hu' => ?_⟩
      rcases Int.lt_or_eq_of_le hu with h5 | h5
      · exact h4 u (by omega) hu'
      · rw [← h5]; exact hf
theorem place_facts {n : Nat} {X Y : Nat → Int} {y : Int} (h : placeB n X Y y = true) :
    X 0 ≤ placeZ n X Y y ∧ placeZ n X Y y ≤ X (n - 1) ∧ y ≤ valZ n X Y (placeZ n X Y y) ∧ (X 0 < placeZ n X Y y → valZ n X Y (placeZ n X Y y - 1) < y) := by
  have hh := h
  unfold placeB at hh
  rw [Bool.and_eq_true, decide_eq_true_eq] at hh
  have T := tabP_of hh.1
  have t2 := T.two
  have hx := T.x_lt (i := 0) (j := n - 1) (by omega) (by omega)
  have e : placeZ n X Y y = leastFrom (fun x => decide (y ≤ valZ n X Y x)) (X 0) (X (n - 1) - X 0).toNat := by unfold placeZ; rw [if_pos h]
  obtain ⟨h1, h2, h3, h4⟩ := least_facts (fun x => decide (y ≤ valZ n X Y x)) (X (n - 1) - X 0).toNat (X 0) (by
    rw [show X 0 + (((X (n - 1) - X 0).toNat : Nat) : Int) = X (n - 1) by omega, valZ_at hh.1 (by omega)]
    exact decide_eq_true hh.2)
  rw [← e] at h1 h2 h3 h4
  refine ⟨h2, by omega, of_decide_eq_true h1, fun h5 => ?_⟩
  have := of_decide_eq_false (h4 (placeZ n X Y y - 1) (by omega) (by omega))
  omega
theorem place_ok {n : Nat} {X Y : Nat → Int} {y : Int} (ht : tabOk n X Y = true) : placeB n X Y y = decide (y ≤ Y (n - 1)) := by unfold placeB; rw [ht]; rfl
theorem at_bd (a b : Int) (h0 : 0 ≤ a) (h1 : a ≤ 255) (h2 : 0 ≤ b) (h3 : b ≤ 255) : 0 ≤ a * b ∧ a * b ≤ 65025 := by
  have := Int.mul_le_mul h1 h3 h2 (by omega)
  exact ⟨Int.mul_nonneg h0 h2, by omega⟩
set_option maxRecDepth 100000 in
set_option maxHeartbeats 4000000 in
theorem walk (A : Option Addr) (n cap : Nat) (f : Nat → Int) (w : World) (hn : n ≤ 9223372036854775807) (hs : SrcB w A n f) :
    Calls Try.prog 5 #[.slice A n cap] w fun e w' => e = .returned (.bool true) ∧ Below w.heap.size w w' := by
  by_cases hbig : 1048576 < n
  · go_enter Try.func5, Try.ntmps5
    go_wp2_with (go_at_call 9; refine (big_yes _ _ _ _ hbig).mono ?_; rintro e w' ⟨rfl, rfl⟩)
    go_ret
    exact ⟨rfl, Below.refl _ _⟩
  have hl : n ≤ 1048576 := by omega
  have HS := Lib.hid hs
  clear hs hbig
  go_enter Try.func5, Try.ntmps5
  go_wp2_with fail
  refine (big_no _ _ _ _ hl).mono ?_; rintro e w' ⟨rfl, rfl⟩
  go_wp2_with fail
  refine (drawtable _ _ _ f _ hl HS.out).mono ?_
  rintro e w1 ⟨g, m, c, X, Y, rfl, hg, hp, ht, hx, hb⟩
  have T := tabP_of ht
  obtain ⟨t2, t20⟩ : 2 ≤ m ∧ m ≤ 20 := ⟨T.two, T.most⟩
  have hm : m ≤ 1048576 := by omega
  have X0 := T.x 0 (by omega)
  have HP := Lib.hid hp
  have HT := Lib.hid ht
  have HB := Lib.hid hb
  obtain ⟨g', o, e0, hc⟩ := hp (by omega)
  injection e0 with e0
  injection e0 with e1 e2 e3
  subst e1; subst e2
  simp only [Nat.zero_add] at hc
  have HC := Lib.hid hc
  obtain ⟨hx0, _⟩ := hc 0 (by omega)
  rw [Nat.zero_mul] at hx0
  obtain ⟨hx1, hy1⟩ := hc (m - 1) (by omega)
  have XL := T.x_lt (i := 0) (j := m - 1) (by omega) (by omega)
  clear hc hp ht hb e3
  go_wp2
  clear hx0 hx1 hy1
  go_loopw [6] (fun s wr => ∃ x : Int, s = .int .i64 x ∧ X 0 ≤ x ∧ x ≤ X (m - 1) ∧ Below w1.heap.size w1 wr) (fun s _ => (X (m - 1) - intOf s).toNat)
  case atStart => exact ⟨_, rfl, by omega, by omega, Below.refl _ _⟩
  case round =>
    obtain ⟨x, rfl, h0, h1, hbr⟩ := hrel
    have HR := Lib.hid hbr
    clear hbr
    by_cases hlt : x < X (m - 1)
    · have hmo : valZ m X Y x ≤ valZ m X Y (x + 1) := valZ_mono HT.out h0 (by omega) (by omega)
      go_wp2_with fail
      refine (val_impl _ _ _ _ _ hm X Y (HP.out.below HR.out)).mono ?_
      rintro e w2 ⟨rfl, hb2⟩
      have HR2 := Lib.hid (HR.out.trans (hb2.mono HR.out.size))
      clear hb2
      go_wp2_with fail
      refine (val_impl _ _ _ _ _ hm X Y (HP.out.below HR2.out)).mono ?_
      rintro e w3 ⟨rfl, hb3⟩
      have HR3 := Lib.hid (HR2.out.trans (hb3.mono HR2.out.size))
      clear hb3
      go_wp2
      go_roundw
      case rel => exact ⟨x + 1, rfl, by omega, by omega, HR3.out⟩
      case measure => simp [intOf]; omega
    · go_wp2
      go_loopw [7] (fun s wr => ∃ k : Nat, s = .int .i64 k ∧ k ≤ 12 ∧ Below w1.heap.size w1 wr) (fun s _ => 12 - (intOf s).toNat)
      case atStart => exact ⟨0, rfl, by omega, HR.out⟩
      case round =>
        obtain ⟨k, rfl, hk, hbr⟩ := hrel
        have HR' := Lib.hid hbr
        clear hbr
        by_cases hlt2 : k < 12
        · have u0 := atZ_bd HS.out (k : Int)
          have u1 := atZ_bd HS.out ((k : Int) + 1)
          have u2 := at_bd _ _ u0.1 u0.2 u1.1 u1.2
          go_wp2_with (go_at_call 12; refine (at_law _ _ _ _ _ f hl (by omega) (by omega) (HS.out.below (HB.out.trans (HR'.out.mono HB.out.size)))).mono ?_; rintro e w' ⟨rfl, rfl⟩)
          have y0 : 0 ≤ atZ n f (k : Int) * atZ n f ((k : Int) + 1) % 4000 := Int.emod_nonneg _ (by decide)
          have y1 : atZ n f (k : Int) * atZ n f ((k : Int) + 1) % 4000 < 4000 := Int.emod_lt_of_pos _ (by decide)
          generalize atZ n f (k : Int) * atZ n f ((k : Int) + 1) % 4000 = y at y0 y1 ⊢
          refine (place_impl _ _ _ _ _ hm X Y (HP.out.below HR'.out)).mono ?_
          rintro e w2 ⟨rfl, hb2⟩
          have HR2 := Lib.hid (HR'.out.trans (hb2.mono HR'.out.size))
          clear hb2
          obtain ⟨_, hy1⟩ := HC.out (m - 1) (by omega)
          have hy1' := (HR2.out.cell (p := ⟨g, (m - 1) * 2 + 1, none⟩) hg).trans hy1
          clear hy1
          have hbl := place_ok (y := y) HT.out
          by_cases hy : y ≤ Y (m - 1)
          · have hbt : placeB m X Y y = true := by rw [hbl]; exact decide_eq_true hy
            obtain ⟨p0, p1, p2, p3⟩ := place_facts hbt
            have P3 := Lib.hid p3
            clear hbl p3
            rw [hbt]
            generalize placeZ m X Y y = z at p0 p1 p2 P3 ⊢
            by_cases hz : X 0 < z
            · have p4 := P3.out hz
              go_wp2_with fail
              refine (val_impl _ _ _ _ _ hm X Y (HP.out.below HR2.out)).mono ?_
              rintro e w3 ⟨rfl, hb3⟩
              have HR3 := Lib.hid (HR2.out.trans (hb3.mono HR2.out.size))
              clear hb3
              go_wp2_with fail
              refine (val_impl _ _ _ _ _ hm X Y (HP.out.below HR3.out)).mono ?_
              rintro e w4 ⟨rfl, hb4⟩
              have HR4 := Lib.hid (HR3.out.trans (hb4.mono HR3.out.size))
              clear hb4
              go_wp2
              go_roundw
              case rel => exact ⟨k + 1, by go_num, by omega, HR4.out⟩
              case measure => simp [intOf]; omega
            · go_wp2_with fail
              refine (val_impl _ _ _ _ _ hm X Y (HP.out.below HR2.out)).mono ?_
              rintro e w3 ⟨rfl, hb3⟩
              have HR3 := Lib.hid (HR2.out.trans (hb3.mono HR2.out.size))
              clear hb3
              go_wp2
              go_roundw
              case rel => exact ⟨k + 1, by go_num, by omega, HR3.out⟩
              case measure => simp [intOf]; omega
          · have hbt : placeB m X Y y = false := by rw [hbl]; exact decide_eq_false hy
            rw [hbt]
            clear hbl
            have hy2 : Y (m - 1) < y := by omega
            go_wp2
            go_roundw
            case rel => exact ⟨k + 1, by go_num, by omega, HR2.out⟩
            case measure => simp [intOf]; omega
        · go_wp2
          go_loopw [11] (fun s wr => ∃ k : Nat, s = .int .i64 k ∧ k ≤ m ∧ Below w1.heap.size w1 wr) (fun s _ => m - (intOf s).toNat)
          case atStart => exact ⟨0, rfl, by omega, HR'.out⟩
          case round =>
            rename_i wl _
            obtain ⟨k3, rfl, hk3, hbr3⟩ := hrel
            have HR3 := Lib.hid hbr3
            clear hbr3
            by_cases hlt3 : k3 < m
            · obtain ⟨hx5, hy5⟩ := HC.out k3 hlt3
              have hx5' := (HR3.out.cell (p := ⟨g, k3 * 2, none⟩) hg).trans hx5
              have hy5' := (HR3.out.cell (p := ⟨g, k3 * 2 + 1, none⟩) hg).trans hy5
              have hv := valZ_at HT.out hlt3
              have HV := Lib.hid hv
              clear hx5 hy5 hv
              go_wp2
              go_region_held3 (fun w' => w'.cell? ⟨g, k3 * 2, none⟩ = some (.int .i64 (X k3)) ∧ w'.cell? ⟨g, k3 * 2 + 1, none⟩ = some (.int .i64 (Y k3)) ∧ Below w1.heap.size w1 w')
                (first | exact ⟨hx5', hy5', HR3.out⟩ | exact ⟨hx5', hy5', HR3.out.drew⟩ | assumption)
                (first | (go_at_call 18; obtain ⟨hx7, hy7, hb7⟩ : _ ∧ _ ∧ Below w1.heap.size w1 _ := by assumption
                          refine (val_impl _ _ _ _ _ hm X Y (HP.out.below hb7)).mono ?_
                          rintro e w' ⟨rfl, hb'⟩
                          have S1 := And.intro ((hb'.cell (cell_lt' hx7)).trans hx7) (And.intro ((hb'.cell (cell_lt' hy7)).trans hy7) (hb7.trans (hb'.mono hb7.size)))))
              all_goals
                obtain ⟨_, _, hb9⟩ : _ ∧ _ ∧ Below w1.heap.size w1 _ := by assumption
                rw [HV.out]
                go_wp2
                go_roundw
                case rel => exact ⟨k3 + 1, by go_num, by omega, hb9⟩
                case measure => simp [intOf]; omega
            · go_wp2_with fail
              refine (tab_impl _ _ _ _ hm X Y (HP.out.below HR3.out)).mono ?_
              rintro e w2 ⟨rfl, hb2⟩
              rw [HT.out]
              go_wp2
              go_ret
              exact ⟨rfl, HB.out.trans ((HR3.out.trans (hb2.mono HR3.out.size)).mono HB.out.size)⟩

theorem own : ownKnob Try.prog.godebug = none := by kernel_rfl
theorem laid : laidOutB Try.prog = true := by kernel_rfl
theorem parOk : Try.f5.params.toList.all (fun t => Try.prog.readableRec t && decide (t < Try.prog.types.size)) = true := by kernel_rfl
set_option maxRecDepth 100000 in
theorem lifted (os : Os) (started : os.Started) (H : Type) (enc : TypeId × Value → H) :
    ReturnsInHanded {} Try.checked os 5 .any (Rows.fnTablesSpec.pre6 enc Try.prog Try.f5 Rows.fnTablesRow.domain false) (Rows.fnTablesSpec.post enc Try.prog Try.f5 false true false false) := by
  refine law_lifted (C := Try.checked) own started (by kernel_rfl) Try.func5 laid (fun t ht => by
      have h := List.all_eq_true.1 parOk t ht
      rw [Bool.and_eq_true] at h
      exact ⟨h.1, of_decide_eq_true h.2⟩) rfl Try.underlying4 rfl
    (fun xs hx => by
      rw [show Try.f5.params.toList.length = 1 from by rw [Try.params5]; rfl] at hx
      match xs, hx with
      | [d0], _ => rfl)
    (ChangeSpec.witness6 (enc := enc) (C := Try.checked) false ⟨#[], #[.slice none 0 0], []⟩ 8 (by kernel_rfl) (by kernel_rfl) (by kernel_rfl) (by kernel_rfl)) ?_
  intro W base args ds p hval0 hA0 _
  have hval : ∀ (j : Nat) t v, Try.f5.params[j]? = some t → args[j]? = some v → Value.okWide Try.prog W .any base t v := hval0
  have hA : DataW.TrodAll enc Try.prog W 0 (fun _ => true) true Try.f5.params.toList args.toList ds p := hA0
  clear hA0 hval0
  rw [Try.params5] at hA hval
  obtain ⟨v0, vs0, d0, ds0, p0, q0, hargs, rfl, rfl, h0, r0⟩ := trodAll_cons hA
  obtain ⟨rfl, rfl, rfl⟩ := trodAll_nil r0
  obtain rfl : args = #[v0] := by cases args; simp_all
  obtain ⟨A0, n0, c0, f0, rfl, x0, y0⟩ := slice_bytes Try.underlying22 (by kernel_rfl) Try.underlying5 (hval 0 22 _ rfl rfl) h0
  exact walk A0 n0 c0 f0 W x0 y0

/-- The statement. -/
theorem proved : Rows.FnTablesSaid :=
  OpenClaim.holds_of_wide 5 Try.f5 rfl rfl rfl rfl rfl rfl rfl ⟨rfl, rfl, rfl, rfl, rfl⟩ rfl rfl rfl rfl rfl (by kernel_rfl) Try.func5 (by kernel_rfl)
    (of_decide_eq_true (by kernel_rfl)) (by unfold Func.isWrapper; first | (rw [if_pos (by decide +kernel)]; kernel_rfl) | (rw [if_neg (by decide +kernel)]; exact ⟨rfl, rfl⟩))
    (fun os started H enc _ => lifted os started H enc)
#print axioms proved
end Go.Proofs.Ytafjichhahbihaa.fnTables
