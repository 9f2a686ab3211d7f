/- The laws' marking of a tariff. -/
import Derived.Test.YtngmpimoebggdaaTf
import Derived.Test.YtngmpimoebggdaaIntK
import Derived.Test.YtngmpimoebggdaaTch
namespace Go.Proofs.Ytngmpimoebggdaa.C1
open Go.ChangeShapes Go.WideShapes Go.ChangeAt Go.RowKit
set_option linter.unusedVariables false

theorem Box4.touch {w w' : World} {b B L : Nat} {x y z u : Value} {t : TypeId} (h : Box4 w b x y z u t) (hb : Touch w w' B L) (ho : b < B ∨ L ≤ b) : Box4 w' b x y z u t := (hb.block b h.lt ho).trans h
set_option maxHeartbeats 1000000 in
theorem markTariff (T : Tf) (A D : Option Addr) (c d K : Nat) (w : World) (hn : T.n ≤ 1048576) (hm : T.m ≤ 1048576) (hK : K ≤ 50000000) {B L g1 g2 : Nat} (h : OwnTf w B L A D T g1 g2) (hL : L ≤ w.heap.size) :
    Calls Try.prog 52 #[.agg #[.int .i64 T.b, .int .i64 T.p, .slice A T.n c, .slice D T.m d], .int .i64 (K : Int)] w fun e w' => e = .returned (.int .i64 ((K + T.n + T.m : Nat) : Int)) ∧ Touch w w' B L := by
  have H := Lib.hid h
  have H0 := Lib.hid (h.below ((Below.refl w.heap.size w).alloc (Nat.le_refl _) (.cells #[.int .i64 T.b, .int .i64 T.p, .slice A T.n c, .slice D T.m d] 62)))
  have HA := Lib.hid (Touch.of_below (B := B) (L := L) ((Below.refl w.heap.size w).alloc (Nat.le_refl _) (.cells #[.int .i64 T.b, .int .i64 T.p, .slice A T.n c, .slice D T.m d] 62)))
  have HX := Lib.hid (Box4.new w (.int .i64 T.b) (.int .i64 T.p) (.slice A T.n c) (.slice D T.m d) 62)
  clear h
  obtain ⟨K1, HK1⟩ : ∃ K1 : Nat, Hid (K1 = K + T.n) := ⟨_, Lib.hid rfl⟩
  have hK1 : K1 ≤ 100000000 := by have := HK1.out; omega
  go_enter Try.func52, Try.ntmps52
  go_wp2_with fail
  refine (markI _ _ _ g1 _ _ _ hn (by omega) H0.out.1 H0.out.2.1).mono ?_
  rintro e w1 ⟨he, hr1, hf1, ht1⟩
  rw [← HK1.out] at he
  subst he
  have HT1 := Lib.hid (ht1 B L H0.out.2.2.2.2.1)
  have HT1' := Lib.hid (ht1 g1 (g1 + 1) (fun _ => ⟨Nat.le_refl _, Nat.lt_succ_self _⟩))
  have HX1 := Lib.hid (HX.out.touch HT1.out (Or.inr hL))
  have H7 := Lib.hid H.out.2.2.2.2.2.2
  have HI := Lib.hid (show RowI w1 D T.m g2 T.W ∧ Free w1 T.m g2 from by
    by_cases hn0 : 0 < T.n
    · exact ⟨HT1'.out.rowI H0.out.2.2.1 (fun h => by have := H7.out hn0 h; omega), HT1'.out.free H0.out.2.2.2.1 (fun h => H0.out.2.2.1.lt h) (fun h => by have := H7.out hn0 h; omega)⟩
    · have t := ht1 0 0 (fun h => absurd h hn0)
      exact ⟨t.rowI H0.out.2.2.1 (fun h => Or.inr (Nat.zero_le _)), t.free H0.out.2.2.2.1 (fun h => H0.out.2.2.1.lt h) (fun h => Or.inr (Nat.zero_le _))⟩)
  clear hr1 hf1 ht1
  obtain ⟨x0, x1, x2, x3⟩ := HX1.out.at
  go_wp2_with fail
  refine (markI _ _ _ g2 K1 _ _ hm (by omega) HI.out.1 HI.out.2).mono ?_
  rintro e w2 ⟨rfl, hr2, hf2, ht2⟩
  have HT2 := Lib.hid (ht2 B L H0.out.2.2.2.2.2.1)
  clear hr2 hf2 ht2 x0 x1 x2 x3
  go_wp2
  go_ret
  exact ⟨ret_int (by have := HK1.out; omega), HA.out.trans (HT1.out.trans HT2.out)⟩
end Go.Proofs.Ytngmpimoebggdaa.C1
