/- The words of the program's order of initialization; what every row asks of the whole program. -/
import Derived.Test.YtngmpimoebggdaaRows
import Derived.KernelRfl
import Derived.JoinedOf
namespace Go.Proofs.Ytngmpimoebggdaa.Io
open Go.Proofs
theorem words_cons {c : Char} {t w : List Char} {ws : List (List Char)} (hc : c ≠ Char.ofNat 32) (h : wordsSigns t = w :: ws) : wordsSigns (c :: t) = (c :: w) :: ws := by
  unfold wordsSigns
  split
  · rename_i e; cases e
  · rename_i e; injection e with e1 e2; exact absurd e1 hc
  · rename_i e; injection e with e1 e2; subst e1; subst e2; rw [h]
theorem words_app (a r : List Char) (ha : ∀ c ∈ a, c ≠ Char.ofNat 32) : wordsSigns (a ++ Char.ofNat 32 :: r) = a :: wordsSigns r := by
  induction a with
  | nil => rfl
  | cons c a ih => exact words_cons (ha c List.mem_cons_self) (ih fun x hx => ha x (List.mem_cons_of_mem _ hx))
def w1 : List Char := List.map Char.ofNat [104, 97, 114, 110, 101, 115, 115]
def w2 : List Char := List.map Char.ofNat [50, 49, 50, 52, 98, 51, 48, 56, 51, 99, 56, 56, 55, 50, 51, 51, 50, 101, 99, 51, 53, 99, 97, 98, 102, 102, 56, 54, 101, 97, 102, 48, 97, 54, 57, 52, 102, 49, 55, 97, 98, 100, 54, 57, 100, 98, 50, 55, 54, 100, 98, 53, 53, 55, 100, 101, 48, 97, 98, 55, 97, 56, 102, 101]
def w3 : List Char := List.map Char.ofNat [99, 117, 116]
def rest : List Char := List.map Char.ofNat [97, 116, 32, 108, 111, 111, 112, 46, 101, 120, 97, 109, 112, 108, 101, 47, 103, 48, 51, 51, 49, 55, 47, 108, 97, 119, 115, 46, 70, 110, 69, 120, 97, 99, 116, 80, 97, 99, 101, 79, 102, 32, 108, 111, 111, 112, 46, 101, 120, 97, 109, 112, 108, 101, 47, 103, 48, 51, 51, 49, 55, 47, 108, 97, 119, 115, 46, 70, 110, 69, 120, 97, 99, 116, 77, 111, 118, 101, 114, 79, 107, 32, 108, 111, 111, 112, 46, 101, 120, 97, 109, 112, 108, 101, 47, 103, 48, 51, 51, 49, 55, 47, 108, 97, 119, 115, 46, 70, 110, 69, 120, 97, 99, 116, 65, 116, 69, 110, 100, 32, 108, 111, 111, 112, 46, 101, 120, 97, 109, 112, 108, 101, 47, 103, 48, 51, 51, 49, 55, 47, 108, 97, 119, 115, 46, 70, 110, 69, 120, 97, 99, 116, 84, 105, 109, 101, 84, 111, 32, 108, 111, 111, 112, 46, 101, 120, 97, 109, 112, 108, 101, 47, 103, 48, 51, 51, 49, 55, 47, 108, 97, 119, 115, 46, 70, 110, 69, 120, 97, 99, 116, 84, 97, 114, 105, 102, 102, 79, 107, 32] ++ List.map Char.ofNat [108, 111, 111, 112, 46, 101, 120, 97, 109, 112, 108, 101, 47, 103, 48, 51, 51, 49, 55, 47, 108, 97, 119, 115, 46, 70, 110, 69, 120, 97, 99, 116, 84, 111, 108, 108, 79, 102, 32, 108, 111, 111, 112, 46, 101, 120, 97, 109, 112, 108, 101, 47, 103, 48, 51, 51, 49, 55, 47, 108, 97, 119, 115, 46, 70, 110, 69, 120, 97, 99, 116, 66, 111, 111, 107, 79, 107, 32, 108, 111, 111, 112, 46, 101, 120, 97, 109, 112, 108, 101, 47, 103, 48, 51, 51, 49, 55, 47, 108, 97, 119, 115, 46, 70, 110, 69, 120, 97, 99, 116, 66, 97, 108, 97, 110, 99, 101, 115, 79, 102, 32, 108, 111, 111, 112, 46, 101, 120, 97, 109, 112, 108, 101, 47, 103, 48, 51, 51, 49, 55, 47, 108, 97, 119, 115, 46, 70, 110, 69, 120, 97, 99, 116, 84, 111, 108, 108, 69, 110, 116, 114, 105, 101, 115, 32, 108, 111, 111, 112, 46, 101, 120, 97, 109, 112, 108, 101, 47, 103, 48, 51, 51, 49, 55, 47, 108, 97, 119, 115, 46, 70, 110, 69, 120, 97, 99, 116, 83, 101, 116] ++ List.map Char.ofNat [116, 108, 101, 85, 112, 32, 108, 111, 111, 112, 46, 101, 120, 97, 109, 112, 108, 101, 47, 103, 48, 51, 51, 49, 55, 47, 108, 97, 119, 115, 46, 70, 110, 69, 120, 97, 99, 116, 87, 111, 114, 107, 79, 107]
theorem io0 : Try.prog.initOrder = "harness 2124b3083c8872332ec35cabff86eaf0a694f17abd69db276db557de0ab7a8fe cut at loop.example/g03317/laws.FnExactPaceOf loop.example/g03317/laws.FnExactMoverOk loop.example/g03317/laws.FnExactAtEnd loop.example/g03317/laws.FnExactTimeTo loop.example/g03317/laws.FnExactTariffOk loop.example/g03317/laws.FnExactTollOf loop.example/g03317/laws.FnExactBookOk loop.example/g03317/laws.FnExactBalancesOf loop.example/g03317/laws.FnExactTollEntries loop.example/g03317/laws.FnExactSettleUp loop.example/g03317/laws.FnExactWorkOk" := by kernel_rfl
theorem io1a : String.toByteArray "harness 2124b3083c8872332ec35cabff86eaf0a694f17abd69db276db557de0ab7a8fe cut at loop.example/g03317/laws.FnExactPaceOf loop.example/g03317/laws.FnExactMoverOk loop.example/g03317/laws.FnExactAtEnd loop.example/g03317/laws.FnExactTimeTo loop.example/g03317/laws.FnExactTariffOk loop.example/g03317/laws.FnExactTollOf loop.example/g03317/laws.FnExactBookOk loop.example/g03317/laws.FnExactBalancesOf loop.example/g03317/laws.FnExactTollEntries loop.example/g03317/laws.FnExactSettleUp loop.example/g03317/laws.FnExactWorkOk" = List.utf8Encode (w1 ++ Char.ofNat 32 :: (w2 ++ Char.ofNat 32 :: (w3 ++ Char.ofNat 32 :: rest))) := by kernel_rfl
theorem io1 : "harness 2124b3083c8872332ec35cabff86eaf0a694f17abd69db276db557de0ab7a8fe cut at loop.example/g03317/laws.FnExactPaceOf loop.example/g03317/laws.FnExactMoverOk loop.example/g03317/laws.FnExactAtEnd loop.example/g03317/laws.FnExactTimeTo loop.example/g03317/laws.FnExactTariffOk loop.example/g03317/laws.FnExactTollOf loop.example/g03317/laws.FnExactBookOk loop.example/g03317/laws.FnExactBalancesOf loop.example/g03317/laws.FnExactTollEntries loop.example/g03317/laws.FnExactSettleUp loop.example/g03317/laws.FnExactWorkOk" = String.ofList (w1 ++ Char.ofNat 32 :: (w2 ++ Char.ofNat 32 :: (w3 ++ Char.ofNat 32 :: rest))) := String.toByteArray_inj.1 (io1a.trans String.toByteArray_ofList.symm)
theorem io : Try.prog.initOrder = String.ofList (w1 ++ Char.ofNat 32 :: (w2 ++ Char.ofNat 32 :: (w3 ++ Char.ofNat 32 :: rest))) := io0.trans io1
theorem words : wordsSigns Try.prog.initOrder.toList = w1 :: w2 :: w3 :: wordsSigns rest := by
  rw [io, String.toList_ofList, words_app _ _ (by decide), words_app _ _ (by decide), words_app _ _ (by decide)]
theorem later : Try.prog.laysLater = false := by kernel_rfl
theorem reflects : Try.prog.bearsReflect = false := by kernel_rfl
theorem doors : Try.prog.doorFits [] = true := by kernel_rfl
theorem strip (W : List (List Char)) : stripLifts liftWords ("cut".toList :: W) = ([], "cut".toList :: W) := by kernel_rfl
theorem main (W : List (List Char)) : behindMainWord (w1 :: w2 :: w3 :: W) = "cut".toList :: W := by kernel_rfl
theorem may_of {P : Program} {W : List (List Char)} (h : behindMainWord (wordsSigns P.initOrder.toList) = "cut".toList :: W) (hl : P.laysLater = false) (hr : P.bearsReflect = false) (hd : P.doorFits [] = true) : P.mayEnter = true := by
  unfold Program.mayEnter
  rw [h]
  show ((("cut".toList == "gc".toList || "cut".toList == "spec".toList) && (W.isEmpty || W.head? == some "stop".toList)) ||
    ("cut".toList == "carried".toList && W.take 2 == ["gc".toList, "cut".toList] && !P.laysLater && !P.bearsReflect) ||
    ((stripLifts liftWords ("cut".toList :: W)).2.head? == some "cut".toList &&
      ((stripLifts liftWords ("cut".toList :: W)).1.contains "finals" || !P.laysLater) && ((stripLifts liftWords ("cut".toList :: W)).1.contains "reflectrows" || !P.bearsReflect) &&
      ((stripLifts liftWords ("cut".toList :: W)).1.contains "reflectrows" || !(stripLifts liftWords ("cut".toList :: W)).1.contains "leanrows") &&
      P.doorFits (stripLifts liftWords ("cut".toList :: W)).1)) = true
  rw [strip, hl, hr, hd]
  simp
theorem final_of {P : Program} {W : List (List Char)} (h : behindMainWord (wordsSigns P.initOrder.toList) = "cut".toList :: W) : P.liftsFinal = false := by
  unfold Program.liftsFinal Program.headLifts
  rw [h, strip]
  rfl
theorem make_of {P : Program} {W : List (List Char)} (h : behindMainWord (wordsSigns P.initOrder.toList) = "cut".toList :: W) : P.make = some .cut := by
  unfold Program.make
  rw [h]
  kernel_rfl
theorem heads : behindMainWord (wordsSigns Try.prog.initOrder.toList) = "cut".toList :: wordsSigns rest := by rw [words]; exact main _
theorem mayEnter : Try.prog.mayEnter = true := may_of heads later reflects doors
theorem make : Try.prog.make = some .cut := make_of heads
theorem liftsFinal : Try.prog.liftsFinal = false := final_of heads
end Go.Proofs.Ytngmpimoebggdaa.Io
