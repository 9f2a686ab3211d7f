/- The mathematics of calls: ranks, which goes before which. -/
import Derived.Test.YtmfeleocjmdooaaTrnM
import Derived.Test.YtmfeleocjmdooaaTrI2
namespace Go.Proofs.Ytmfeleocjmdooaa.C1
open Go.ChangeShapes Go.WideShapes Go.ChangeAt Go.RowKit
set_option linter.unusedVariables false

/-- A call: its train's direction and rows, since when, and its appointment. -/
structure Cl where
  up : Bool
  T : List (List Bt)
  s : Int
  b : Int
def clOk (C : Cl) : Bool := tOk C.T && (inB C.s 0 1000000 && inB C.b (-1) 1000000)
def waitZ (C : Cl) (now : Int) : Int := (now - C.s) / 20
def rkZ (C : Cl) (now : Int) : Int := if (clOk C && inB now C.s 1000000) = true then (if inB C.b 0 now = true then -1 else max 0 (claT C.T - waitZ C now)) else 3
theorem min_cla {L : List Bt} (h : ∀ b ∈ L, BIn b) : ∀ a : Int, 0 ≤ a → a ≤ 2 → 0 ≤ L.foldl (fun n b => min n b.c) a ∧ L.foldl (fun n b => min n b.c) a ≤ 2 := by
  induction L with
  | nil => intro a h0 h1; exact ⟨h0, h1⟩
  | cons b L ih =>
    intro a h0 h1
    have hb := h b (List.mem_cons_self ..)
    have := hb.c0
    exact ih (fun x hx => h x (List.mem_cons_of_mem _ hx)) (min a b.c) (by omega) (by omega)
theorem cla_bd {T : List (List Bt)} (h : tOk T = true) : 0 ≤ claT T ∧ claT T ≤ 2 := by
  unfold claT
  rw [if_pos h]
  exact min_cla (fun b hb => (tOk_iff.1 h).ok b hb) 2 (by decide) (by decide)
structure ClP (C : Cl) : Prop where
  t : tOk C.T = true
  s0 : 0 ≤ C.s
  s1 : C.s ≤ 1000000
  b0 : -1 ≤ C.b
  b1 : C.b ≤ 1000000
theorem clOk_iff {C : Cl} : clOk C = true ↔ ClP C := by
  unfold clOk
  simp only [Bool.and_eq_true, inB_iff]
  exact ⟨fun ⟨a, ⟨b, c⟩, d, e⟩ => ⟨a, b, c, d, e⟩, fun ⟨a, b, c, d, e⟩ => ⟨a, ⟨b, c⟩, d, e⟩⟩
theorem rk_bad {C : Cl} {now : Int} (h : clOk C = false) : rkZ C now = 3 := by unfold rkZ; rw [h, Bool.false_and, if_neg (by decide)]
theorem rk_out {C : Cl} {now : Int} (h : inB now C.s 1000000 = false) : rkZ C now = 3 := by unfold rkZ; rw [h, Bool.and_false, if_neg (by decide)]
theorem rk_in {C : Cl} {now : Int} (h : clOk C = true) (h1 : inB now C.s 1000000 = true) : rkZ C now = if inB C.b 0 now = true then -1 else max 0 (claT C.T - waitZ C now) := by unfold rkZ; rw [h, h1, if_pos (by decide)]
theorem wait_bd {C : Cl} {now : Int} (h : clOk C = true) (h1 : inB now C.s 1000000 = true) : 0 ≤ now - C.s ∧ 0 ≤ waitZ C now ∧ waitZ C now ≤ 50000 := by
  have h2 := inB_iff.1 h1
  have h3 := clOk_iff.1 h
  have := h3.s0
  unfold waitZ
  omega
theorem rk_bd {C : Cl} {now : Int} : -1 ≤ rkZ C now ∧ rkZ C now ≤ 3 := by
  unfold rkZ
  split
  · rename_i h
    rw [Bool.and_eq_true] at h
    have hc := cla_bd (clOk_iff.1 h.1).t
    have hw := wait_bd h.1 h.2
    split <;> omega
  · omega
/-- Whether a call waits. -/
theorem rk_ok {C : Cl} {now : Int} (h : rkZ C now ≠ 3) : clOk C = true ∧ inB now C.s 1000000 = true := by
  cases h1 : clOk C with
  | false => exact absurd (rk_bad h1) h
  | true =>
    cases h2 : inB now C.s 1000000 with
    | false => exact absurd (rk_out h2) h
    | true => exact ⟨rfl, rfl⟩
/-- The first Id. -/
def fstZ (C : Cl) : Int := idf (bts C.T) 0
/-- What decides where a call goes. -/
structure Sg where
  rk : Int
  bk : Int
  sc : Int
  fi : Int
  ix : Int
def sgOf (C : Cl) (now : Int) : Sg := ⟨rkZ C now, if rkZ C now = -1 then C.b else 0, C.s, fstZ C, 0⟩
def ltS (x y : Sg) : Bool := decide (x.rk < y.rk ∨ (x.rk = y.rk ∧ (x.bk < y.bk ∨ (x.bk = y.bk ∧ (x.sc < y.sc ∨ (x.sc = y.sc ∧ (x.fi < y.fi ∨ (x.fi = y.fi ∧ x.ix < y.ix))))))))
theorem ltS_iff {x y : Sg} : ltS x y = true ↔ (x.rk < y.rk ∨ (x.rk = y.rk ∧ (x.bk < y.bk ∨ (x.bk = y.bk ∧ (x.sc < y.sc ∨ (x.sc = y.sc ∧ (x.fi < y.fi ∨ (x.fi = y.fi ∧ x.ix < y.ix)))))))) := decide_eq_true_iff
/-- Whether call a goes before call b. -/
def bfZ (a b : Cl) (now : Int) : Bool := (decide (rkZ a now ≠ 3) && decide (rkZ b now ≠ 3)) && ltS (sgOf a now) (sgOf b now)
theorem bf_iff {a b : Cl} {now : Int} : bfZ a b now = true ↔ (rkZ a now ≠ 3 ∧ rkZ b now ≠ 3) ∧ ltS (sgOf a now) (sgOf b now) = true := by unfold bfZ; rw [Bool.and_eq_true, Bool.and_eq_true, decide_eq_true_iff, decide_eq_true_iff]
end Go.Proofs.Ytmfeleocjmdooaa.C1
