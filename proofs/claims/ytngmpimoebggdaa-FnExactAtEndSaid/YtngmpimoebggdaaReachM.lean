/- The mathematics of reaches: what a reach is, what its functions give, and what they keep. -/
import Derived.Test.YtngmpimoebggdaaPlace
namespace Go.Proofs.Ytngmpimoebggdaa.C1
open Go.ChangeShapes Go.WideShapes Go.ChangeAt Go.RowKit
set_option linter.unusedVariables false

/-- A reach: n points of its table, the volume, m parts on their way. -/
structure Rc where
  n : Nat
  X : Nat → Int
  Y : Nat → Int
  v : Int
  m : Nat
  Z : Nat → Int

def sumZ (Z : Nat → Int) : Nat → Int
  | 0 => 0
  | k + 1 => sumZ Z k + Z k
def allB (Z : Nat → Int) : Nat → Bool
  | 0 => true
  | k + 1 => allB Z k && inB (Z k) 0 1000000000
theorem allB_iff {Z : Nat → Int} {n : Nat} : allB Z n = true ↔ ∀ i, i < n → 0 ≤ Z i ∧ Z i ≤ 1000000000 := by
  induction n with
  | zero => simp [allB]
  | succ n ih =>
    simp only [allB, Bool.and_eq_true, ih, inB_iff]
    constructor
    · rintro ⟨h1, h2⟩ i hi
      rcases Nat.lt_or_ge i n with h | h
      · exact h1 i h
      · obtain rfl : i = n := by omega
        exact h2
    · intro h
      exact ⟨fun i hi => h i (by omega), h n (by omega)⟩
theorem allB_no {Z : Nat → Int} {n k : Nat} (hk : k < n) (h : inB (Z k) 0 1000000000 = false) : allB Z n = false := by
  rw [Bool.eq_false_iff]
  intro h'
  have := allB_iff.1 h' k hk
  rw [inB_yes this.1 this.2] at h
  cases h
theorem sumZ_bd {Z : Nat → Int} {n : Nat} (h : ∀ i, i < n → 0 ≤ Z i ∧ Z i ≤ 1000000000) : ∀ k, k ≤ n → 0 ≤ sumZ Z k ∧ sumZ Z k ≤ k * 1000000000 := by
  intro k
  induction k with
  | zero => intro _; simp [sumZ]
  | succ k ih =>
    intro hk
    have h1 := ih (by omega)
    have h2 := h k (by omega)
    unfold sumZ
    omega
theorem sumZ_mono {Z : Nat → Int} {n : Nat} (h : ∀ i, i < n → 0 ≤ Z i) {k : Nat} (hk : k ≤ n) : sumZ Z k ≤ sumZ Z n := by
  induction n with
  | zero => obtain rfl : k = 0 := by omega
            exact Int.le_refl _
  | succ n ih =>
    rcases Nat.lt_or_ge n k with h1 | h1
    · obtain rfl : k = n + 1 := by omega
      exact Int.le_refl _
    · have := ih (fun i hi => h i (by omega)) h1
      have := h n (by omega)
      show _ ≤ sumZ Z n + Z n
      omega
theorem sumZ_same {Z V : Nat → Int} {n : Nat} (h : ∀ i, i < n → Z i = V i) : sumZ Z n = sumZ V n := by
  induction n with
  | zero => rfl
  | succ n ih => unfold sumZ; rw [ih (fun i hi => h i (by omega)), h n (by omega)]

def totZ (r : Rc) : Int := r.v + sumZ r.Z r.m
def rOk (r : Rc) : Bool := tabOk r.n r.X r.Y && (inB r.v 0 1000000000 && (decide (r.m ≤ 12) && (allB r.Z r.m && decide (totZ r ≤ 1000000000))))
structure RP (r : Rc) : Prop where
  tab : tabOk r.n r.X r.Y = true
  v0 : 0 ≤ r.v
  v1 : r.v ≤ 1000000000
  m : r.m ≤ 12
  z : ∀ i, i < r.m → 0 ≤ r.Z i ∧ r.Z i ≤ 1000000000
  t1 : totZ r ≤ 1000000000
theorem rOk_iff {r : Rc} : rOk r = true ↔ RP r := by
  unfold rOk
  simp only [Bool.and_eq_true, decide_eq_true_eq, inB_iff, allB_iff]
  exact ⟨fun ⟨h1, h2, h3, h4, h5⟩ => ⟨h1, h2.1, h2.2, h3, h4, h5⟩, fun ⟨h1, h2, h2', h3, h4, h5⟩ => ⟨h1, ⟨h2, h2'⟩, h3, h4, h5⟩⟩
theorem RP.t0 {r : Rc} (h : RP r) : r.v ≤ totZ r ∧ 0 ≤ totZ r := by
  have := (sumZ_bd h.z r.m (Nat.le_refl _)).1
  have := h.v0
  unfold totZ
  omega
theorem rOk_tab {r : Rc} (h : tabOk r.n r.X r.Y = false) : rOk r = false := by unfold rOk; rw [h, Bool.false_and]
theorem rOk_vol {r : Rc} (h : inB r.v 0 1000000000 = false) : rOk r = false := by unfold rOk; rw [h, Bool.false_and, Bool.and_false]
theorem rOk_len {r : Rc} (h : 12 < r.m) : rOk r = false := by unfold rOk; rw [show decide (r.m ≤ 12) = false from decide_eq_false (by omega)]; simp
theorem rOk_part {r : Rc} {k : Nat} (hk : k < r.m) (h : inB (r.Z k) 0 1000000000 = false) : rOk r = false := by unfold rOk; rw [allB_no hk h]; simp
theorem rOk_all {r : Rc} (h1 : tabOk r.n r.X r.Y = true) (h2 : inB r.v 0 1000000000 = true) (h3 : r.m ≤ 12) (h4 : allB r.Z r.m = true) : rOk r = decide (totZ r ≤ 1000000000) := by
  unfold rOk; rw [h1, h2, h4, show decide (r.m ≤ 12) = true from decide_eq_true h3]; simp

def totR (r : Rc) : Int := if rOk r = true then totZ r else 0
def spaceR (r : Rc) : Int := if rOk r = true then 1000000000 - totZ r else 0
def levelR (r : Rc) : Int := if rOk r = true then (if placeB r.n r.X r.Y r.v = true then placeZ r.n r.X r.Y r.v else r.X (r.n - 1)) else 0
def sendB (r : Rc) (a : Int) : Bool := rOk r && inB a 0 (spaceR r)
def addL (r : Rc) (a : Int) : Rc := if r.m = 0 then { r with v := r.v + a } else { r with Z := fun i => if i = r.m - 1 then r.Z i + a else r.Z i }
def sendR (r : Rc) (a : Int) : Rc := if sendB r a = true then addL r a else r
def takeB (r : Rc) (a keep : Int) : Bool := rOk r && (decide (0 ≤ a) && decide (0 ≤ keep))
def takeA (r : Rc) (a keep : Int) : Int := if takeB r a keep = true then (if r.v - keep < 0 then 0 else if r.v - keep ≤ a then r.v - keep else a) else 0
def takeR (r : Rc) (a keep : Int) : Rc := { r with v := r.v - takeA r a keep }
def flowC (r : Rc) : Rc := if r.m = 0 then r else { r with v := r.v + r.Z 0, Z := fun i => if i = r.m - 1 then 0 else r.Z (i + 1) }
def flowR (r : Rc) : Rc := if rOk r = true then flowC r else r
def newC (n : Nat) (X Y : Nat → Int) (level : Int) (d : Nat) : Rc := ⟨n, X, Y, valZ n X Y level, d, fun _ => 0⟩
def newB (n : Nat) (X Y : Nat → Int) (level delay : Int) : Bool := inB delay 0 12 && rOk (newC n X Y level delay.toNat)
def nilR : Rc := ⟨0, fun _ => 0, fun _ => 0, 0, 0, fun _ => 0⟩
def newR (n : Nat) (X Y : Nat → Int) (level delay : Int) : Rc := if newB n X Y level delay = true then newC n X Y level delay.toNat else nilR

theorem totR_of {r : Rc} (h : rOk r = true) : totR r = totZ r := by unfold totR; rw [if_pos h]
theorem totR_no {r : Rc} (h : rOk r = false) : totR r = 0 := by unfold totR; rw [h]; rfl
theorem spaceR_of {r : Rc} (h : rOk r = true) : spaceR r = 1000000000 - totZ r := by unfold spaceR; rw [if_pos h]
theorem spaceR_no {r : Rc} (h : rOk r = false) : spaceR r = 0 := by unfold spaceR; rw [h]; rfl
theorem totR_bd (r : Rc) : 0 ≤ totR r ∧ totR r ≤ 1000000000 := by
  cases h : rOk r with
  | true => rw [totR_of h]; have := rOk_iff.1 h; exact ⟨this.t0.2, this.t1⟩
  | false => rw [totR_no h]; omega
theorem spaceR_bd (r : Rc) : 0 ≤ spaceR r ∧ spaceR r ≤ 1000000000 := by
  cases h : rOk r with
  | true => rw [spaceR_of h]; have := rOk_iff.1 h; have := this.t0.2; have := (rOk_iff.1 h).t1; omega
  | false => rw [spaceR_no h]; omega
theorem sendR_no {r : Rc} {a : Int} (h : sendB r a = false) : sendR r a = r := by unfold sendR; rw [h]; rfl
theorem sendR_yes {r : Rc} {a : Int} (h : sendB r a = true) : sendR r a = addL r a := by unfold sendR; rw [h]; rfl
theorem addL_v {r : Rc} {a : Int} (h : r.m = 0) : addL r a = { r with v := r.v + a } := by unfold addL; rw [if_pos h]
theorem addL_z {r : Rc} {a : Int} (h : 0 < r.m) : addL r a = { r with Z := fun i => if i = r.m - 1 then r.Z i + a else r.Z i } := by unfold addL; rw [if_neg (by omega)]
theorem takeA_no {r : Rc} {a k : Int} (h : takeB r a k = false) : takeA r a k = 0 := by unfold takeA; rw [h]; rfl
theorem takeA_yes {r : Rc} {a k : Int} (h : takeB r a k = true) : takeA r a k = if r.v - k < 0 then 0 else if r.v - k ≤ a then r.v - k else a := by unfold takeA; rw [if_pos h]
theorem takeR_no {r : Rc} {a k : Int} (h : takeB r a k = false) : takeR r a k = r := by unfold takeR; rw [takeA_no h, Int.sub_zero]
theorem takeA_bd {r : Rc} {a k : Int} (h : takeB r a k = true) : 0 ≤ takeA r a k ∧ takeA r a k ≤ a ∧ takeA r a k ≤ r.v ∧ (takeA r a k = 0 ∨ k ≤ r.v - takeA r a k) ∧ (takeA r a k = a ∨ r.v - takeA r a k ≤ k) := by
  rw [takeA_yes h]
  unfold takeB at h
  simp only [Bool.and_eq_true, decide_eq_true_eq] at h
  have := (rOk_iff.1 h.1).v0
  split
  · omega
  · split <;> omega

theorem sum_add {Z : Nat → Int} {m : Nat} {a : Int} (h : 0 < m) : sumZ (fun i => if i = m - 1 then Z i + a else Z i) m = sumZ Z m + a := by
  obtain ⟨k, rfl⟩ : ∃ k, m = k + 1 := ⟨m - 1, by omega⟩
  show sumZ _ k + (if k = k + 1 - 1 then Z k + a else Z k) = sumZ Z k + Z k + a
  rw [if_pos (by omega), sumZ_same (V := Z) fun i hi => if_neg (by omega)]
  omega
theorem sum_shift (Z : Nat → Int) : ∀ k, sumZ (fun i => Z (i + 1)) k + Z 0 = sumZ Z (k + 1) := by
  intro k
  induction k with
  | zero => simp [sumZ]
  | succ k ih =>
    show sumZ (fun i => Z (i + 1)) k + Z (k + 1) + Z 0 = sumZ Z (k + 1) + Z (k + 1)
    omega
theorem addL_tot (r : Rc) (a : Int) : totZ (addL r a) = totZ r + a := by
  rcases Nat.eq_zero_or_pos r.m with h | h
  · rw [addL_v h]; unfold totZ; show r.v + a + sumZ r.Z r.m = r.v + sumZ r.Z r.m + a; omega
  · rw [addL_z h]; unfold totZ; show r.v + sumZ _ r.m = r.v + sumZ r.Z r.m + a; rw [sum_add h]; omega
theorem part_le {r : Rc} (h : RP r) {i : Nat} (hi : i < r.m) : r.Z i ≤ totZ r := by
  have h1 := sumZ_mono (Z := r.Z) (n := r.m) (fun i hi => (h.z i hi).1) (k := i + 1) (by omega)
  have h2 := (sumZ_bd h.z i (by omega)).1
  have h3 : sumZ r.Z (i + 1) = sumZ r.Z i + r.Z i := rfl
  have := h.v0
  unfold totZ
  omega
theorem addL_ok {r : Rc} {a : Int} (h : rOk r = true) (h0 : 0 ≤ a) (h1 : a ≤ spaceR r) : rOk (addL r a) = true := by
  rw [spaceR_of h] at h1
  have H := rOk_iff.1 h
  have ht := addL_tot r a
  have hv := H.t0
  have h2 := H.v0
  refine rOk_iff.2 ?_
  rcases Nat.eq_zero_or_pos r.m with e | e
  · rw [addL_v e] at ht ⊢
    exact ⟨H.tab, by show 0 ≤ r.v + a; omega, by show r.v + a ≤ 1000000000; omega, H.m, H.z, by rw [ht]; omega⟩
  · rw [addL_z e] at ht ⊢
    refine ⟨H.tab, H.v0, H.v1, H.m, fun i hi => ?_, by rw [ht]; omega⟩
    show 0 ≤ (if i = r.m - 1 then r.Z i + a else r.Z i) ∧ (if i = r.m - 1 then r.Z i + a else r.Z i) ≤ 1000000000
    have hz := H.z i hi
    have hp := part_le H hi
    split <;> omega
theorem takeR_tot (r : Rc) (a k : Int) : totZ (takeR r a k) = totZ r - takeA r a k := by
  unfold totZ takeR
  show r.v - takeA r a k + sumZ r.Z r.m = _
  omega
theorem takeR_ok {r : Rc} {a k : Int} (h : rOk r = true) : rOk (takeR r a k) = true := by
  have H := rOk_iff.1 h
  have ht := takeR_tot r a k
  have h1 := H.t1
  have h2 := H.v1
  have h3 := H.v0
  cases hb : takeB r a k with
  | false => rw [takeR_no hb]; exact h
  | true =>
    have hbd := takeA_bd hb
    exact rOk_iff.2 ⟨H.tab, by show 0 ≤ r.v - takeA r a k; omega, by show r.v - takeA r a k ≤ _; omega, H.m, H.z, by rw [ht]; omega⟩
theorem flowC_tot (r : Rc) : totZ (flowC r) = totZ r := by
  unfold flowC
  split
  · rfl
  · rename_i h
    obtain ⟨k, hk⟩ : ∃ k, r.m = k + 1 := ⟨r.m - 1, by omega⟩
    unfold totZ
    show r.v + r.Z 0 + sumZ (fun i => if i = r.m - 1 then 0 else r.Z (i + 1)) r.m = r.v + sumZ r.Z r.m
    rw [hk]
    have h1 : sumZ (fun i => if i = k + 1 - 1 then 0 else r.Z (i + 1)) (k + 1) = sumZ (fun i => r.Z (i + 1)) k := by
      show sumZ _ k + (if k = k + 1 - 1 then 0 else r.Z (k + 1)) = _
      rw [if_pos (by omega), sumZ_same (V := fun i => r.Z (i + 1)) fun i hi => if_neg (by omega)]
      omega
    have h2 := sum_shift r.Z k
    rw [h1]
    omega
theorem flowC_ok {r : Rc} (h : rOk r = true) : rOk (flowC r) = true := by
  have H := rOk_iff.1 h
  have ht := flowC_tot r
  have h1 := H.t1
  rcases Nat.eq_zero_or_pos r.m with e | e
  · unfold flowC; rw [if_pos e]; exact h
  · have hp := part_le H e
    have hz := H.z 0 e
    have hv := H.v0
    have hs := (sumZ_mono (Z := r.Z) (n := r.m) (fun i hi => (H.z i hi).1) (k := 1) (by omega))
    have hs1 : sumZ r.Z 1 = r.Z 0 := by show 0 + r.Z 0 = _; omega
    have htt : totZ r = r.v + sumZ r.Z r.m := rfl
    have e' : flowC r = { r with v := r.v + r.Z 0, Z := fun i => if i = r.m - 1 then 0 else r.Z (i + 1) } := by unfold flowC; rw [if_neg (by omega)]
    rw [e'] at ht ⊢
    refine rOk_iff.2 ⟨H.tab, by show 0 ≤ r.v + r.Z 0; omega, by show r.v + r.Z 0 ≤ 1000000000; omega, H.m, fun i hi => ?_, by rw [ht]; exact H.t1⟩
    show 0 ≤ (if i = r.m - 1 then 0 else r.Z (i + 1)) ∧ (if i = r.m - 1 then 0 else r.Z (i + 1)) ≤ 1000000000
    have hi' : i < r.m := hi
    split
    · omega
    · have := H.z (i + 1) (by omega); omega
end Go.Proofs.Ytngmpimoebggdaa.C1
