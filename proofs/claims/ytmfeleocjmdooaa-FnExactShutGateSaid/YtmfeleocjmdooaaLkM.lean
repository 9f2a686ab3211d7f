/- The mathematics of locks: trains in a chamber, whether a lock is valid, its level. -/
import Derived.Test.YtmfeleocjmdooaaTrnM
namespace Go.Proofs.Ytmfeleocjmdooaa.C1
set_option linter.unusedVariables false

structure Tr where
  up : Bool
  R : List (List Bt)
instance : Inhabited Tr := ⟨⟨false, []⟩⟩
structure Lk where
  le : Int
  wi : Int
  sa : Int
  sb : Int
  ba : Int
  ar : Int
  ra : Int
  wa : Int
  ga : Int
/-- All boats of trains. -/
def boz (S : List Tr) : List Bt := S.flatMap fun t => bts t.R
def allOk (S : List Tr) : Bool := S.all fun t => tOk t.R
def trsB (S : List Tr) : Bool := decide (S.length ≤ 8) && (allOk S && difB (idz (boz S)))
def chB (k : Lk) : Bool := inB k.le 1 1000 && (inB k.wi 1 100 && (inB k.sa 0 100000 && (inB k.sb 0 100000 && (inB k.ba 0 100000 && (inB k.ar 1 10000 && (inB k.ra 1 100000 && (inB k.wa 0 1000000000 && inB k.ga 0 2)))))))
def lkB (k : Lk) (S : List Tr) : Bool := chB k && trsB S
structure LIn (k : Lk) : Prop where
  le0 : 1 ≤ k.le
  le1 : k.le ≤ 1000
  wi0 : 1 ≤ k.wi
  wi1 : k.wi ≤ 100
  sa0 : 0 ≤ k.sa
  sa1 : k.sa ≤ 100000
  sb0 : 0 ≤ k.sb
  sb1 : k.sb ≤ 100000
  ba0 : 0 ≤ k.ba
  ba1 : k.ba ≤ 100000
  ar0 : 1 ≤ k.ar
  ar1 : k.ar ≤ 10000
  ra0 : 1 ≤ k.ra
  ra1 : k.ra ≤ 100000
  wa0 : 0 ≤ k.wa
  wa1 : k.wa ≤ 1000000000
  ga0 : 0 ≤ k.ga
  ga1 : k.ga ≤ 2
theorem chB_iff {k : Lk} : chB k = true ↔ LIn k := by
  unfold chB
  simp only [Bool.and_eq_true, inB_iff]
  constructor
  · rintro ⟨⟨h1, h2⟩, ⟨h3, h4⟩, ⟨h5, h6⟩, ⟨h7, h8⟩, ⟨h9, h10⟩, ⟨h11, h12⟩, ⟨h13, h14⟩, ⟨h15, h16⟩, h17, h18⟩
    exact ⟨h1, h2, h3, h4, h5, h6, h7, h8, h9, h10, h11, h12, h13, h14, h15, h16, h17, h18⟩
  · intro h
    exact ⟨⟨h.le0, h.le1⟩, ⟨h.wi0, h.wi1⟩, ⟨h.sa0, h.sa1⟩, ⟨h.sb0, h.sb1⟩, ⟨h.ba0, h.ba1⟩, ⟨h.ar0, h.ar1⟩, ⟨h.ra0, h.ra1⟩, ⟨h.wa0, h.wa1⟩, h.ga0, h.ga1⟩
theorem lk_in {k : Lk} {S : List Tr} (h : lkB k S = true) : LIn k := by
  unfold lkB at h
  rw [Bool.and_eq_true] at h
  exact chB_iff.1 h.1
/-- The level of a chamber. -/
def lvK (k : Lk) (S : List Tr) : Int := if lkB k S = true then min (k.ba + k.wa / k.ar) 100000 else 0

theorem difB_nodup {L : List Int} : difB L = true ↔ L.Nodup := by
  rw [difB_iff, List.Nodup, List.pairwise_iff_getElem]
  constructor
  · intro h i j hi hj hij e
    exact h i j _ hij (List.getElem?_eq_getElem hi) (by rw [List.getElem?_eq_getElem hj, e])
  · intro h i k x hik h1 h2
    obtain ⟨a1, b1⟩ := List.getElem?_eq_some_iff.1 h1
    obtain ⟨a2, b2⟩ := List.getElem?_eq_some_iff.1 h2
    exact h i k a1 a2 hik (b1.trans b2.symm)
theorem difB_app {L M : List Int} : difB (L ++ M) = true ↔ difB L = true ∧ difB M = true ∧ ∀ x ∈ L, x ∉ M := by
  rw [difB_nodup, difB_nodup, difB_nodup, List.nodup_append]
  constructor
  · rintro ⟨h1, h2, h3⟩
    exact ⟨h1, h2, fun x hx hm => h3 x hx x hm rfl⟩
  · rintro ⟨h1, h2, h3⟩
    exact ⟨h1, h2, fun x hx y hy e => h3 x hx (e ▸ hy)⟩
theorem idz_app (L M : List Bt) : idz (L ++ M) = idz L ++ idz M := by simp [idz]
theorem boz_app (S U : List Tr) : boz (S ++ U) = boz S ++ boz U := by simp [boz]
theorem boz_take {S : List Tr} {k : Nat} {t : Tr} (h : S[k]? = some t) : boz (S.take (k + 1)) = boz (S.take k) ++ bts t.R := by
  rw [List.take_add_one, h, boz_app]
  simp [boz]
theorem boz_split (S : List Tr) (k : Nat) : boz S = boz (S.take k) ++ boz (S.drop k) := by
  rw [← boz_app, List.take_append_drop]
theorem boz_take_le (S : List Tr) (k : Nat) : (boz (S.take k)).length ≤ (boz S).length := by
  rw [boz_split S k, List.length_append]; omega
theorem boz_mem_le {S : List Tr} {t : Tr} (h : t ∈ S) : (bts t.R).length ≤ (boz S).length := by
  obtain ⟨k, hk⟩ := List.getElem?_of_mem h
  have := boz_take_le S (k + 1)
  rw [boz_take hk, List.length_append] at this
  omega
theorem dif_no {S : List Tr} {k i j : Nat} {t : Tr} {x : Int} (ht : S[k]? = some t) (h1 : (idz (boz (S.take k)))[i]? = some x) (h2 : (idz (bts t.R))[j]? = some x) : difB (idz (boz S)) = false := by
  rw [Bool.eq_false_iff]
  intro h
  rw [boz_split S (k + 1), idz_app] at h
  have h3 := (difB_app.1 h).1
  rw [boz_take ht, idz_app] at h3
  exact (difB_app.1 h3).2.2 x (mem_of h1) (mem_of h2)
theorem dif_yes {S : List Tr} {k : Nat} {t : Tr} (ht : S[k]? = some t) (h0 : difB (idz (boz (S.take k))) = true) (h1 : difB (idz (bts t.R)) = true)
    (h2 : ∀ (i : Nat) (x : Int), (idz (bts t.R))[i]? = some x → ∀ (j : Nat) (y : Int), (idz (boz (S.take k)))[j]? = some y → y ≠ x) : difB (idz (boz (S.take (k + 1)))) = true := by
  rw [boz_take ht, idz_app]
  refine difB_app.2 ⟨h0, h1, fun x hx hm => ?_⟩
  obtain ⟨j, hj⟩ := List.getElem?_of_mem hx
  obtain ⟨i, hi⟩ := List.getElem?_of_mem hm
  exact h2 i x hi j x hj rfl
theorem allOk_at {S : List Tr} (h : allOk S = true) {t : Tr} (ht : t ∈ S) : tOk t.R = true := by
  unfold allOk at h
  exact List.all_eq_true.1 h t ht
theorem allOk_no {S : List Tr} {t : Tr} (ht : t ∈ S) (h : tOk t.R = false) : allOk S = false := by
  rw [Bool.eq_false_iff]
  intro h'
  rw [allOk_at h' ht] at h; cases h
theorem allOk_of {S : List Tr} (h : ∀ (i : Nat) (t : Tr), S[i]? = some t → tOk t.R = true) : allOk S = true := by
  unfold allOk
  rw [List.all_eq_true]
  intro t ht
  obtain ⟨i, hi⟩ := List.getElem?_of_mem ht
  exact h i t hi
theorem boz_len {S : List Tr} (h : allOk S = true) : (boz S).length ≤ S.length * 6 := by
  induction S with
  | nil => simp [boz]
  | cons t S ih =>
    have h1 : tOk t.R = true := allOk_at h List.mem_cons_self
    have h2 : allOk S = true := allOk_of fun i u hu => allOk_at h (List.mem_cons_of_mem _ (mem_of hu))
    have h3 := (tOk_iff.1 h1).n1
    have h4 := ih h2
    have e : boz (t :: S) = bts t.R ++ boz S := by simp [boz]
    rw [e, List.length_append, List.length_cons]; omega
theorem allOk_no' {S : List Tr} (h : allOk S = false) : ∃ (i : Nat) (t : Tr), S[i]? = some t ∧ tOk t.R = false := by
  unfold allOk at h
  rw [List.all_eq_false] at h
  obtain ⟨t, hm, ht⟩ := h
  obtain ⟨i, hi⟩ := List.getElem?_of_mem hm
  exact ⟨i, t, hi, by simpa using ht⟩
theorem trsB_len {S : List Tr} (h : 8 < S.length) : trsB S = false := by
  unfold trsB; rw [decide_eq_false (by omega), Bool.false_and]
theorem trsB_bad {S : List Tr} (h : allOk S = false) : trsB S = false := by unfold trsB; rw [h, Bool.false_and, Bool.and_false]
theorem trsB_of {S : List Tr} (h1 : S.length ≤ 8) (h2 : allOk S = true) : trsB S = difB (idz (boz S)) := by
  unfold trsB; rw [decide_eq_true h1, h2, Bool.true_and, Bool.true_and]
end Go.Proofs.Ytmfeleocjmdooaa.C1
