/- Rows of trains whose places in memory are known; their sums of the program. -/
import Derived.Test.YtmfeleocjmdooaaLkL
import Derived.Test.YtmfeleocjmdooaaTrI5
namespace Go.Proofs.Ytmfeleocjmdooaa.C1
open Go.ChangeShapes Go.WideShapes Go.ChangeAt Go.RowKit
set_option linter.unusedVariables false

/-- A train with its rows' place. -/
structure Ti where
  t : Tr
  A : Option Addr
  c : Nat
def Ti.cells (p : Ti) : List Value := [.bool p.t.up, .slice p.A p.t.R.length p.c]
def til (L : List Ti) : List Value := L.flatMap Ti.cells
theorem til_len (L : List Ti) : (til L).length = L.length * 2 := by
  induction L with
  | nil => rfl
  | cons b L ih => unfold til at *; rw [List.flatMap_cons, List.length_append, ih]; show 2 + _ = _; simp only [List.length_cons]; omega
theorem til_app (L M : List Ti) : til (L ++ M) = til L ++ til M := by simp [til]
theorem til_one' (b : Ti) : til [b] = b.cells := by simp [til]
theorem til_at {L : List Ti} {i j : Nat} {b : Ti} (h : L[i]? = some b) (hj : j < 2) : (til L)[i * 2 + j]? = b.cells[j]? := by
  induction L generalizing i with
  | nil => simp at h
  | cons a L ih =>
    have e : til (a :: L) = a.cells ++ til L := by simp [til]
    rw [e]
    cases i with
    | zero =>
      simp at h
      subst h
      rw [Nat.zero_mul, Nat.zero_add, List.getElem?_append_left (by show j < 2; exact hj)]
    | succ i =>
      have hl : a.cells.length = 2 := rfl
      rw [List.getElem?_append_right (by omega), hl, show (i + 1) * 2 + j - 2 = i * 2 + j by omega]
      exact ih (by simpa using h)
theorem til_cell {L : List Ti} : ∀ u ∈ til L, u.oneCell' = true := fun u hu => by
  obtain ⟨b, _, h⟩ := List.mem_flatMap.1 hu
  simp [Ti.cells] at h
  rcases h with rfl | rfl <;> rfl
def Tis (w : World) (A : Option Addr) (L : List Ti) : Prop :=
  0 < L.length → ∃ g o, A = some ⟨g, o, none⟩ ∧ ∀ i a, L[i]? = some a → w.cell? ⟨g, o + i * 2, none⟩ = some (.bool a.t.up) ∧ w.cell? ⟨g, o + i * 2 + 1, none⟩ = some (.slice a.A a.t.R.length a.c)
theorem Tis.below {w w' : World} {A : Option Addr} {L : List Ti} (h : Tis w A L) (hb : Below w.heap.size w w') : Tis w' A L := fun hn => by
  obtain ⟨g, o, e, hc⟩ := h hn
  exact ⟨g, o, e, fun i a hi => ⟨(hb.cell (World.block_lt_of_cell? _ _ (hc i a hi).1)).trans (hc i a hi).1, (hb.cell (World.block_lt_of_cell? _ _ (hc i a hi).2)).trans (hc i a hi).2⟩⟩
/-- The trains' rows are in memory. -/
def TiOk (w : World) (L : List Ti) : Prop := ∀ a ∈ L, Mod a.t.R ∧ Trn w a.A a.t.R
theorem TiOk.below {w w' : World} {L : List Ti} (h : TiOk w L) (hb : Below w.heap.size w w') : TiOk w' L := fun a ha => ⟨(h a ha).1, (h a ha).2.below hb⟩
theorem tis_of_own {w : World} {B : Nat} {v : Value} {t : TypeId} {L : List Ti} (h : w.ownsRow B t 2 v L.length (til L)) : ∃ A c, v = .slice A L.length c ∧ Tis w A L := by
  rcases h.2 with ⟨rfl, h0⟩ | ⟨g, cap, cur, rfl, _⟩
  · exact ⟨none, 0, by rw [h0], fun hn => by omega⟩
  · refine ⟨_, cap, rfl, fun _ => ⟨g, 0, rfl, fun i a hi => ?_⟩⟩
    have hl := len_of hi
    have e : ∀ j, j < 2 → w.cell? ⟨g, i * 2 + j, none⟩ = a.cells[j]? := fun j hj => (h.cellAt _ (by omega)).trans (til_at hi hj)
    rw [Nat.zero_add]
    exact ⟨e 0 (by omega), e 1 (by omega)⟩
theorem pick_list {α β : Type} {S : List α} {P : Nat → α → β → Prop} (h : ∀ i t, S[i]? = some t → ∃ b, P i t b) : ∃ L : List β, L.length = S.length ∧ ∀ i t b, S[i]? = some t → L[i]? = some b → P i t b := by
  induction S generalizing P with
  | nil => exact ⟨[], rfl, fun i t b h => by simp at h⟩
  | cons a S ih =>
    obtain ⟨b0, hb0⟩ := h 0 a rfl
    obtain ⟨L, hl, hL⟩ := ih (P := fun i => P (i + 1)) (fun i t hi => h (i + 1) t (by simpa using hi))
    refine ⟨b0 :: L, by simp [hl], fun i t b ht hb => ?_⟩
    cases i with
    | zero =>
      simp at ht hb
      subst ht; subst hb
      exact hb0
    | succ i => exact hL i t b (by simpa using ht) (by simpa using hb)
theorem trs_ti {w : World} {A : Option Addr} {S : List Tr} (hm : ∀ t ∈ S, Mod t.R) (h : Trs w A S) : ∃ L : List Ti, L.map Ti.t = S ∧ Tis w A L ∧ TiOk w L := by
  rcases Nat.eq_zero_or_pos S.length with h0 | h0
  · rw [List.eq_nil_of_length_eq_zero h0]
    exact ⟨[], rfl, fun h => absurd h (by simp), fun a ha => by cases ha⟩
  obtain ⟨g, o, rfl, hc⟩ := h h0
  obtain ⟨L, hl, hL⟩ := pick_list (S := S) (P := fun i t (b : Ti) => b.t = t ∧ w.cell? ⟨g, o + i * 2, none⟩ = some (.bool b.t.up) ∧ w.cell? ⟨g, o + i * 2 + 1, none⟩ = some (.slice b.A b.t.R.length b.c) ∧ Trn w b.A b.t.R) (fun i t hi => by
    obtain ⟨h1, Ai, ci, h2, h3⟩ := hc i t hi
    exact ⟨⟨t, Ai, ci⟩, rfl, h1, h2, h3.out⟩)
  have hat : ∀ (i : Nat) (b : Ti), L[i]? = some b → ∃ t, S[i]? = some t ∧ b.t = t ∧ w.cell? ⟨g, o + i * 2, none⟩ = some (.bool b.t.up) ∧ w.cell? ⟨g, o + i * 2 + 1, none⟩ = some (.slice b.A b.t.R.length b.c) ∧ Trn w b.A b.t.R := fun i b hb => by
    obtain ⟨t, ht⟩ := get_of (L := S) (k := i) (by have := len_of hb; omega)
    exact ⟨t, ht, hL i t b ht hb⟩
  refine ⟨L, List.ext_getElem? fun i => ?_, fun _ => ⟨g, o, rfl, fun i b hb => ?_⟩, fun b hb => ?_⟩
  · rw [List.getElem?_map]
    cases hb : L[i]? with
    | none =>
      rw [List.getElem?_eq_none_iff] at hb
      rw [Option.map_none, List.getElem?_eq_none (by omega)]
    | some b =>
      obtain ⟨t, ht, e, _⟩ := hat i b hb
      rw [ht, Option.map_some, e]
  · obtain ⟨t, ht, e, h1, h2, _⟩ := hat i b hb
    exact ⟨h1, h2⟩
  · obtain ⟨i, hi⟩ := List.getElem?_of_mem hb
    obtain ⟨t, ht, e, _, _, h3⟩ := hat i b hi
    exact ⟨by rw [e]; exact hm t (mem_of ht), h3⟩
def sumX (r : List Ti) : Int := r.foldl (fun n a => wrap64 (n + widX a.t.R)) 0
def topX (r : List Ti) : Int := r.foldl (fun n a => max n (lenW a.t.R)) 0
set_option maxRecDepth 100000 in
set_option maxHeartbeats 1000000 in
theorem sumT_impl (A : Option Addr) (c : Nat) (L : List Ti) (w : World) (hn : L.length ≤ 1048576) (hk : TiOk w L) (hp : Tis w A L) :
    Calls Try.prog 182 #[.slice A L.length c] w fun e w' => e = .returned (.int .i64 (sumX L)) ∧ Below w.heap.size w w' := by
  have HP := vl hp
  have HK := vl hk
  clear hp hk
  go_enter Try.func182, Try.ntmps182
  go_wp2
  go_loopw [3, 8] (fun n i wr => ∃ k : Nat, k ≤ L.length ∧ i = .int .i64 k ∧ n = .int .i64 (fk (fun n (a : Ti) => wrap64 (n + widX a.t.R)) 0 L k) ∧ Veil (Below w.heap.size w wr)) (fun _ i _ => L.length - (intOf i).toNat)
  case atStart => exact ⟨0, by omega, rfl, by rw [fk_zero], vl (Below.refl _ _)⟩
  case round =>
    obtain ⟨k, hk, rfl, rfl, HB⟩ := hrel
    by_cases hlt : k < L.length
    · obtain ⟨b, hb⟩ := get_of hlt
      obtain ⟨g, o, rfl, hc⟩ := (HP.out.below HB.out) (by omega)
      obtain ⟨x0, x1⟩ := hc k b hb
      have HB0 := vl (HB.out.alloc HB.out.size (.cells #[.bool b.t.up, .slice b.A b.t.R.length b.c] 26))
      obtain ⟨hm1, hp1⟩ := HK.out b (mem_of hb)
      have HM1 := vl hm1
      have HP1 := vl (hp1.below HB0.out)
      have HS := vl (fk_succ (f := fun n (a : Ti) => wrap64 (n + widX a.t.R)) (a := (0 : Int)) hb)
      clear hc hb hm1 hp1
      generalize fk (fun n (a : Ti) => wrap64 (n + widX a.t.R)) 0 L k = n at HS ⊢
      have hm : ∀ w : World, (method 315 26 (.agg #[.bool b.t.up, .slice b.A b.t.R.length b.c]) "loop.example/g03317/impl.width").run Try.prog w = .ok (102, .agg #[.bool b.t.up, .slice b.A b.t.R.length b.c]) w := fun _ => by kernel_rfl
      go_wp2_with fail
      refine (twid_impl b.t.up b.A b.c b.t.R _ HM1.out HP1.out).mono ?_
      rintro e w1 ⟨rfl, hb1⟩
      have HB1 := vl (HB0.out.trans (hb1.mono HB0.out.size))
      clear hb1 hm x0 x1
      go_wp2
      all_goals
        go_roundw
        case rel => exact ⟨k + 1, by omega, by go_num, congrArg (Value.int .i64) (by rw [HS.out]), HB1⟩
        case measure => simp [intOf]; omega
    · obtain rfl : k = L.length := by omega
      go_wp2
      go_ret
      exact ⟨by rw [fk_end]; rfl, HB.out⟩
set_option maxRecDepth 100000 in
set_option maxHeartbeats 1000000 in
theorem topT_impl (A : Option Addr) (c : Nat) (L : List Ti) (w : World) (hn : L.length ≤ 1048576) (hk : TiOk w L) (hp : Tis w A L) :
    Calls Try.prog 183 #[.slice A L.length c] w fun e w' => e = .returned (.int .i64 (topX L)) ∧ Below w.heap.size w w' := by
  have HP := vl hp
  have HK := vl hk
  clear hp hk
  go_enter Try.func183, Try.ntmps183
  go_wp2
  go_loopw [3, 8] (fun n i wr => ∃ k : Nat, k ≤ L.length ∧ i = .int .i64 k ∧ n = .int .i64 (fk (fun n (a : Ti) => max n (lenW a.t.R)) 0 L k) ∧ Veil (Below w.heap.size w wr)) (fun _ i _ => L.length - (intOf i).toNat)
  case atStart => exact ⟨0, by omega, rfl, by rw [fk_zero], vl (Below.refl _ _)⟩
  case round =>
    obtain ⟨k, hk, rfl, rfl, HB⟩ := hrel
    by_cases hlt : k < L.length
    · obtain ⟨b, hb⟩ := get_of hlt
      obtain ⟨g, o, rfl, hc⟩ := (HP.out.below HB.out) (by omega)
      obtain ⟨x0, x1⟩ := hc k b hb
      have HB0 := vl (HB.out.alloc HB.out.size (.cells #[.bool b.t.up, .slice b.A b.t.R.length b.c] 26))
      obtain ⟨hm1, hp1⟩ := HK.out b (mem_of hb)
      have HM1 := vl hm1
      have HP1 := vl (hp1.below HB0.out)
      have HS := vl (fk_succ (f := fun n (a : Ti) => max n (lenW a.t.R)) (a := (0 : Int)) hb)
      clear hc hb hm1 hp1
      generalize fk (fun n (a : Ti) => max n (lenW a.t.R)) 0 L k = n at HS ⊢
      have hm : ∀ w : World, (method 315 26 (.agg #[.bool b.t.up, .slice b.A b.t.R.length b.c]) "loop.example/g03317/impl.length").run Try.prog w = .ok (101, .agg #[.bool b.t.up, .slice b.A b.t.R.length b.c]) w := fun _ => by kernel_rfl
      go_wp2_with fail
      refine (tlen_impl b.t.up b.A b.c b.t.R _ HM1.out HP1.out).mono ?_
      rintro e w1 ⟨rfl, hb1⟩
      have HB1 := vl (HB0.out.trans (hb1.mono HB0.out.size))
      clear hb1 hm x0 x1
      go_wp2
      all_goals
        go_roundw
        case rel => exact ⟨k + 1, by omega, by go_num, congrArg (Value.int .i64) (by rw [HS.out]; omega), HB1⟩
        case measure => simp [intOf]; omega
    · obtain rfl : k = L.length := by omega
      go_wp2
      go_ret
      exact ⟨by rw [fk_end]; rfl, HB.out⟩
end Go.Proofs.Ytmfeleocjmdooaa.C1
