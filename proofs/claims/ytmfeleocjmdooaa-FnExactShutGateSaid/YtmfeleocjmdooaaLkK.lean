/- The laws' marking of locks, and their look back. -/
import Derived.Test.YtmfeleocjmdooaaLkL
import Derived.Test.YtmfeleocjmdooaaTrnK
namespace Go.Proofs.Ytmfeleocjmdooaa.C1
open Go.ChangeShapes Go.WideShapes Go.ChangeAt Go.RowKit
set_option linter.unusedVariables false

/-- The count at which the marks of train i begin. -/
def kAt (S : List Tr) (K i : Nat) : Nat := K + i + 6 * (boz (S.take i)).length
def mark3 (K : Nat) : Bool := ((K : Int) % 3 == 0)
def markTr (S : List Tr) (K i : Nat) : Tr := ⟨mark3 (kAt S K i), markT ((S[i]?).getD default).R (kAt S K i + 1)⟩
def markS (S : List Tr) (K : Nat) : List Tr := (List.range S.length).map (markTr S K)
theorem markS_len (S : List Tr) (K : Nat) : (markS S K).length = S.length := by simp [markS]
theorem markS_at {S : List Tr} {K i : Nat} (h : i < S.length) : (markS S K)[i]? = some (markTr S K i) := by simp [markS, h]
theorem markTr_of {S : List Tr} {K i : Nat} {t : Tr} (h : S[i]? = some t) : markTr S K i = ⟨mark3 (kAt S K i), markT t.R (kAt S K i + 1)⟩ := by unfold markTr; rw [h]; rfl
theorem eq_markS {M S : List Tr} {K : Nat} (hl : M.length = S.length) (h : ∀ i, i < S.length → M[i]? = some (markTr S K i)) : M = markS S K := by
  refine List.ext_getElem? fun i => ?_
  rcases Nat.lt_or_ge i S.length with hi | hi
  · rw [h i hi, markS_at hi]
  · rw [List.getElem?_eq_none (by omega), List.getElem?_eq_none (by rw [markS_len]; omega)]
theorem kAt_succ {S : List Tr} {K i : Nat} {t : Tr} (h : S[i]? = some t) : kAt S K (i + 1) = kAt S K i + 1 + 6 * (bts t.R).length := by
  unfold kAt
  rw [boz_take h, List.length_append]; omega
theorem kAt_le {S : List Tr} {K i : Nat} (hm : ModS S) (hi : i ≤ S.length) : kAt S K i ≤ K + 7340032 := by
  have h1 := boz_take_le S i
  have h2 := hm.boz
  have h3 := hm.len
  unfold kAt; omega
section
variable {w w' : World} {B L g : Nat} {A : Option Addr} {S : List Tr} {lo hi gg : Nat → Nat} {GG : Nat → Nat → Nat}
/-- One train's direction set anew. -/
theorem OwnTs.setUp (h : OwnTs w B L A S g lo hi gg GG) {n : Nat} {t : Tr} (ht : S[n]? = some t) (u : Bool) : OwnTs (w.setCell ⟨g, n * 2, none⟩ (.bool u)) B L A (S.set n ⟨u, t.R⟩) g lo hi gg GG := by
  have hn := len_of ht
  have hg := h.inG (by omega)
  have hT := (Touch.refl w g (g + 1)).set g (n * 2) (.bool u) (Nat.le_refl _) (Nat.lt_succ_self _)
  refine ⟨fun hp => h.head (by rw [List.length_set] at hp; exact hp), fun hp => hg, fun i x hx => ?_, ?_, fun i hi' => ?_, fun i j hij hj => h.ord i j hij (by rw [List.length_set] at hj; exact hj)⟩
  · have hil : i < S.length := by have := len_of hx; rwa [List.length_set] at this
    have hd := h.inR i hil
    by_cases e : i = n
    · subst e
      rw [List.getElem?_set_self hn] at hx
      injection hx with hx
      subst hx
      obtain ⟨h0, Ai, ci, h1, h2⟩ := h.row i t ht
      exact ⟨World.cell?_setCell_same _ _ _ h0, Ai, ci, (World.cell?_setCell_other _ _ _ _ (by intro e; injection e with _ e; omega)).trans h1, h2.touch hT (by omega)⟩
    · rw [List.getElem?_set_ne (fun h => e h.symm)] at hx
      obtain ⟨h0, Ai, ci, h1, h2⟩ := h.row i x hx
      exact ⟨(World.cell?_setCell_other _ _ _ _ (by intro e; injection e with _ e; omega)).trans h0, Ai, ci, (World.cell?_setCell_other _ _ _ _ (by intro e; injection e with _ e; omega)).trans h1, h2.touch hT (by omega)⟩
  · intro i hi'
    rw [World.frozen?_setCell]
    exact h.free i (by rw [List.length_set] at hi'; exact hi')
  · rw [List.length_set] at hi'
    have := h.inR i hi'
    have hs := hT.size
    omega
/-- One train's rows changed where they lie. -/
theorem OwnTs.setRows (h : OwnTs w B L A S g lo hi gg GG) {n : Nat} {t : Tr} {R : List (List Bt)} (ht : S[n]? = some t) (hl : R.length = t.R.length) (hT : Touch w w' (lo n) (hi n))
    (ho : ∀ Ai, OwnT w (lo n) (hi n) Ai t.R (gg n) (GG n) → OwnT w' (lo n) (hi n) Ai R (gg n) (GG n)) : OwnTs w' B L A (S.set n ⟨t.up, R⟩) g lo hi gg GG := by
  have hn := len_of ht
  have hg := h.inG (by omega)
  have hd := h.inR n hn
  have hgl := h.lt (by omega)
  have hb : w'.heap[g]? = w.heap[g]? := hT.block g hgl (by omega)
  refine ⟨fun hp => h.head (by rw [List.length_set] at hp; exact hp), fun hp => hg, fun i x hx => ?_, ?_, fun i hi' => ?_, fun i j hij hj => h.ord i j hij (by rw [List.length_set] at hj; exact hj)⟩
  · have hil : i < S.length := by have := len_of hx; rwa [List.length_set] at this
    by_cases e : i = n
    · subst e
      rw [List.getElem?_set_self hn] at hx
      injection hx with hx
      subst hx
      obtain ⟨h0, Ai, ci, h1, h2⟩ := h.row i t ht
      exact ⟨(World.cell?_of_block hb).trans h0, Ai, ci, (World.cell?_of_block hb).trans (by rw [h1, hl]), ho Ai h2⟩
    · rw [List.getElem?_set_ne (fun h => e h.symm)] at hx
      obtain ⟨h0, Ai, ci, h1, h2⟩ := h.row i x hx
      have hord : hi i ≤ lo n ∨ hi n ≤ lo i := by
        rcases Nat.lt_or_gt_of_ne e with h3 | h3
        · exact Or.inl (h.ord i n h3 hn)
        · exact Or.inr (h.ord n i h3 hil)
      exact ⟨(World.cell?_of_block hb).trans h0, Ai, ci, (World.cell?_of_block hb).trans h1, h2.touch hT (by omega)⟩
  · intro i hi'
    exact (frozen_of_block hb).trans (h.free i (by rw [List.length_set] at hi'; exact hi'))
  · rw [List.length_set] at hi'
    have := h.inR i hi'
    have hs := hT.size
    omega
end
theorem Touch.widen {w w' : World} {B L B' L' : Nat} (t : Touch w w' B L) (hB : B' ≤ B) (hL : L ≤ L') : Touch w w' B' L' := ⟨t.os, t.tape, t.output, t.size, fun k hk ho => t.block k hk (by omega)⟩
set_option maxRecDepth 100000 in
set_option maxHeartbeats 2000000 in
theorem markTrainS (A : Option Addr) (c K : Nat) (S : List Tr) (w : World) (hm : ModS S) (hK : K ≤ 30000000) {B L g : Nat} {lo hi gg : Nat → Nat} {GG : Nat → Nat → Nat} (h : OwnTs w B L A S g lo hi gg GG) :
    Calls Try.prog 138 #[.slice A S.length c, .int .i64 (K : Int)] w fun e w' => e = .returned (.int .i64 ((kAt S K S.length : Nat) : Int)) ∧ OwnTs w' B L A (markS S K) g lo hi gg GG ∧ Touch w w' B L := by
  have HO := vl h
  have HM := vl hm
  have hn := hm.len
  clear h hm
  go_enter Try.func138, Try.ntmps138
  go_wp2
  go_loopw [1, 5] (fun m i wr => ∃ n : Nat, n ≤ S.length ∧ i = .int .i64 n ∧ m = .int .i64 ((kAt S K n : Nat) : Int) ∧ (∃ M : List Tr, M.length = S.length ∧ Veil (OwnTs wr B L A M g lo hi gg GG) ∧ Veil (∀ i, i < n → M[i]? = some (markTr S K i)) ∧ Veil (∀ i, n ≤ i → M[i]? = S[i]?)) ∧ Veil (Touch w wr B L)) (fun _ i _ => S.length - (intOf i).toNat)
  case atStart => exact ⟨0, by omega, rfl, by simp [kAt, boz], ⟨S, rfl, HO, vl fun i h => by omega, vl fun i _ => rfl⟩, vl (Touch.refl _ _ _)⟩
  case round =>
    obtain ⟨n, hk, rfl, rfl, ⟨M, hMl, HR, H1, H2⟩, HT⟩ := hrel
    by_cases hlt : n < S.length
    · obtain ⟨t, ht⟩ := get_of hlt
      have htM : M[n]? = some t := (H2.out n (Nat.le_refl _)).trans ht
      have hmn : n < M.length := len_of htM
      obtain rfl := HR.out.head (by omega)
      obtain ⟨c0, Ai, ci, c1, hO⟩ := HR.out.row n t htM
      have z0 := HR.out.free (n * 2) (by omega)
      have HK := vl ht
      have HKM := vl htM
      have HMt := vl (HM.out.all t (mem_of ht))
      have HKS := vl (kAt_succ (K := K) ht)
      have hkl := kAt_le (K := K) HM.out hk
      have HTR := vl (markTr_of (K := K) ht)
      obtain ⟨q, hq⟩ : ∃ q, kAt S K n = q := ⟨_, rfl⟩
      rw [hq] at hkl HKS HTR ⊢
      have HQ := vl hq
      have h0 : (0 : Int) ≤ (q : Int) := by omega
      have hin := HR.out.inR n (by omega)
      have hgl := HR.out.inG (by omega)
      have hset : (M.set n ⟨mark3 q, t.R⟩)[n]? = some (⟨mark3 q, t.R⟩ : Tr) := List.getElem?_set_self hmn
      have HU := vl (And.intro (show OwnTs (wr.setCell ⟨g, n * 2, none⟩ (.bool ((q : Int) % 3 == 0))) B L (some ⟨g, 0, none⟩) (M.set n ⟨mark3 q, t.R⟩) g lo hi gg GG from HR.out.setUp htM (mark3 q)) hset)
      have hO2 := hO.touch ((Touch.refl wr g (g + 1)).set g (n * 2) (.bool ((q : Int) % 3 == 0)) (Nat.le_refl _) (Nat.lt_succ_self _)) (by omega)
      have HT1 := vl (HT.out.set g (n * 2) (.bool ((q : Int) % 3 == 0)) hgl.1 hgl.2)
      have hcall := markBoatSS Ai ci (q + 1) t.R (wr.setCell ⟨g, n * 2, none⟩ (.bool ((q : Int) % 3 == 0))) HMt.out (by omega) hO2
      rw [show ((q + 1 : Nat) : Int) = (q : Int) + 1 from by omega] at hcall
      have HC := vl hcall
      obtain ⟨q2, hq2⟩ : ∃ q2, q + 1 + 6 * (bts t.R).length = q2 := ⟨_, rfl⟩
      have HQ2 := vl (show kAt S K (n + 1) = q2 by rw [HKS.out, hq2])
      have hz2 : (0 : Int) ≤ (q2 : Int) := by omega
      rw [hq2] at HC
      clear ht htM hq hO hO2 hcall hq2 hset hgl
      go_wp2_with fail
      refine HC.out.mono ?_
      rintro e w1 ⟨rfl, ho1, ht1⟩
      have HN := HU.out.1.setRows HU.out.2 (markT_len t.R (q + 1)) ht1 (fun Ai' h' => ⟨fun hp => h'.head (by rw [markT_len] at hp; exact hp), ho1.inG, ho1.row, ho1.inR, ho1.ne⟩)
      rw [List.set_set] at HN
      have HN1 := vl HN
      have HT2 := vl (HT1.out.trans (ht1.widen hin.1 hin.2.2.1))
      clear HN ho1 ht1 c0 c1 z0 HC HU hin
      go_wp2
      go_roundw
      case rel =>
        refine ⟨n + 1, by omega, by go_num, congrArg (Value.int .i64) (by rw [HQ2.out]), ⟨M.set n ⟨mark3 q, markT t.R (q + 1)⟩, by rw [List.length_set, hMl], HN1, vl fun i hi => ?_, vl fun i hi => ?_⟩, HT2⟩
        · by_cases e : i = n
          · subst e; rw [List.getElem?_set_self (by omega), HTR.out]
          · rw [List.getElem?_set_ne (fun h => e h.symm)]; exact H1.out i (by omega)
        · rw [List.getElem?_set_ne (by omega)]; exact H2.out i (by omega)
      case measure => simp [intOf]; omega
    · obtain rfl : n = S.length := by omega
      have he := eq_markS hMl H1.out
      subst he
      obtain ⟨q, hq⟩ : ∃ q, kAt S K S.length = q := ⟨_, rfl⟩
      rw [hq]
      have HF := vl hq
      clear hq
      go_wp2
      go_ret
      exact ⟨by rw [HF.out]; rfl, HR.out, HT.out⟩
set_option maxRecDepth 100000 in
set_option maxHeartbeats 2000000 in
theorem heldTrainS (A : Option Addr) (c K : Nat) (S : List Tr) (w : World) (hm : ModS S) (hK : K ≤ 30000000) {B L g : Nat} {lo hi gg : Nat → Nat} {GG : Nat → Nat → Nat} (h : OwnTs w B L A (markS S K) g lo hi gg GG) :
    Calls Try.prog 139 #[.slice A S.length c, .int .i64 (K : Int)] w fun e w' => e = .returned (.int .i64 ((kAt S K S.length : Nat) : Int)) ∧ w = w' := by
  have HO := vl h
  have HM := vl hm
  have hn := hm.len
  clear h hm
  go_enter Try.func139, Try.ntmps139
  go_wp2
  go_loop [1, 5] (fun m i => ∃ n : Nat, n ≤ S.length ∧ i = .int .i64 n ∧ m = .int .i64 ((kAt S K n : Nat) : Int)) (fun _ i => S.length - (intOf i).toNat)
  case atStart => exact ⟨0, by omega, rfl, by simp [kAt, boz]⟩
  case round =>
    obtain ⟨n, hk, rfl, rfl⟩ := hrel
    by_cases hlt : n < S.length
    · obtain ⟨t, ht⟩ := get_of hlt
      obtain rfl := HO.out.head (by rw [markS_len]; omega)
      obtain ⟨c0, Ai, ci, c1, hO⟩ := HO.out.row n _ (markS_at hlt)
      rw [markTr_of ht] at c0 c1 hO
      rw [show (Tr.mk (mark3 (kAt S K n)) (markT t.R (kAt S K n + 1))).R.length = t.R.length from markT_len _ _] at c1
      have HMt := vl (HM.out.all t (mem_of ht))
      have HKS := vl (kAt_succ (K := K) ht)
      have hkl := kAt_le (K := K) HM.out hk
      obtain ⟨q, hq⟩ : ∃ q, kAt S K n = q := ⟨_, rfl⟩
      rw [hq] at hkl HKS c0 hO ⊢
      have h0 : (0 : Int) ≤ (q : Int) := by omega
      have c0' : w.cell? ⟨g, n * 2, none⟩ = some (.bool ((q : Int) % 3 == 0)) := c0
      have e1 : (((q : Int) % 3 == 0) != ((q : Int) % 3 == 0)) = false := by simp
      have hcall := heldBoatSS Ai ci (q + 1) t.R w HMt.out (by omega) hO
      rw [show ((q + 1 : Nat) : Int) = (q : Int) + 1 from by omega] at hcall
      have HC := vl hcall
      obtain ⟨q2, hq2⟩ : ∃ q2, q + 1 + 6 * (bts t.R).length = q2 := ⟨_, rfl⟩
      have HQ2 := vl (show kAt S K (n + 1) = q2 by rw [HKS.out, hq2])
      have hz2 : (0 : Int) ≤ (q2 : Int) := by omega
      rw [hq2] at HC
      clear ht hq hO hcall hq2 c0
      go_wp2_with fail
      refine HC.out.mono ?_
      rintro e w' ⟨rfl, rfl⟩
      clear HC
      go_wp2
      go_round
      case rel => exact ⟨n + 1, by omega, by go_num, congrArg (Value.int .i64) (by rw [HQ2.out])⟩
      case measure => simp [intOf]; omega
    · obtain rfl : n = S.length := by omega
      obtain ⟨q, hq⟩ : ∃ q, kAt S K S.length = q := ⟨_, rfl⟩
      rw [hq]
      have HF := vl hq
      clear hq
      go_wp2
      go_ret
      exact ⟨by rw [HF.out]; rfl, rfl⟩
theorem markLock (k : Lk) (A : Option Addr) (c K : Nat) (S : List Tr) (w : World) (hm : ModS S) (hK : K ≤ 30000000) {B L g : Nat} {lo hi gg : Nat → Nat} {GG : Nat → Nat → Nat} (h : OwnTs w B L A S g lo hi gg GG) :
    Calls Try.prog 83 #[.agg #[.int .i64 k.le, .int .i64 k.wi, .int .i64 k.sa, .int .i64 k.sb, .int .i64 k.ba, .int .i64 k.ar, .int .i64 k.ra, .int .i64 k.wa, .int .i64 k.ga, .slice A S.length c], .int .i64 (K : Int)] w fun e w' => e = .returned (.int .i64 ((kAt S K S.length : Nat) : Int)) ∧ OwnTs w' B L A (markS S K) g lo hi gg GG ∧ Touch w w' B L := by
  have hb := (Below.refl w.heap.size w).alloc (Nat.le_refl _) (.cells #[.int .i64 k.le, .int .i64 k.wi, .int .i64 k.sa, .int .i64 k.sb, .int .i64 k.ba, .int .i64 k.ar, .int .i64 k.ra, .int .i64 k.wa, .int .i64 k.ga, .slice A S.length c] 73)
  have HO := vl (h.below hb)
  have HT := vl (Touch.of_below (B := B) (L := L) hb)
  clear h hb
  go_enter Try.func83, Try.ntmps83
  go_wp2_with fail
  refine (markTrainS A c K S _ hm hK HO.out).mono ?_
  rintro e w1 ⟨rfl, ho1, ht1⟩
  have HO1 := vl ho1
  have HT1 := vl (HT.out.trans ht1)
  clear ho1 ht1
  go_wp2
  go_ret
  exact ⟨rfl, HO1.out, HT1.out⟩
theorem heldLock (k : Lk) (A : Option Addr) (c K : Nat) (S : List Tr) (w : World) (hm : ModS S) (hK : K ≤ 30000000) {B L g : Nat} {lo hi gg : Nat → Nat} {GG : Nat → Nat → Nat} (h : OwnTs w B L A (markS S K) g lo hi gg GG) :
    Calls Try.prog 84 #[.agg #[.int .i64 k.le, .int .i64 k.wi, .int .i64 k.sa, .int .i64 k.sb, .int .i64 k.ba, .int .i64 k.ar, .int .i64 k.ra, .int .i64 k.wa, .int .i64 k.ga, .slice A S.length c], .int .i64 (K : Int)] w fun e w' => e = .returned (.int .i64 ((kAt S K S.length : Nat) : Int)) ∧ Below w.heap.size w w' := by
  have hb := (Below.refl w.heap.size w).alloc (Nat.le_refl _) (.cells #[.int .i64 k.le, .int .i64 k.wi, .int .i64 k.sa, .int .i64 k.sb, .int .i64 k.ba, .int .i64 k.ar, .int .i64 k.ra, .int .i64 k.wa, .int .i64 k.ga, .slice A S.length c] 73)
  have HO := vl (h.below hb)
  have HB := vl hb
  have hcall := heldTrainS A c K S (w.alloc (.cells #[.int .i64 k.le, .int .i64 k.wi, .int .i64 k.sa, .int .i64 k.sb, .int .i64 k.ba, .int .i64 k.ar, .int .i64 k.ra, .int .i64 k.wa, .int .i64 k.ga, .slice A S.length c] 73)) hm hK HO.out
  obtain ⟨q, hq⟩ : ∃ q, kAt S K S.length = q := ⟨_, rfl⟩
  rw [hq] at hcall ⊢
  have HC := vl hcall
  have hz : (0 : Int) ≤ (q : Int) := by omega
  clear h hb hq hcall
  go_enter Try.func84, Try.ntmps84
  go_wp2_with fail
  refine HC.out.mono ?_
  rintro e w' ⟨rfl, rfl⟩
  clear HC
  go_wp2
  go_ret
  exact ⟨rfl, HB.out⟩
theorem markLock1 {q : Nat} {S : List Tr} (hq : kAt S 1 S.length = q) (hm : ModS S) (k : Lk) (A : Option Addr) (c : Nat) (w : World) {B L g : Nat} {lo hi gg : Nat → Nat} {GG : Nat → Nat → Nat} (h : OwnTs w B L A S g lo hi gg GG) :
    Calls Try.prog 83 #[.agg #[.int .i64 k.le, .int .i64 k.wi, .int .i64 k.sa, .int .i64 k.sb, .int .i64 k.ba, .int .i64 k.ar, .int .i64 k.ra, .int .i64 k.wa, .int .i64 k.ga, .slice A S.length c], .int .i64 1] w fun e w' => e = .returned (.int .i64 (q : Int)) ∧ OwnTs w' B L A (markS S 1) g lo hi gg GG ∧ Touch w w' B L := by
  have h := markLock k A c 1 S w hm (by omega) h
  rw [hq] at h; exact h
theorem heldLock1 {q : Nat} {S : List Tr} (hq : kAt S 1 S.length = q) (hm : ModS S) (k : Lk) (A : Option Addr) (c : Nat) (w : World) {B L g : Nat} {lo hi gg : Nat → Nat} {GG : Nat → Nat → Nat} (h : OwnTs w B L A (markS S 1) g lo hi gg GG) :
    Calls Try.prog 84 #[.agg #[.int .i64 k.le, .int .i64 k.wi, .int .i64 k.sa, .int .i64 k.sb, .int .i64 k.ba, .int .i64 k.ar, .int .i64 k.ra, .int .i64 k.wa, .int .i64 k.ga, .slice A S.length c], .int .i64 1] w fun e w' => e = .returned (.int .i64 (q : Int)) ∧ Below w.heap.size w w' := by
  have h := heldLock k A c 1 S w hm (by omega) h
  rw [hq] at h; exact h
end Go.Proofs.Ytmfeleocjmdooaa.C1
