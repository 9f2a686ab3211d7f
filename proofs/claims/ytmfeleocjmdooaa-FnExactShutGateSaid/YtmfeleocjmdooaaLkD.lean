/- Copies of locks: of the program; a lock with its gate shut. -/
import Derived.Test.YtmfeleocjmdooaaLkC
import Derived.Test.YtmfeleocjmdooaaLkI
import Derived.Deep.RegionLaw
namespace Go.Proofs.Ytmfeleocjmdooaa.C1
open Go.ChangeShapes Go.WideShapes Go.ChangeAt Go.RowKit
set_option linter.unusedVariables false

set_option maxRecDepth 100000 in
set_option maxHeartbeats 4000000 in
theorem copyS_impl (A : Option Addr) (c : Nat) (S : List Tr) (w : World) (hm : ModS S) (hp : Trs w A S) :
    Calls Try.prog 184 #[.func (Fn.func 185) #[] #[], .slice A S.length c] w fun e w' => (∃ v ys lo hi gg GG, e = .returned v ∧ GrowS w' w.heap.size v S ys lo hi gg GG) ∧ Below w.heap.size w w' := by
  have HP := vl hp
  have HM := vl hm
  have hn := hm.len
  clear hp hm
  obtain ⟨j0, hj, hy0, hy1, hy2⟩ := info_parts infoT
  go_enter Try.func184, Try.ntmps184
  go_wp2_with (at_make; refine wpList_make_own _ rfl _ _ 71 rfl w.heap.size 26 j0 (.agg #[.bool false, .slice none 0 0]) 2 Try.underlying71 hj hy0 hy1 .i64 .i64 _ S.length rfl rfl (by rfl) (by rw [hy2]; omega) (by unfold maxLen; omega) (Nat.le_refl _) ?_; intro w0 hown0 hgr0)
  have HB0 := vl (below_none hgr0)
  have HO0 := vl (GrowS.of_nil (lo := fun _ => 0) (hi := fun _ => 0) (gg := fun _ => 0) (GG := fun _ _ => 0) hown0)
  clear hown0 hgr0
  go_wp2
  go_loopw [5, 13] (fun v i wr => ∃ (n : Nat) (ys : List Value) (lo hi gg : Nat → Nat) (GG : Nat → Nat → Nat), n ≤ S.length ∧ i = .int .i64 n ∧ Veil (Below w.heap.size w wr) ∧ Veil (GrowS wr w.heap.size v (S.take n) ys lo hi gg GG)) (fun _ i _ => S.length - (intOf i).toNat)
  case atStart => exact ⟨0, [], _, _, _, _, by omega, rfl, HB0, HO0⟩
  case round =>
    obtain ⟨n, ys, lo, hi, gg, GG, hnS, rfl, HB, HO⟩ := hrel
    obtain ⟨V, d, rfl, _⟩ := own_src HO.out.own
    by_cases hlt : n < S.length
    · obtain ⟨t, ht⟩ := get_of hlt
      obtain ⟨g, o, rfl, hc⟩ := (HP.out.below HB.out) (by omega)
      obtain ⟨c0, Ai, ci, c1, HT⟩ := hc n t ht
      have HK := vl (snoc_takeS ht)
      have HMt := vl (HM.out.all t (mem_of ht))
      have hlen : (S.take n).length = n := by rw [List.length_take]; omega
      rw [hlen] at HO ⊢
      have HL := vl hlen
      have hba := (Below.refl wr.heap.size wr).alloc (Nat.le_refl _) (.cells #[.bool t.up, .slice Ai t.R.length ci] 26)
      have HBa := vl (HB.out.trans (hba.mono HB.out.size))
      have HTa := vl (HT.out.below hba)
      have HOa := vl (HO.out.below hba)
      have hBa : w.heap.size ≤ (wr.alloc (.cells #[.bool t.up, .slice Ai t.R.length ci] 26)).heap.size := HBa.out.size
      clear hc ht hlen hba
      go_wp2_with fail
      refine (copyOf_impl t.up Ai ci t.R _ HMt.out HTa.out).mono ?_
      rintro e w2 ⟨⟨A2, c2, g2, G2, rfl, _, ho2⟩, hb2⟩
      clear c0 c1
      generalize wr.alloc (.cells #[.bool t.up, .slice Ai t.R.length ci] 26) = wa at HBa HTa HOa hBa hb2 ho2
      have HB2 := vl hb2
      have HO2 := vl ho2
      have HOw := vl (HOa.out.below hb2)
      have hz2 := hb2.size
      clear hb2 ho2
      go_wp2_with (at_builtin; refine wpList_append_lies _ rfl _ _ 71 rfl w.heap.size 26 j0 _ 2 32 Try.underlying71 hj hy0 hy1 hy2 rfl (by decide) (.slice V n d) n ys rfl (by have := HOw.out.own.alloc (.cells #[.bool t.up, .slice A2 t.R.length c2] 26); rwa [HL.out] at this) ⟨w2.heap.size, 0, none⟩ 1 1 [.bool t.up, .slice A2 t.R.length c2] rfl rfl (fun j x hx => World.news_of_block (heap_alloc_new _ _) j x (by simpa using hx)) (fun x hx => by simp at hx; rcases hx with rfl | rfl <;> rfl) (by omega) (by unfold maxLen; omega) (by omega) (by simp; omega) _ rfl ?_)
      intro g3 cap w3 hown3 hgrow hat hlt3
      have HG3 := vl (HOa.out.snoc (up := t.up) (c := c2) hBa HB2.out HO2.out (by rw [HL.out]; exact hown3) hgrow (by rw [World.size_alloc]; exact hat))
      have hb3 := ((Below.refl w.heap.size w2).alloc (by omega) (.cells #[.bool t.up, .slice A2 t.R.length c2] 26)).trans (below_app' (HOw.out.own.alloc (.cells #[.bool t.up, .slice A2 t.R.length c2] 26)) hgrow (by simp; omega))
      have HB3 := vl (HBa.out.trans ((HB2.out.mono hBa).trans hb3))
      clear hown3 hgrow hat hlt3 hb3 HOw HO2 HB2
      go_wp2
      go_roundw
      case rel => exact ⟨n + 1, _, _, _, _, _, by omega, by go_num, HB3, vl (by have := HG3.out; rw [HL.out] at this; rw [HK.out]; exact this)⟩
      case measure => simp [intOf]; omega
    · obtain rfl : n = S.length := by omega
      have hT : S.take S.length = S := List.take_length
      rw [hT] at HO ⊢
      clear hT
      go_wp2
      go_ret
      exact ⟨⟨_, ys, lo, hi, gg, GG, rfl, HO.out⟩, HB.out⟩
set_option maxRecDepth 100000 in
set_option maxHeartbeats 4000000 in
theorem copyK_impl (k : Lk) (A : Option Addr) (c : Nat) (S : List Tr) (w : World) (hm : ModS S) (hp : Trs w A S) :
    Calls Try.prog 137 #[.agg #[.int .i64 k.le, .int .i64 k.wi, .int .i64 k.sa, .int .i64 k.sb, .int .i64 k.ba, .int .i64 k.ar, .int .i64 k.ra, .int .i64 k.wa, .int .i64 k.ga, .slice A S.length c]] w (GivesKO w k S) := by
  have HM := vl hm
  have HB0 := vl ((((Below.refl w.heap.size w).alloc (Nat.le_refl _) (.cells #[.int .i64 k.le, .int .i64 k.wi, .int .i64 k.sa, .int .i64 k.sb, .int .i64 k.ba, .int .i64 k.ar, .int .i64 k.ra, .int .i64 k.wa, .int .i64 k.ga, .slice A S.length c] 73)).alloc (by simp) (.cells #[.int .i64 0, .int .i64 0, .int .i64 0, .int .i64 0, .int .i64 0, .int .i64 0, .int .i64 0, .int .i64 0, .int .i64 0, .slice none 0 0] 73)))
  have HP := vl (hp.below HB0.out)
  have h1 := KBoxF.new w k (.slice A S.length c) 73
  have h1' := vl (h1.block (Below.heap_alloc _ (.cells #[.int .i64 0, .int .i64 0, .int .i64 0, .int .i64 0, .int .i64 0, .int .i64 0, .int .i64 0, .int .i64 0, .int .i64 0, .slice none 0 0] 73) _ (by simp)))
  have h2 : KBoxF ((w.alloc (.cells #[.int .i64 k.le, .int .i64 k.wi, .int .i64 k.sa, .int .i64 k.sb, .int .i64 k.ba, .int .i64 k.ar, .int .i64 k.ra, .int .i64 k.wa, .int .i64 k.ga, .slice A S.length c] 73)).alloc (.cells #[.int .i64 0, .int .i64 0, .int .i64 0, .int .i64 0, .int .i64 0, .int .i64 0, .int .i64 0, .int .i64 0, .int .i64 0, .slice none 0 0] 73)) (w.alloc (.cells #[.int .i64 k.le, .int .i64 k.wi, .int .i64 k.sa, .int .i64 k.sb, .int .i64 k.ba, .int .i64 k.ar, .int .i64 k.ra, .int .i64 k.wa, .int .i64 k.ga, .slice A S.length c] 73)).heap.size k0 (.slice none 0 0) := KBoxF.new (w.alloc (.cells #[.int .i64 k.le, .int .i64 k.wi, .int .i64 k.sa, .int .i64 k.sb, .int .i64 k.ba, .int .i64 k.ar, .int .i64 k.ra, .int .i64 k.wa, .int .i64 k.ga, .slice A S.length c] 73)) k0 (.slice none 0 0) 73
  simp only [World.size_alloc] at h2
  have HY0 := vl h2
  have hsz : ((w.alloc (.cells #[.int .i64 k.le, .int .i64 k.wi, .int .i64 k.sa, .int .i64 k.sb, .int .i64 k.ba, .int .i64 k.ar, .int .i64 k.ra, .int .i64 k.wa, .int .i64 k.ga, .slice A S.length c] 73)).alloc (.cells #[.int .i64 0, .int .i64 0, .int .i64 0, .int .i64 0, .int .i64 0, .int .i64 0, .int .i64 0, .int .i64 0, .int .i64 0, .slice none 0 0] 73)).heap.size = w.heap.size + 2 := by simp
  have HSZ := vl hsz
  generalize hW0 : (w.alloc (.cells #[.int .i64 k.le, .int .i64 k.wi, .int .i64 k.sa, .int .i64 k.sb, .int .i64 k.ba, .int .i64 k.ar, .int .i64 k.ra, .int .i64 k.wa, .int .i64 k.ga, .slice A S.length c] 73)).alloc (.cells #[.int .i64 0, .int .i64 0, .int .i64 0, .int .i64 0, .int .i64 0, .int .i64 0, .int .i64 0, .int .i64 0, .int .i64 0, .slice none 0 0] 73) = W0 at HB0 HP h1' HY0 HSZ
  obtain ⟨⟨x0, x1, x2, x3, x4, x5, x6, x7, x8, x9⟩, hxf⟩ := h1'.out
  clear hp hm h1 h2 hsz x0 x1 x2 x3 x4 x5 x6 x7 x8 hxf
  go_enter Try.func137, Try.ntmps137
  go_wp2_with fail
  refine (copyS_impl A c S _ HM.out HP.out).mono ?_
  rintro e w1 ⟨⟨v, ys, lo, hi, gg, GG, rfl, hG⟩, hb1⟩
  obtain ⟨V, d, rfl, _⟩ := own_src hG.own
  have HB1 := vl (HB0.out.trans (hb1.mono HB0.out.size))
  have HX1 := vl (h1'.out.below hb1 (by have := HSZ.out; omega))
  have HY1 := vl (HY0.out.below hb1 (by have := HSZ.out; omega))
  have HG1 := vl (hG.wide (B' := w.heap.size + 2) (by have := HSZ.out; omega))
  have hlt1 : w.heap.size + 1 < w1.heap.size := HY1.out.lt
  clear hb1 hG x9 hW0
  have HX2 := vl (HX1.out.set9 (.slice V S.length d))
  have HY2 := vl (HY1.out.far (q := w.heap.size) (j := 9) (.slice V S.length d) (by omega))
  obtain ⟨⟨y0, y1, y2, y3, y4, y5, y6, y7, y8, y9⟩, hf⟩ := HY2.out
  obtain ⟨⟨x0, x1, x2, x3, x4, x5, x6, x7, x8, x9⟩, hxf⟩ := HX2.out
  have q9 := HX1.out.f 9 (by decide)
  have z9 := HX1.out.c.2.2.2.2.2.2.2.2.2
  have f0 := hf 0 (by decide); have f1 := hf 1 (by decide); have f2 := hf 2 (by decide); have f3 := hf 3 (by decide); have f4 := hf 4 (by decide)
  have f5 := hf 5 (by decide); have f6 := hf 6 (by decide); have f7 := hf 7 (by decide); have f8 := hf 8 (by decide); have f9 := hf 9 (by decide)
  clear hf hxf
  go_wp2
  refine bodyPost_ret (v := .agg #[.int .i64 k.le, .int .i64 k.wi, .int .i64 k.sa, .int .i64 k.sb, .int .i64 k.ba, .int .i64 k.ar, .int .i64 k.ra, .int .i64 k.wa, .int .i64 k.ga, .slice V S.length d]) (by simp [results, Try.results137, go_sem, y0, y1, y2, y3, y4, y5, y6, y7, y8, y9]) rfl ?_
  clear x0 x1 x2 x3 x4 x5 x6 x7 x8 x9 y0 y1 y2 y3 y4 y5 y6 y7 y8 y9 f0 f1 f2 f3 f4 f5 f6 f7 f8 f9 q9 z9
  have key : ∀ W' : World, Touch w1 W' w.heap.size (w.heap.size + 2) → GivesKO w k S (.returned (.agg #[.int .i64 k.le, .int .i64 k.wi, .int .i64 k.sa, .int .i64 k.sb, .int .i64 k.ba, .int .i64 k.ar, .int .i64 k.ra, .int .i64 k.wa, .int .i64 k.ga, .slice V S.length d])) W' := fun W' hT =>
    ⟨⟨V, d, ys, lo, hi, gg, GG, rfl, (HG1.out.touch hT (Nat.le_refl _)).wide (by omega)⟩, hT.below HB1.out (Nat.le_refl _)⟩
  refine key _ ?_
  iterate 11 (with_reducible refine Touch.set ?_ _ _ _ (by omega) (by omega))
  exact Touch.refl _ _ _
end Go.Proofs.Ytmfeleocjmdooaa.C1
