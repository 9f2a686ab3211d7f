/- Copies of locks: of the program; a lock with its gate shut. -/
import Derived.Test.YtneapghhnjheaaaLkC
import Derived.Test.YtneapghhnjheaaaLkI
import Derived.Deep.RegionLaw
namespace Go.Proofs.Ytneapghhnjheaaa.C1
open Go.ChangeShapes Go.WideShapes Go.ChangeAt Go.RowKit
set_option linter.unusedVariables false

set_option maxRecDepth 100000 in
set_option maxHeartbeats 4000000 in
theorem copyK_impl (k : Lk) (A : Option Addr) (c : Nat) (S : List Tr) (w : World) (hm : ModS S) (hp : Trs w A S) :
    Calls Try.prog 109 #[.agg #[.int .i64 k.le, .int .i64 k.wi, .int .i64 k.sa, .int .i64 k.sb, .int .i64 k.ba, .int .i64 k.ar, .int .i64 k.ra, .int .i64 k.wa, .int .i64 k.ga, .slice A S.length c]] w (GivesKO w k S) := by
  have HP := vl hp
  have HM := vl hm
  have hn := hm.len
  have HB0 := vl ((((Below.refl w.heap.size w).alloc (Nat.le_refl _) (.cells #[.int .i64 k.le, .int .i64 k.wi, .int .i64 k.sa, .int .i64 k.sb, .int .i64 k.ba, .int .i64 k.ar, .int .i64 k.ra, .int .i64 k.wa, .int .i64 k.ga, .slice A S.length c] 45)).alloc (by simp) (.cells #[.int .i64 0, .int .i64 0, .int .i64 0, .int .i64 0, .int .i64 0, .int .i64 0, .int .i64 0, .int .i64 0, .int .i64 0, .slice none 0 0] 45)))
  have h1 := KBoxF.new w k (.slice A S.length c) 45
  have h1' := vl (h1.block (Below.heap_alloc _ (.cells #[.int .i64 0, .int .i64 0, .int .i64 0, .int .i64 0, .int .i64 0, .int .i64 0, .int .i64 0, .int .i64 0, .int .i64 0, .slice none 0 0] 45) _ (by simp)))
  have h2 : KBoxF ((w.alloc (.cells #[.int .i64 k.le, .int .i64 k.wi, .int .i64 k.sa, .int .i64 k.sb, .int .i64 k.ba, .int .i64 k.ar, .int .i64 k.ra, .int .i64 k.wa, .int .i64 k.ga, .slice A S.length c] 45)).alloc (.cells #[.int .i64 0, .int .i64 0, .int .i64 0, .int .i64 0, .int .i64 0, .int .i64 0, .int .i64 0, .int .i64 0, .int .i64 0, .slice none 0 0] 45)) (w.alloc (.cells #[.int .i64 k.le, .int .i64 k.wi, .int .i64 k.sa, .int .i64 k.sb, .int .i64 k.ba, .int .i64 k.ar, .int .i64 k.ra, .int .i64 k.wa, .int .i64 k.ga, .slice A S.length c] 45)).heap.size k0 (.slice none 0 0) := KBoxF.new (w.alloc (.cells #[.int .i64 k.le, .int .i64 k.wi, .int .i64 k.sa, .int .i64 k.sb, .int .i64 k.ba, .int .i64 k.ar, .int .i64 k.ra, .int .i64 k.wa, .int .i64 k.ga, .slice A S.length c] 45)) k0 (.slice none 0 0) 45
  simp only [World.size_alloc] at h2
  have HY0 := vl h2
  generalize hW0 : (w.alloc (.cells #[.int .i64 k.le, .int .i64 k.wi, .int .i64 k.sa, .int .i64 k.sb, .int .i64 k.ba, .int .i64 k.ar, .int .i64 k.ra, .int .i64 k.wa, .int .i64 k.ga, .slice A S.length c] 45)).alloc (.cells #[.int .i64 0, .int .i64 0, .int .i64 0, .int .i64 0, .int .i64 0, .int .i64 0, .int .i64 0, .int .i64 0, .int .i64 0, .slice none 0 0] 45) = W0 at HB0 h1' HY0
  obtain ⟨⟨x0, x1, x2, x3, x4, x5, x6, x7, x8, x9⟩, hxf⟩ := h1'.out
  have q9 := hxf 9 (by decide)
  clear hp hm h1 h2 x0 x1 x2 x3 x4 x5 x6 x7 x8 hxf
  go_enter Try.func109, Try.ntmps109
  go_wp2
  have HX0 := vl (h1'.out.set9 (.slice none 0 0))
  have HY1 := vl (HY0.out.far (q := w.heap.size) (j := 9) (.slice none 0 0) (by omega))
  have HB1 := vl (show Below w.heap.size w (W0.setCell ⟨w.heap.size, 9, none⟩ (.slice none 0 0)) from HB0.out.setCell (Nat.le_refl _) _)
  clear x9 q9 h1' HY0 HB0 hW0
  obtain ⟨j0, hj, hy0, hy1, hy2⟩ := info_parts infoT
  go_loopw [11] (fun i wr => ∃ (n : Nat) (v : Value) (ys : List Value) (lo hi gg : Nat → Nat) (GG : Nat → Nat → Nat), n ≤ S.length ∧ i = .int .i64 n ∧ Veil (Below w.heap.size w wr) ∧ Veil (KBoxF wr w.heap.size k v) ∧ Veil (KBoxF wr (w.heap.size + 1) k0 (.slice none 0 0)) ∧ Veil (GrowS wr (w.heap.size + 2) v (S.take n) ys lo hi gg GG)) (fun i _ => S.length - (intOf i).toNat)
  case atStart => exact ⟨0, _, [], fun _ => 0, fun _ => 0, fun _ => 0, fun _ _ => 0, by omega, rfl, HB1, HX0, HY1, vl (GrowS.of_nil (own_nil _ _ _ _))⟩
  case round =>
    obtain ⟨n, v, ys, lo, hi, gg, GG, hnS, rfl, HB, HX, HY, HO⟩ := hrel
    obtain ⟨V, d, rfl, _⟩ := own_src HO.out.own
    have hz := HY.out.lt
    by_cases hlt : n < S.length
    · obtain ⟨t, ht⟩ := get_of hlt
      obtain ⟨g, o, rfl, hc⟩ := (HP.out.below HB.out) (by omega)
      obtain ⟨c0, Ai, ci, c1, HT⟩ := hc n t ht
      have HK := vl (snoc_takeS ht)
      have HMt := vl (HM.out.all t (mem_of ht))
      have hlen : (S.take n).length = n := by rw [List.length_take]; omega
      rw [hlen] at HO HX
      have HL := vl hlen
      have hba := (Below.refl wr.heap.size wr).alloc (Nat.le_refl _) (.cells #[.bool t.up, .slice Ai t.R.length ci] 26)
      have HBa := vl hba
      have HTa := vl (HT.out.below hba)
      have HXa := vl (HX.out.below hba (by omega))
      have HYa := vl (HY.out.below hba hz)
      have HOa := vl (HO.out.below hba)
      have hta := TBox.new wr t.up Ai t.R.length ci 26
      clear hc ht hlen hba
      go_wp2
      clear c0 c1
      generalize hWa : wr.alloc (.cells #[.bool t.up, .slice Ai t.R.length ci] 26) = wa at HBa HTa HXa HYa HOa hta
      have hwa : wa.heap.size = wr.heap.size + 1 := by rw [← hWa]; simp
      have y9 := HXa.out.c.2.2.2.2.2.2.2.2.2
      obtain ⟨t0, t1⟩ := hta
      go_region_law (first
          | (refine step_append_lies _ (by rfl) _ _ 43 (by rfl) (w.heap.size + 2) 26 j0 _ 2 32 Try.underlying43 hj hy0 hy1 hy2 rfl (by decide) (.slice V n d) n ys (by rfl) (by have := HO2.out.own.alloc (.cells #[.bool t.up, .slice A2 t.R.length c2] 26); rwa [HL.out] at this) ⟨w2.heap.size, 0, none⟩ 1 1 [.bool t.up, .slice A2 t.R.length c2] (by rfl) rfl (fun j x hx => World.news_of_block (heap_alloc_new _ _) j x (by simpa using hx)) (fun x hx => by simp at hx; rcases hx with rfl | rfl <;> rfl) (by omega) (by unfold maxLen; omega) (by omega) (by simp; omega) _ rfl ?_
             intro g3 cap w3 hown3 hgrow hat hlt3
             have HG3 := vl (HOa.out.snoc (up := t.up) (c := c2) (by omega) HB2.out HU.out (by rw [HL.out]; exact hown3) hgrow hat)
             have hb3 := ((Below.refl (w.heap.size + 2) w2).alloc (by omega) (.cells #[.bool t.up, .slice A2 t.R.length c2] 26)).trans (below_app' (HO2.out.own.alloc (.cells #[.bool t.up, .slice A2 t.R.length c2] 26)) hgrow (by simp; omega))
             have HB3 := vl (HB.out.trans ((HBa.out.mono HB.out.size).trans ((HB2.out.mono (by have := HB.out.size; omega)).trans (hb3.mono (by omega)))))
             have HX3 := vl ((HXa.out.below HB2.out (by omega)).below hb3 (by omega))
             have HY3 := vl ((HYa.out.below HB2.out (by omega)).below hb3 (by omega))
             have S3 := HX3.out.c.2.2.2.2.2.2.2.2.2
             have F3 := HX3.out.f 9 (by decide)
             clear hown3 hgrow hat hlt3 hb3)
          | (go_simp
             go_at_call 72
             refine (trainOf_impl t.up Ai ci t.R _ HMt.out HTa.out.drew).mono ?_
             rintro e w2 ⟨⟨A2, c2, g2, G2, rfl, _, ho2⟩, hb2⟩
             have hb2' : Below wa.heap.size wa w2 := (Below.refl wa.heap.size wa).drew.trans hb2
             have HB2 := vl hb2'
             have HU := vl (show OwnT w2 wa.heap.size w2.heap.size A2 t.R g2 G2 from ho2)
             have HO2 := vl (HOa.out.below hb2')
             have hz1 : wa.heap.size ≤ w2.heap.size := hb2'.size
             have hz2 : w.heap.size < w2.heap.size := by omega
             have S1 := (hb2'.cell (p := ⟨w.heap.size, 9, none⟩) (by show w.heap.size < wa.heap.size; omega)).trans y9
             clear hb2 hb2' ho2))
      all_goals
        have HG4 := vl (show GrowS w3 (w.heap.size + 2) (.slice (some ⟨g3, 0, none⟩) (n + 1) cap) (S.take (n + 1)) (ys ++ [.bool t.up, .slice A2 t.R.length c2]) _ _ _ _ from by
          have := HG3.out
          rw [HL.out] at this
          rw [HK.out]; exact this)
        clear HB2 HU HO2 S1 S3 F3 y9 t0 t1 hwa hWa hz1 hz2
        go_wp2
        go_roundw
        case rel => exact ⟨n + 1, _, _, _, _, _, _, by omega, by go_num, vl (HB3.out.setCell (Nat.le_refl _) _), vl (HX3.out.set9 _), vl (HY3.out.far _ (by omega)), vl (HG4.out.touch ((Touch.refl w3 w.heap.size (w.heap.size + 1)).set w.heap.size 9 _ (Nat.le_refl _) (Nat.lt_succ_self _)) (by omega))⟩
        case measure => simp [intOf]; omega
    · obtain rfl : n = S.length := by omega
      have hT : S.take S.length = S := List.take_length
      rw [hT] at HO HX
      clear hT
      obtain ⟨⟨y0, y1, y2, y3, y4, y5, y6, y7, y8, y9⟩, hf⟩ := HY.out
      obtain ⟨⟨x0, x1, x2, x3, x4, x5, x6, x7, x8, x9⟩, hxf⟩ := HX.out
      have f0 := hf 0 (by decide); have f1 := hf 1 (by decide); have f2 := hf 2 (by decide); have f3 := hf 3 (by decide); have f4 := hf 4 (by decide)
      have f5 := hf 5 (by decide); have f6 := hf 6 (by decide); have f7 := hf 7 (by decide); have f8 := hf 8 (by decide); have f9 := hf 9 (by decide)
      clear hf hxf
      go_wp2
      refine bodyPost_ret (v := .agg #[.int .i64 k.le, .int .i64 k.wi, .int .i64 k.sa, .int .i64 k.sb, .int .i64 k.ba, .int .i64 k.ar, .int .i64 k.ra, .int .i64 k.wa, .int .i64 k.ga, .slice V S.length d]) (by simp [results, Try.results109, go_sem, y0, y1, y2, y3, y4, y5, y6, y7, y8, y9]) rfl ?_
      clear x0 x1 x2 x3 x4 x5 x6 x7 x8 x9 y0 y1 y2 y3 y4 y5 y6 y7 y8 y9 f0 f1 f2 f3 f4 f5 f6 f7 f8 f9
      have key : ∀ W' : World, Touch wr W' w.heap.size (w.heap.size + 2) → GivesKO w k S (.returned (.agg #[.int .i64 k.le, .int .i64 k.wi, .int .i64 k.sa, .int .i64 k.sb, .int .i64 k.ba, .int .i64 k.ar, .int .i64 k.ra, .int .i64 k.wa, .int .i64 k.ga, .slice V S.length d])) W' := fun W' hT =>
        ⟨⟨V, d, ys, lo, hi, gg, GG, rfl, (HO.out.touch hT (Nat.le_refl _)).wide (by omega)⟩, hT.below HB.out (Nat.le_refl _)⟩
      refine key _ ?_
      iterate 10 (with_reducible refine Touch.set ?_ _ _ _ (by omega) (by omega))
      exact Touch.refl _ _ _
end Go.Proofs.Ytneapghhnjheaaa.C1
