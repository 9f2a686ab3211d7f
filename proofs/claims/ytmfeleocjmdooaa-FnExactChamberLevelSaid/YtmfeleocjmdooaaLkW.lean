/- What the exact laws on locks share. -/
import Derived.Test.YtmfeleocjmdooaaLkL
import Derived.Deep.RegionHeld3
namespace Go.Proofs.Ytmfeleocjmdooaa.C1
open Go.ChangeShapes Go.WideShapes Go.ChangeAt Go.RowKit Go.Deep Go.Joins Go.Proofs.Ytmfeleocjmdooaa.Opened
set_option linter.unusedVariables false

theorem S20 {w5 w w' : World} {p q : Nat} {k k' : Lk} {v v' : Value} (h : KBox w p k v) (h' : KBox w q k' v') (hb : Below w5.heap.size w5 w) (hb' : Below w.heap.size w w') :
    w'.cell? ⟨p, 0, none⟩ = some (.int .i64 k.le) ∧ w'.cell? ⟨p, 1, none⟩ = some (.int .i64 k.wi) ∧ w'.cell? ⟨p, 2, none⟩ = some (.int .i64 k.sa) ∧ w'.cell? ⟨p, 3, none⟩ = some (.int .i64 k.sb) ∧ w'.cell? ⟨p, 4, none⟩ = some (.int .i64 k.ba) ∧ w'.cell? ⟨p, 5, none⟩ = some (.int .i64 k.ar) ∧ w'.cell? ⟨p, 6, none⟩ = some (.int .i64 k.ra) ∧ w'.cell? ⟨p, 7, none⟩ = some (.int .i64 k.wa) ∧ w'.cell? ⟨p, 8, none⟩ = some (.int .i64 k.ga) ∧ w'.cell? ⟨p, 9, none⟩ = some (v) ∧ w'.cell? ⟨q, 0, none⟩ = some (.int .i64 k'.le) ∧ w'.cell? ⟨q, 1, none⟩ = some (.int .i64 k'.wi) ∧ w'.cell? ⟨q, 2, none⟩ = some (.int .i64 k'.sa) ∧ w'.cell? ⟨q, 3, none⟩ = some (.int .i64 k'.sb) ∧ w'.cell? ⟨q, 4, none⟩ = some (.int .i64 k'.ba) ∧ w'.cell? ⟨q, 5, none⟩ = some (.int .i64 k'.ar) ∧ w'.cell? ⟨q, 6, none⟩ = some (.int .i64 k'.ra) ∧ w'.cell? ⟨q, 7, none⟩ = some (.int .i64 k'.wa) ∧ w'.cell? ⟨q, 8, none⟩ = some (.int .i64 k'.ga) ∧ w'.cell? ⟨q, 9, none⟩ = some (v') ∧ Below w5.heap.size w5 w' := by
  obtain ⟨a0, a1, a2, a3, a4, a5, a6, a7, a8, a9⟩ := h.below hb'
  obtain ⟨b0, b1, b2, b3, b4, b5, b6, b7, b8, b9⟩ := h'.below hb'
  exact ⟨a0, a1, a2, a3, a4, a5, a6, a7, a8, a9, b0, b1, b2, b3, b4, b5, b6, b7, b8, b9, hb.trans (hb'.mono hb.size)⟩
/-- A lock in its box, its trains in memory of its own. -/
structure OneK (w : World) (p : Nat) (k : Lk) (A : Option Addr) (n c B L : Nat) (S : List Tr) (g : Nat) (lo hi gg : Nat → Nat) (GG : Nat → Nat → Nat) : Prop where
  x : KBox w p k (.slice A n c)
  o : OwnTs w B L A S g lo hi gg GG
section
variable {w w' : World} {p n c B L g : Nat} {k : Lk} {A : Option Addr} {S : List Tr} {lo hi gg : Nat → Nat} {GG : Nat → Nat → Nat}
theorem OneK.below (h : OneK w p k A n c B L S g lo hi gg GG) (hb : Below w.heap.size w w') : OneK w' p k A n c B L S g lo hi gg GG := ⟨h.x.below hb, h.o.below hb⟩
theorem OneK.touch (h : OneK w p k A n c B L S g lo hi gg GG) {B' L' : Nat} (t : Touch w w' B' L') (hp : p < B' ∨ L' ≤ p) (hd : L ≤ B' ∨ L' ≤ B) : OneK w' p k A n c B L S g lo hi gg GG := ⟨h.x.touch t hp, h.o.touch t hd⟩
theorem OneK.mark (h : OneK w p k A n c B L S g lo hi gg GG) {S2 : List Tr} (t : Touch w w' B L) (hp : p < B ∨ L ≤ p) (ho : OwnTs w' B L A S2 g lo hi gg GG) : OneK w' p k A n c B L S2 g lo hi gg GG := ⟨h.x.touch t hp, ho⟩
end
section
variable {H : Type} {enc : TypeId × Value → H} {w : World} {base : Nat} {spare : Nat → Bool} {held : Bool}
set_option maxRecDepth 100000 in
theorem open_trains {r : Reach} {b0 : Nat} {v : Value} {d : DataW H} {ps : List MemPlace} (hv : Value.okWide Try.prog w r b0 66 v) (h : DataW.Trod enc Try.prog w base spare held 66 v d ps) :
    ∃ (A : Option Addr) (c : Nat) (S : List Tr), v = .slice A S.length c ∧ ArgTs w A S := by
  obtain ⟨A, n, cap, rfl⟩ := okWide_slice Try.underlying66 hv
  obtain ⟨fuel, hf⟩ := h
  exact trains_of hf
end
end Go.Proofs.Ytmfeleocjmdooaa.C1
