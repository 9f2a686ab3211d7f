/- Copies of trains: of the program and of its model. -/
import Derived.Test.YtacnjipmojlpnaaOwnR
import Derived.Deep.RegionLaw
namespace Go.Proofs.Ytacnjipmojlpnaa.C1
open Go.ChangeShapes Go.WideShapes Go.ChangeAt Go.RowKit
set_option linter.unusedVariables false

theorem infoR : (Try.prog.info? 40).map (fun i => (i.zero, i.size, i.bytes)) = some (some (.slice none 0 0), 1, 24) := by kernel_rfl
/-- A train's box that may be written. -/
structure TBoxF (w : World) (p : Nat) (up : Bool) (v : Value) : Prop where
  c0 : w.cell? ⟨p, 0, none⟩ = some (.bool up)
  c1 : w.cell? ⟨p, 1, none⟩ = some v
  f0 : w.frozen? ⟨p, 0, none⟩ = false
  f1 : w.frozen? ⟨p, 1, none⟩ = false
theorem TBoxF.lt {w : World} {p : Nat} {up : Bool} {v : Value} (h : TBoxF w p up v) : p < w.heap.size := cell_lt' h.c0
theorem TBoxF.block {w w' : World} {p : Nat} {up : Bool} {v : Value} (h : TBoxF w p up v) (hb : w'.heap[p]? = w.heap[p]?) : TBoxF w' p up v :=
  ⟨(World.cell?_of_block hb).trans h.c0, (World.cell?_of_block hb).trans h.c1, (frozen_of_block hb).trans h.f0, (frozen_of_block hb).trans h.f1⟩
theorem TBoxF.below {w w' : World} {p B : Nat} {up : Bool} {v : Value} (h : TBoxF w p up v) (hb : Below B w w') (hp : p < B) : TBoxF w' p up v := h.block (hb.block p hp)
theorem TBoxF.set {w : World} {p : Nat} {up : Bool} {v : Value} (h : TBoxF w p up v) (v' : Value) : TBoxF (w.setCell ⟨p, 1, none⟩ v') p up v' :=
  ⟨(World.cell?_setCell_other _ _ _ _ (by intro e; injection e with _ e; omega)).trans h.c0, World.cell?_setCell_same _ _ _ h.c1, by rw [World.frozen?_setCell]; exact h.f0, by rw [World.frozen?_setCell]; exact h.f1⟩
theorem TBoxF.far {w : World} {p q j : Nat} {up : Bool} {v : Value} (h : TBoxF w p up v) (u : Value) (hne : p ≠ q) : TBoxF (w.setCell ⟨q, j, none⟩ u) p up v := h.block (Below.heap_setCell w ⟨q, j, none⟩ u p hne)
theorem TBoxF.new (w : World) (up : Bool) (v : Value) (t : TypeId) : TBoxF (w.alloc (.cells #[.bool up, v] t)) w.heap.size up v := ⟨by simp, by simp, by simp, by simp⟩
theorem snoc_take {T : List (List Bt)} {k : Nat} {r : List Bt} (hr : T[k]? = some r) : T.take (k + 1) = T.take k ++ [r] := by rw [List.take_add_one, hr]; rfl
theorem step_app {P : Program} {w : World} {ops : Array Oper} {o : Oper} {a : Act} {K : Act → World → Prop} {Q : Exit → Act → World → Prop} {E : Prop} (hgd : o.guard = none) (s x : Operand) (t : TypeId)
    (ho : o.op = .call { callee := .builtin .append, args := #[s, x], argTypes := #[t, t] })
    (base : Nat) (e : TypeId) (i : TypeInfo) (z : Value) (size bytes : Nat) (ht : P.underlying t = some (.slice e)) (hi : P.info? e = some i) (hz : i.zero = some z)
    (hsize : i.size = size) (hby : i.bytes = bytes) (hzs : z.cells.size = size) (hsz : 0 < size) (v : Value) (n : Nat) (xs : List Value) (hs : a.eval s = v) (hown : w.ownsRow base e size v n xs)
    (A : Option Addr) (m c : Nat) (news : List Value) (hx : a.eval x = .slice A m c) (hl : news.length = m * size) (hA : 0 < m → ∃ ad, A = some ad ∧ ∀ j u, news[j]? = some u → w.cell? (ad.add j) = some u) (h1 : ∀ u ∈ news, u.oneCell' = true)
    (h63 : n + m ≤ maxLen) (hbytes : (n + m) * bytes ≤ 140737488355328) (hbase : base ≤ w.heap.size)
    (h : ∀ v' w', w'.ownsRow base e size v' (n + m) (xs ++ news) → w.grownBy w' v.ownBlock → K (a.put o.dst v') w') : if Region.wanted o (yielded ops a.tmps) = true then Oper.wp P o a w K Q else E := by
  have hw : Region.wanted o (yielded ops a.tmps) = true := by simp [Region.wanted, hgd]
  rw [if_pos hw]
  exact wp_app s x t ho base e i z size bytes ht hi hz hsize hby hzs hsz v n xs hs hown A m c news hx hl hA h1 h63 hbytes hbase h
end Go.Proofs.Ytacnjipmojlpnaa.C1
