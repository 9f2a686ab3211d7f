/- Rows of vessels, and the measures of a row: of the program. -/
import Derived.Test.YtmabaibpdjmckaaGreatTrI3
import Derived.Test.YtmabaibpdjmckaaGreatTrnU
namespace Go.Proofs.YtmabaibpdjmckaaGreat.C1
open Go.ChangeShapes Go.WideShapes Go.ChangeAt Go.RowKit
set_option linter.unusedVariables false

/-- Boats as vessels. -/
def vsl (L : List Bt) : List Value := L.map fun b => .iface 96 (.agg #[.int .i64 b.i, .int .i64 b.l, .int .i64 b.w, .int .i64 b.d, .int .i64 b.s, .int .i64 b.c])
theorem vsl_len (L : List Bt) : (vsl L).length = L.length := by simp [vsl]
theorem vsl_at {L : List Bt} {i : Nat} {b : Bt} (h : L[i]? = some b) : (vsl L)[i]? = some (.iface 96 (.agg #[.int .i64 b.i, .int .i64 b.l, .int .i64 b.w, .int .i64 b.d, .int .i64 b.s, .int .i64 b.c])) := by simp [vsl, h]
theorem vsl_app (L M : List Bt) : vsl (L ++ M) = vsl L ++ vsl M := by simp [vsl]
def Vsl (w : World) (A : Option Addr) (L : List Bt) : Prop := 0 < L.length → ∃ g, A = some ⟨g, 0, none⟩ ∧ ∀ i b, L[i]? = some b → w.cell? ⟨g, i, none⟩ = some (.iface 96 (.agg #[.int .i64 b.i, .int .i64 b.l, .int .i64 b.w, .int .i64 b.d, .int .i64 b.s, .int .i64 b.c]))
theorem Vsl.below {w w' : World} {A : Option Addr} {L : List Bt} (h : Vsl w A L) (hb : Below w.heap.size w w') : Vsl w' A L := fun hn => by
  obtain ⟨g, e, hc⟩ := h hn
  exact ⟨g, e, fun i b hi => (hb.cell (cell_lt' (hc i b hi))).trans (hc i b hi)⟩
theorem vsl_of_own {w : World} {B : Nat} {v : Value} {t : TypeId} {L : List Bt} (h : w.ownsRow B t 1 v L.length (vsl L)) : ∃ A c, v = .slice A L.length c ∧ Vsl w A L := by
  rcases h.2 with ⟨rfl, h0⟩ | ⟨g, cap, cur, rfl, _⟩
  · exact ⟨none, 0, by rw [h0], fun hn => by omega⟩
  · refine ⟨_, cap, rfl, fun _ => ⟨g, rfl, fun i b hi => ?_⟩⟩
    have hl := len_of hi
    rw [h.cellAt i (by omega), vsl_at hi]
theorem infoV : (Tryz.prog.info? 121).map (fun i => (i.zero, i.size, i.bytes)) = some (some .nilIface, 1, 16) := by kernel_rfl
end Go.Proofs.YtmabaibpdjmckaaGreat.C1
