/- errors.Is, asked of the very error that it looks for, and of none. -/
import Derived.Test.YtclofbknbfmmlaaDoorNum
import Derived.WalkKit
import Derived.LaidEql
import Derived.Stop.Asserts
import Derived.Stop.LaidErr
import Derived.RowKitTokens
namespace Go.Proofs.YtclofbknbfmmlaaDoor.C1
open Go.RowKit Go.Extern.Stop Go.Stop Go.Extern
set_option linter.unusedVariables false

theorem ty_of (v : Value) (w : World) : (Extern.ReflectliteType.typeOf #[.iface 203 v]).run Tryd.prog w = .ok (.iface 136 (.agg #[.pointer (some ⟨8, 203, none⟩)])) w := by kernel_rfl
def cmpM : Array Value → Sem Value := Extern.ReflectliteType.method fun t => do Extern.Rtype.noPackHeld "Comparable" t; pure (.bool (← typeInfo t).comparable)
theorem ty_cmp (w : World) : (cmpM #[.agg #[.pointer (some ⟨8, 203, none⟩)]]).run Tryd.prog w = .ok (.bool true) w := by kernel_rfl
theorem ty_method (v : Value) (w : World) : (Go.method 335 136 v "Comparable").run Tryd.prog w = .ok (172, v) w := by kernel_rfl
theorem er_comp : (Tryd.prog.info? 203).map (·.comparable) = some true := by kernel_rfl
theorem er_size : (Tryd.prog.info? 225).map (·.size) = some 1 := by kernel_rfl
/-- errors.Is(x, x), x a pointer to an errors.errorString. -/
theorem is_same (a : Addr) (w : World) :
    Calls Tryd.prog 49 #[.iface 203 (.pointer (some a)), .iface 203 (.pointer (some a))] w fun e w' => e = .returned (.bool true) ∧ w = w' := by
  obtain ⟨i, hi, hcmp⟩ := Option.map_eq_some_iff.1 er_comp
  obtain ⟨j, hj, hjs⟩ := Option.map_eq_some_iff.1 er_size
  have h8 := @run_callFunc_extern Tryd.prog 87 _ Extern.ReflectliteType.typeOf Tryd.func87 (by kernel_rfl) (by kernel_rfl) (by kernel_rfl) (by kernel_rfl)
  have h32 := @run_callFunc_extern Tryd.prog 172 _ cmpM Tryd.func172 (by kernel_rfl) (by kernel_rfl) (by kernel_rfl) (by kernel_rfl)
  have tT := ty_of
  have cT := ty_cmp
  have mR := ty_method
  have heq := run_eql_iface_ptr_same (P := Tryd.prog) w a Tryd.underlying75 Tryd.underlying203 hi hcmp hj
  go_enter Tryd.func49, Tryd.ntmps49
  go_wp2
  refine wp_loop_rounds 1 ?_
  rw [rounds_succ]
  go_wp2
  go_ret
  exact ⟨rfl, rfl⟩
/-- errors.Is(nil, x). -/
theorem is_nil (b : Addr) (w : World) :
    Calls Tryd.prog 49 #[.nilIface, .iface 203 (.pointer (some b))] w fun e w' => e = .returned (.bool false) ∧ w = w' := by
  have hn := run_eql_iface_nil_left (P := Tryd.prog) w 203 (.pointer (some b)) Tryd.underlying75
  go_enter Tryd.func49, Tryd.ntmps49
  go_wp2
  go_ret
  exact ⟨rfl, rfl⟩
end Go.Proofs.YtclofbknbfmmlaaDoor.C1
