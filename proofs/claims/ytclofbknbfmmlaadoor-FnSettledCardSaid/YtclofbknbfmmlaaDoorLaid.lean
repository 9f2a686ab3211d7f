/- The rows that list package-level variables: the last step of such a law, and what the lists give the walks. -/
import Derived.Test.YtclofbknbfmmlaaDoorCards
import Derived.Test.YtclofbknbfmmlaaDoorTie
import Derived.Test.YtclofbknbfmmlaaDoorLift
import Derived.Deep.DeepHandedRow
import Derived.Deep.DeepWitnessRowRef
import Derived.LaidMore
import Derived.Lib.LaidU8
import Derived.Lib.ItoaNum
import Derived.Lib.Space
import Derived.Lib.AppendIntMem
namespace Go.Proofs.YtclofbknbfmmlaaDoor.Lift
open Go.ChangeShapes Go.WideShapes Go.ChangeAt Go.RowKit Go.WideElems
set_option linter.unusedVariables false

/-- The contract of a law over listed variables is enough. -/
theorem law_laid {C : Checked} {os : Os} {k : FuncId} {fn : Func} {s : ChangeSpec} {conds : List PathCond} {apart fresh handsOn again : Bool} {laid : List (String × DataW Unit)} {H : Type} {enc : TypeId × Value → H} {F : Stop.Interp} {tb : TypeId}
    (own : ownKnob C.prog.godebug = none) (started : os.Started) (noInit : C.prog.inits.idxOf? k = none) (hfn : C.prog.funcs[k]? = some fn)
    (hl : laidOutB C.prog = true) (hpar : ∀ t ∈ fn.params.toList, C.prog.readableRec t = true ∧ t < C.prog.types.size) (hrt : fn.resultTypes = #[tb]) (htb : C.prog.underlying tb = some .bool) (hvars : s.vars = [])
    (hs : ∀ xs : List (DataW H), xs.length = fn.params.toList.length → s.fn H xs = { results := [.lit (.bool true)], args := xs })
    (witness : ∃ (w : World) (tape : Tape) (i : Input), w.os = os ∧ (w.forCall tape i).Shaped C.prog ∧ i.vars = [] ∧ Input.okWide C.prog (w.forCall tape i) .any w.heap.size k i ∧
      (OpenSpec.ofChange s).preRow enc C.prog fn conds apart laid (w.forCall tape i).memory i.args ∧ ({} : Assume).holds C.prog (lone (Frame.enter C.prog k i.args .normal) [] (w.forCall tape i)))
    (walk : ∀ (W : World) (base : Nat) (args : Array Value) (ds : List (DataW H)) (p : List MemPlace),
      (∀ (j : Nat) t v, fn.params[j]? = some t → args[j]? = some v → Value.okWide C.prog W .any base t v) →
      DataW.TrodAll enc C.prog W 0 (fun _ => true) true fn.params.toList args.toList ds p → (∀ x ∈ p, x.block < W.heap.size) → laidMetH C.prog laid W →
      Calls C.prog k args W fun e W' => e = .returned (.bool true) ∧ Below W.heap.size W W') :
    ReturnsInHanded {} C os k .any ((OpenSpec.ofChange s).preRow enc C.prog fn conds apart laid) (((OpenSpec.ofChange s).at F).post enc C.prog fn apart fresh handsOn again) := by
  refine returnsInHanded_of_row (s := OpenSpec.ofChange s) own started noInit hfn witness ?_
  intro W base args ds gs before hval hW _ _ _ hL _ _
  obtain ⟨p, q, hA, hV, he, _⟩ := id hW
  refine (walk W base args ds p hval hA (fun x hx => hW.lt x (by rw [he]; exact List.mem_append_left _ hx)) hL).mono fun e W' ⟨h1, h2⟩ => ?_
  exact ⟨_, h1, law_post hl hpar hrt htb hvars hs hW h2⟩

theorem tabIs_of_reads {P : Program} {W : World} {name : String} {k : IntKind} {zs : List Int} {t e : TypeId} {n : Nat}
    (hgt : ((P.globalNamed name).bind fun g => (P.globals[g]?).map (·.type)) = some t) (ht : P.underlying t = some (.array n e)) (he : P.underlying e = some (.int k)) (hce : P.cellsOf e = 1) (hct : P.cellsOf t = n)
    (h : Lib.VarReads P W name (Lib.tabData k zs)) : Lib.TabIs P W name k zs := by
  obtain ⟨g', t', cs, fuel, p, hg', ht', hvar, hd⟩ := h
  rw [hg', Option.bind_some, ht'] at hgt
  obtain rfl := Option.some.inj hgt
  unfold Lib.TabIs
  rw [hvar, ← Lib.cells_of_tab ht he hce hct hd]
theorem _root_.Go.Lib.TabIs.below {P : Program} {w w' : World} {name : String} {k : IntKind} {zs : List Int} (h : Lib.TabIs P w name k zs) (hb : Below w.heap.size w w') : Lib.TabIs P w' name k zs :=
  Lib.tabBelow_of_tabIs h w' hb
/-- The table of the powers of ten. -/
def Pow10 (W : World) : Prop := Lib.TabIs Tryd.prog W "internal/strconv.uint64pow10" .u64 Lib.pow10Tab
theorem Pow10.below {w w' : World} (h : Pow10 w) (hb : Below w.heap.size w w') : Pow10 w' := Lib.TabIs.below h hb
theorem pow10_data : (Rows.laid_internal_strconv_uint64pow10 : DataW Unit) = Lib.tabData .u64 Lib.pow10Tab := by kernel_rfl
theorem pow10 {l : List (String × DataW Unit)} {W : World} (hl : laidMet Tryd.prog l W) (hm : ("internal/strconv.uint64pow10", (Rows.laid_internal_strconv_uint64pow10 : DataW Unit)) ∈ l) : Pow10 W :=
  tabIs_of_reads (t := 197) (by kernel_rfl) Tryd.underlying197 Tryd.underlying188 (by kernel_rfl) (by kernel_rfl) (by rw [← pow10_data]; exact Lib.laidMet.reads hl hm)
/-- The table of the white bytes. -/
def Ascii (W : World) : Prop := Lib.TabIs Tryd.prog W "strings.asciiSpace" .u8 Lib.asciiSpaceTab
theorem Ascii.below {w w' : World} (h : Ascii w) (hb : Below w.heap.size w w') : Ascii w' := Lib.TabIs.below h hb
theorem ascii_data : (Rows.laid_strings_asciiSpace : DataW Unit) = Lib.tabData .u8 Lib.asciiSpaceTab := by kernel_rfl
theorem ascii {l : List (String × DataW Unit)} {W : World} (hl : laidMet Tryd.prog l W) (hm : ("strings.asciiSpace", (Rows.laid_strings_asciiSpace : DataW Unit)) ∈ l) : Ascii W :=
  tabIs_of_reads (t := 155) (by kernel_rfl) Tryd.underlying155 Tryd.underlying5 (by kernel_rfl) (by kernel_rfl) (by rw [← ascii_data]; exact Lib.laidMet.reads hl hm)
end Go.Proofs.YtclofbknbfmmlaaDoor.Lift
