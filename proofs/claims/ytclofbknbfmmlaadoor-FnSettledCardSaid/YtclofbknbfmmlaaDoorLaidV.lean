/- The last step of a law over listed variables that names one variable of an interface type: it is read again as it was. -/
import Derived.Test.YtclofbknbfmmlaaDoorLaid
import Derived.Lib.SmallJoins
import Derived.ChangeStays
namespace Go.Proofs.YtclofbknbfmmlaaDoor.Lift
open Go.ChangeShapes Go.WideShapes Go.ChangeAt Go.RowKit Go.WideElems
set_option linter.unusedVariables false

section
variable {H : Type} {enc : TypeId × Value → H} {P : Program}
theorem trod_iface_any {t : TypeId} {ms : Array (String × TypeId)} (ht : P.underlying t = some (.interface ms)) {W W' : World} {sp sp' : Nat → Bool} {fuel : Nat} {cs : List Value} :
    DataW.trod enc P W 0 sp true fuel t cs = DataW.trod enc P W' 0 sp' true fuel t cs := by
  cases fuel with
  | zero => rfl
  | succ n =>
    unfold DataW.trod
    rw [ht]
    rcases cs with _ | ⟨v, _ | ⟨v2, vs⟩⟩
    · rfl
    · cases v <;> rfl
    · cases v <;> rfl

theorem vars_stay {nm : String} {g : Nat} {t : TypeId} {ms : Array (String × TypeId)} (hg : P.globalNamed nm = some g) (hgt : (P.globals[g]?).map (·.type) = some t) (ht : P.underlying t = some (.interface ms))
    {W W' : World} (hb : Below W.heap.size W W') {gs : List (DataW H)} {q : List MemPlace} (h : DataW.TrodVars enc P W (fun _ => true) [nm] gs q) (sp : Nat → Bool) :
    DataW.TrodVars enc P W' sp [nm] gs q := by
  match gs, h with
  | [d], h =>
    obtain ⟨g0, t0, cs, fuel, p, r, h1, h2, h3, h4, h5, rfl⟩ := h
    obtain rfl := Option.some.inj (hg.symm.trans h1)
    obtain rfl := Option.some.inj (hgt.symm.trans h2)
    refine ⟨g, t, cs, fuel, p, r, h1, h2, Go.Joins.var_stays h1 h3 hb (Nat.le_refl _), ?_, h5, rfl⟩
    rw [← h4]
    exact trod_iface_any ht

theorem law_postV (hl : laidOutB P = true) {f : Func} {s : ChangeSpec} {apart fresh handsOn again : Bool} {W W' : World} {args : Array Value} {ds gs : List (DataW H)} {before : List MemPlace} {tb : TypeId}
    {nm : String} {g : Nat} {t : TypeId} {ms : Array (String × TypeId)} (hg : P.globalNamed nm = some g) (hgt : (P.globals[g]?).map (·.type) = some t) (ht : P.underlying t = some (.interface ms))
    (hpar : ∀ t ∈ f.params.toList, P.readableRec t = true ∧ t < P.types.size) (hrt : f.resultTypes = #[tb]) (htb : P.underlying tb = some .bool) (hvars : s.vars = [nm])
    (hfn : ∀ (xs : List (DataW H)) (y : DataW H), xs.length = f.params.toList.length → s.fn H (xs ++ [y]) = { results := [.lit (.bool true)], args := xs, vars := [y] })
    (hW : DataW.Whole enc P f.params.toList s.vars apart W args.toList ds gs before) (hb : Below W.heap.size W W') :
    s.post enc P f apart fresh handsOn again W args (.bool true) W' := by
  have hlt : ∀ p ∈ before, p.block < W.heap.size := fun p hp => hW.lt p hp
  have hW0 := hW
  obtain ⟨p, q, hA, hV, rfl, hz, hn⟩ := hW
  rw [hvars] at hV
  have hV' := vars_stay hg hgt ht hb hV
  have hgs : ∃ y, gs = [y] := by
    match gs, hV with
    | [y], _ => exact ⟨y, rfl⟩
  obtain ⟨y, rfl⟩ := hgs
  have hlen : ∀ {ts : List TypeId} {vs : List Value} {es : List (DataW H)} {r : List MemPlace}, DataW.TrodAll enc P W 0 (fun _ => true) true ts vs es r → es.length = ts.length := by
    intro ts
    induction ts with
    | nil => intro vs es r h; obtain ⟨_, rfl, _⟩ := trodAll_nil h; rfl
    | cons t ts ih =>
      intro vs es r h
      obtain ⟨_, _, _, _, _, _, _, rfl, _, _, h2⟩ := trodAll_cons h
      simp [ih h2]
  have hf := hfn ds y (hlen hA)
  have hA' : ∀ sp : Nat → Bool, (∀ x ∈ p, sp x.block = true) → DataW.TrodAll enc P W' 0 sp true f.params.toList args.toList ds p := fun sp hsp =>
    stays_all hl hpar hA (fun x hx => hb.same (hlt x (List.mem_append_left _ hx))) hsp
  have hres : ∀ (b : Nat) (sp : Nat → Bool) (hd : Bool), DataW.TrodAll enc P W' b sp hd f.resultTypes.toList ((Value.bool true).resultList f.resultTypes.size) [.lit (.bool true)] [] := by
    intro b sp hd
    rw [hrt]
    exact trodAll_mk1 (shut_bool htb true)
  have hout : ∀ (j : Nat) (t : TypeId) (r : Value), f.resultTypes[j]? = some t → ((Value.bool true).resultList f.resultTypes.size)[j]? = some r → Value.okWide P W' .any 0 t r := by
    have h1 := okWide_bool_mk (W' := W') htb true
    exact ok_one hrt rfl h1
  refine ⟨ds, [y], p ++ q, [], p, q, hW0, ?_, ?_, ?_, ?_, fun _ => ?_⟩
  · rw [hf]; exact hres _ _ _
  · rw [hf]; exact hA' _ (fun x hx => by simpa using hlt x (List.mem_append_left _ hx))
  · rw [hf, hvars]; exact hV' _
  · exact World.keptBut_mono (fun x hx => ⟨hx, Or.inr (by simpa using hx)⟩) (hb.frame (· ∈ p ++ q))
  · refine ⟨hout, .lit (.bool true) :: ds, [y], p ++ q, ⟨p, q, ?_, ?_, by simp, ?_, ?_⟩, ?_⟩
    · have := trodAll_append (hA' (fun _ => true) (fun _ _ => rfl)) (hres 0 (fun _ => true) true)
      simpa using this
    · rw [hvars]; exact hV' _
    · intro b off hp
      rw [hb.frozen (hlt _ hp)]
      exact hz b off hp
    · intro ha; exact hn ha
    · intro x hx _; simpa using hx
end

/-- The contract of a law over listed variables, one of which it names, is enough. -/
theorem law_laidV {C : Checked} {os : Os} {k : FuncId} {fn : Func} {s : ChangeSpec} {conds : List PathCond} {apart fresh handsOn again : Bool} {laid : List (String × DataW Unit)} {H : Type} {enc : TypeId × Value → H} {F : Stop.Interp} {tb : TypeId}
    {nm : String} {g : Nat} {t : TypeId} {ms : Array (String × TypeId)} (hg : C.prog.globalNamed nm = some g) (hgt : (C.prog.globals[g]?).map (·.type) = some t) (ht : C.prog.underlying t = some (.interface ms))
    (own : ownKnob C.prog.godebug = none) (started : os.Started) (noInit : C.prog.inits.idxOf? k = none) (hfn : C.prog.funcs[k]? = some fn)
    (hl : laidOutB C.prog = true) (hpar : ∀ t ∈ fn.params.toList, C.prog.readableRec t = true ∧ t < C.prog.types.size) (hrt : fn.resultTypes = #[tb]) (htb : C.prog.underlying tb = some .bool) (hvars : s.vars = [nm])
    (hs : ∀ (xs : List (DataW H)) (y : DataW H), xs.length = fn.params.toList.length → s.fn H (xs ++ [y]) = { results := [.lit (.bool true)], args := xs, vars := [y] })
    (witness : ∃ (w : World) (tape : Tape) (i : Input), w.os = os ∧ (w.forCall tape i).Shaped C.prog ∧ i.vars = [] ∧ Input.okWide C.prog (w.forCall tape i) .any w.heap.size k i ∧
      (OpenSpec.ofChange s).preRow enc C.prog fn conds apart laid (w.forCall tape i).memory i.args ∧ ({} : Assume).holds C.prog (lone (Frame.enter C.prog k i.args .normal) [] (w.forCall tape i)))
    (walk : ∀ (W : World) (base : Nat) (args : Array Value) (ds : List (DataW H)) (p : List MemPlace),
      (∀ (j : Nat) t v, fn.params[j]? = some t → args[j]? = some v → Value.okWide C.prog W .any base t v) →
      DataW.TrodAll enc C.prog W 0 (fun _ => true) true fn.params.toList args.toList ds p → (∀ x ∈ p, x.block < W.heap.size) → laidMetH C.prog laid W →
      Calls C.prog k args W fun e W' => e = .returned (.bool true) ∧ Below W.heap.size W W') :
    ReturnsInHanded {} C os k .any ((OpenSpec.ofChange s).preRow enc C.prog fn conds apart laid) (((OpenSpec.ofChange s).at F).post enc C.prog fn apart fresh handsOn again) := by
  refine returnsInHanded_of_row (s := OpenSpec.ofChange s) own started noInit hfn witness ?_
  intro W base args ds gs before hval hW _ _ _ hL _ _
  obtain ⟨p, q, hA, hV, he, _⟩ := id hW
  refine (walk W base args ds p hval hA (fun x hx => hW.lt x (by rw [he]; exact List.mem_append_left _ hx)) hL).mono fun e W' ⟨h1, h2⟩ => ?_
  exact ⟨_, h1, law_postV hl hg hgt ht hpar hrt htb hvars hs hW h2⟩
end Go.Proofs.YtclofbknbfmmlaaDoor.Lift
