/- SplitFields, of the program and of its model. -/
import Derived.Test.YtclofbknbfmmlaaDoorStr
import Derived.Test.YtclofbknbfmmlaaDoorDec
import Derived.Lib.FieldsLaws
namespace Go.Proofs.YtclofbknbfmmlaaDoor.C1
open Go.ChangeShapes Go.WideShapes Go.ChangeAt Go.RowKit Go.Proofs.YtclofbknbfmmlaaDoor.Lift
set_option linter.unusedVariables false

def PrintTo (s : ByteArray) (k : Nat) : Prop := ∀ i, i < k → i < s.size → 32 ≤ bz s i ∧ bz s i ≤ 126
def SplitOk (s : ByteArray) : Prop := s.size ≤ 600 ∧ PrintTo s s.size ∧ (Lib.fields s.data.toList).length ≤ 24
open Classical in
noncomputable def okS (s : ByteArray) : Bool := decide (SplitOk s)
open Classical in
noncomputable def outL (s : ByteArray) : List (List UInt8) := if SplitOk s then Lib.fields s.data.toList else []
theorem ok_yes {s : ByteArray} (h : SplitOk s) : okS s = true ∧ outL s = Lib.fields s.data.toList := by
  classical
  unfold okS outL; exact ⟨decide_eq_true h, if_pos h⟩
theorem ok_no {s : ByteArray} (h : ¬ SplitOk s) : okS s = false ∧ outL s = [] := by
  classical
  unfold okS outL; exact ⟨decide_eq_false h, if_neg h⟩
def Split (s : ByteArray) (w : World) (e : Ending) (w' : World) : Prop :=
  ∃ A cap, e = .returned (.tuple #[.slice A (outL s).length cap, .bool (okS s)]) ∧ w'.ownsRow w.heap.size 9 1 (.slice A (outL s).length cap) (outL s).length (strs (outL s)) ∧ Below w.heap.size w w'
theorem split_no {s : ByteArray} {w w' : World} {A : Option Addr} {cap : Nat} (h : ¬ SplitOk s) (ho : w'.ownsRow w.heap.size 9 1 (.slice A 0 cap) 0 []) (hb : Below w.heap.size w w') : Split s w (.returned (.tuple #[.slice A 0 cap, .bool false])) w' := by
  obtain ⟨h1, h2⟩ := ok_no h
  refine ⟨A, cap, ?_, ?_, hb⟩
  · rw [h1, h2]; rfl
  · rw [h2]; exact ho
theorem split_yes {s : ByteArray} {w w' : World} {A : Option Addr} {cap n : Nat} (h : SplitOk s) (hn : (Lib.fields s.data.toList).length = n) (ho : w'.ownsRow w.heap.size 9 1 (.slice A n cap) n (strs (Lib.fields s.data.toList))) (hb : Below w.heap.size w w') : Split s w (.returned (.tuple #[.slice A n cap, .bool true])) w' := by
  obtain ⟨h1, h2⟩ := ok_yes h
  subst hn
  refine ⟨A, cap, ?_, ?_, hb⟩
  · rw [h1, h2]
  · rw [h2]; exact ho
theorem own_form {w : World} {base n size : Nat} {e : TypeId} {v : Value} {xs : List Value} (h : w.ownsRow base e size v n xs) : ∃ A cap, v = .slice A n cap := by
  rcases h.2 with ⟨h0, h1⟩ | ⟨g, cap, cur, h1, _⟩
  · exact ⟨none, 0, by rw [h0, h1]⟩
  · exact ⟨_, cap, h1⟩
theorem not_print {s : ByteArray} {k : Nat} (hk : k < s.size) (h : bz s k < 32 ∨ 126 < bz s k) : ¬ SplitOk s := fun ⟨_, h2, _⟩ => by
  have := h2 k hk hk; omega
/-! The fields that are done, and the one that is being read. -/
def piece (s : ByteArray) (b k : Nat) : List UInt8 := (s.data.toList.drop b).take (k - b)
def FS (s : ByteArray) (k b : Nat) (dn : List (List UInt8)) : Prop :=
  if k ≤ s.size then Lib.fields s.data.toList = dn ++ Lib.fieldsGo (piece s b k) (s.data.toList.drop k) else Lib.fields s.data.toList = dn
theorem fs_start (s : ByteArray) : FS s 0 0 [] := by unfold FS piece Lib.fields; rw [if_pos (by omega)]; simp
theorem sp_at {s : ByteArray} {k : Nat} (hk : k < s.size) : s.data.toList.drop k = s[k] :: s.data.toList.drop (k + 1) := by
  rw [List.drop_eq_getElem_cons (by simpa using hk)]; rfl
theorem isSp_yes {s : ByteArray} {k : Nat} (hk : k < s.size) (h : bz s k = 32) : Lib.isSp s[k] = true := by
  have e := bz_at s k hk
  rw [h] at e
  have : s[k] = 32 := UInt8.toNat_inj.1 (by have : s[k].toNat = 32 := by omega
                                            rw [this]; rfl)
  rw [this]; rfl
theorem isSp_no {s : ByteArray} {k : Nat} (hk : k < s.size) (h0 : 32 ≤ bz s k) (h : bz s k ≠ 32) : Lib.isSp s[k] = false := by
  have e := bz_at s k hk
  have h2 : ∀ c : UInt8, c.toNat ≤ 32 → s[k] ≠ c := by
    intro c hc e2
    rw [e2] at e
    omega
  unfold Lib.isSp
  simp [h2 9 (by decide), h2 10 (by decide), h2 11 (by decide), h2 12 (by decide), h2 13 (by decide), h2 32 (by decide)]
theorem fs_more {s : ByteArray} {k b : Nat} {dn : List (List UInt8)} (h : FS s k b dn) (hk : k < s.size) (hb : b ≤ k) (h0 : 32 ≤ bz s k) (h1 : bz s k ≠ 32) : FS s (k + 1) b dn := by
  unfold FS at h ⊢
  rw [if_pos (by omega)] at h ⊢
  rw [h, sp_at hk, Lib.fieldsGo_more _ _ _ (isSp_no hk h0 h1)]
  unfold piece
  rw [Lib.piece_more hb (x := s[k]) (by rw [List.getElem?_eq_getElem (by simpa using hk)]; rfl)]
theorem fs_none {s : ByteArray} {k b : Nat} {dn : List (List UInt8)} (h : FS s k b dn) (hk : k < s.size) (hb : b = k) (h1 : bz s k = 32) : FS s (k + 1) (k + 1) dn := by
  subst hb
  unfold FS at h ⊢
  rw [if_pos (by omega)] at h ⊢
  have e : ∀ i, piece s i i = [] := fun i => Lib.piece_nil _ _
  rw [h, sp_at hk, e, e, Lib.fieldsGo_sp _ _ (isSp_yes hk h1)]
theorem fs_one {s : ByteArray} {k b : Nat} {dn : List (List UInt8)} (h : FS s k b dn) (hk : k < s.size) (hb : b < k) (h1 : bz s k = 32) : FS s (k + 1) (k + 1) (dn ++ [piece s b k]) := by
  unfold FS at h ⊢
  rw [if_pos (by omega)] at h ⊢
  have e : ∀ i, piece s i i = [] := fun i => Lib.piece_nil _ _
  have hne : piece s b k ≠ [] := Lib.piece_ne hb (by simp; omega)
  rw [h, sp_at hk, e, Lib.fieldsGo_end _ _ _ (isSp_yes hk h1) hne]
  simp
theorem fs_end0 {s : ByteArray} {b : Nat} {dn : List (List UInt8)} (h : FS s s.size b dn) (hb : b = s.size) : FS s (s.size + 1) (s.size + 1) dn := by
  subst hb
  unfold FS at h ⊢
  rw [if_pos (by omega)] at h
  rw [if_neg (by omega), h]
  have e : piece s s.size s.size = [] := Lib.piece_nil _ _
  rw [e, List.drop_of_length_le (by simp)]
  simp [Lib.fieldsGo]
theorem fs_end1 {s : ByteArray} {b : Nat} {dn : List (List UInt8)} (h : FS s s.size b dn) (hb : b < s.size) : FS s (s.size + 1) (s.size + 1) (dn ++ [piece s b s.size]) := by
  unfold FS at h ⊢
  rw [if_pos (by omega)] at h
  rw [if_neg (by omega), h, List.drop_of_length_le (by simp)]
  have hne : piece s b s.size ≠ [] := Lib.piece_ne hb (by simp)
  cases hp : piece s b s.size with
  | nil => exact absurd hp hne
  | cons x r => simp [Lib.fieldsGo]
theorem fs_fin {s : ByteArray} {b : Nat} {dn : List (List UInt8)} (h : FS s (s.size + 1) b dn) : Lib.fields s.data.toList = dn := by
  unfold FS at h; rw [if_neg (by omega)] at h; exact h
theorem print_more {s : ByteArray} {k : Nat} (h : PrintTo s k) (h0 : k < s.size → 32 ≤ bz s k ∧ bz s k ≤ 126) : PrintTo s (k + 1) := by
  intro i hi hs
  rcases Nat.lt_or_ge i k with h1 | h1
  · exact h i h1 hs
  · obtain rfl : i = k := by omega
    exact h0 hs
theorem strs_snoc (dn : List (List UInt8)) (s : ByteArray) (b k : Nat) : strs (dn ++ [piece s b k]) = strs dn ++ [.string (s.extract b k)] := by
  unfold strs piece
  rw [List.map_append, Lib.extract_eq]
  rfl
theorem oneS (a : ByteArray) : ∀ x ∈ ([.string a] : List Value), x.oneCell' = true := by
  intro x hx
  simp at hx
  subst hx
  rfl
/-- The bytes before m can be printed, and m is the end or the first that cannot. -/
def First (s : ByteArray) (m : Nat) : Prop := m ≤ s.size ∧ PrintTo s m ∧ (m < s.size → bz s m < 32 ∨ 126 < bz s m)
theorem first_ex (s : ByteArray) : ∃ m, First s m := by
  have h1 : ∀ n, n ≤ s.size → PrintTo s n ∨ ∃ m, First s m := by
    intro n
    induction n with
    | zero => exact fun _ => Or.inl fun i hi => absurd hi (by omega)
    | succ n ih =>
      intro hn
      rcases ih (by omega) with h2 | h2
      · by_cases hg : 32 ≤ bz s n ∧ bz s n ≤ 126
        · exact Or.inl (print_more h2 fun _ => hg)
        · exact Or.inr ⟨n, by omega, h2, fun _ => by omega⟩
      · exact Or.inr h2
  rcases h1 s.size (Nat.le_refl _) with h | h
  · exact ⟨s.size, Nat.le_refl _, h, fun h => absurd h (by omega)⟩
  · exact h
theorem printable (s : ByteArray) (m : Nat) (w : World) (hs : s.size ≤ 600) (hf : First s m) :
    Calls Tryd.prog 100 #[.string s] w fun e w' => e = .returned (.int .i64 (m : Int)) ∧ w = w' := by
  have HF := Lib.hid hf
  clear hf
  go_enter Tryd.func100, Tryd.ntmps100
  go_wp2
  go_step3
  go_wp2
  go_step3
  go_wp2
  go_loop [3] (fun i => ∃ k : Nat, k ≤ m ∧ i = .int .i64 k) (fun i => s.size - (intOf i).toNat)
  case atStart => exact ⟨0, by omega, rfl⟩
  case round =>
    obtain ⟨k, hk, rfl⟩ := hrel
    have hm := HF.out.1
    by_cases hlt : k < s.size
    · have q0 := bz_at s k hlt
      by_cases hkm : k < m
      · obtain ⟨h0, h1⟩ := HF.out.2.1 k hkm hlt
        go_wp2
        go_round
        case rel => exact ⟨k + 1, by omega, by go_num⟩
        case measure => simp [intOf]; omega
      · obtain rfl : k = m := by omega
        by_cases h0 : bz s k < 32
        · go_wp2
          try rw [Exit.noGoto_ret]
          go_ret
          exact ⟨rfl, rfl⟩
        · have h1 : 126 < bz s k := by have := HF.out.2.2 hlt; omega
          have h0' : 32 ≤ bz s k := by omega
          go_wp2
          try rw [Exit.noGoto_ret]
          go_ret
          exact ⟨rfl, rfl⟩
    · obtain rfl : k = m := by omega
      go_wp2
      try rw [Exit.noGoto_ret]
      go_ret
      exact ⟨rfl, rfl⟩
theorem clone_impl (s : ByteArray) (w : World) (hs : s.size ≤ 281474976710656) :
    Calls Tryd.prog 102 #[.string s] w fun e w' => e = .returned (.string s) ∧ Below w.heap.size w w' := by
  go_enter Tryd.func102, Tryd.ntmps102
  go_wp2_with fail
  refine (Tryd.stringslite_Clone s _ hs).mono ?_
  rintro e w1 ⟨rfl, hb⟩
  have HB := Lib.hid hb
  clear hb
  go_wp2
  go_ret
  exact ⟨rfl, HB.out⟩
set_option maxHeartbeats 1000000 in
theorem split_impl (s : ByteArray) (w : World) (hs : s.size ≤ 9223372036854775807) (ht : Ascii w) : Calls Tryd.prog 64 #[.string s] w (Split s w) := by
  have HT := Lib.hid ht
  clear ht
  have HNil := Lib.hid (World.ownsRow_nil w w.heap.size 9 1)
  by_cases hlong : 600 < s.size
  · have HN := Lib.hid (show ¬ SplitOk s from fun ⟨h, _⟩ => by omega)
    go_enter Tryd.func64, Tryd.ntmps64
    go_wp2
    go_ret2
    exact split_no HN.out HNil.out (Below.refl _ _)
  have hl : s.size ≤ 600 := by omega
  clear hlong hs
  obtain ⟨m, hf⟩ := first_ex s
  have hm := hf.1
  have HF := Lib.hid hf
  clear hf
  by_cases hms : m < s.size
  · have HN := Lib.hid (not_print hms (HF.out.2.2 hms))
    go_enter Tryd.func64, Tryd.ntmps64
    go_wp2_with fail
    refine (printable s m _ hl HF.out).mono ?_
    rintro e w1 ⟨rfl, rfl⟩
    go_wp2
    go_ret2
    exact split_no HN.out HNil.out (Below.refl _ _)
  · have hms' : s.size ≤ m := by omega
    have HPr : Hid (PrintTo s s.size) := fun i h1 h2 => HF.out.2.1 i (by omega) h2
    have HA : Hid (∀ (j : Nat) b, s.data.toList[j]? = some b → b.toNat < 128) := fun j b hb => by
      obtain ⟨hj, e⟩ := List.getElem?_eq_some_iff.1 hb
      have hj' : j < s.size := by simpa using hj
      have h1 := HPr j hj' hj'
      have h2 := bz_at s j hj'
      have h3 : s[j] = b := e
      rw [h3] at h2
      omega
    have HLn : Hid ((Lib.fields s.data.toList).length ≤ s.size) := by
      show _ ≤ _
      rw [Lib.fields_length]
      have h : ∀ (l : List UInt8) ws, Lib.cntF ws l ≤ l.length := by
        intro l
        induction l with
        | nil => intro ws; simp [Lib.cntF]
        | cons x l ih => intro ws; rw [Lib.cntF_step]; have := ih (Lib.isSp x); simp; split <;> omega
      have := h s.data.toList true
      simpa using this
    clear hms
    go_enter Tryd.func64, Tryd.ntmps64
    go_wp2_with fail
    refine (printable s m _ hl HF.out).mono ?_
    rintro e w1 ⟨rfl, rfl⟩
    go_wp2_with fail
    refine (clone_impl s _ (by omega)).mono ?_
    rintro e w1 ⟨rfl, hb1⟩
    have HB1 := Lib.hid hb1
    clear hb1
    go_wp2_with fail
    refine (Tryd.strings_Fields s _ (by omega) HA.out (HT.out.below HB1.out)).mono ?_
    rintro e w2 ⟨rfl, hw2⟩
    have HB2 : Hid (Below w.heap.size w w2) := by rw [hw2]; exact HB1.out.alloc HB1.out.size _
    have HO2 : Hid (w2.ownsRow w.heap.size 9 1 (.slice (some ⟨w1.heap.size, 0, none⟩) (Lib.fields s.data.toList).length (Lib.fields s.data.toList).length) (Lib.fields s.data.toList).length (strs (Lib.fields s.data.toList))) := by
      rw [hw2]
      have h := World.ownsRow_lit (base := w.heap.size) (size := 1) (e := 9) w1 ((Lib.fields s.data.toList).map fun l => Value.string ⟨l.toArray⟩).toArray (Lib.fields s.data.toList).length HB1.out.size (by have := HLn.out; unfold maxLen; omega) (by simp)
      exact h
    clear hw2
    have hfl := HLn.out
    by_cases hm24 : 24 < (Lib.fields s.data.toList).length
    · have HN := Lib.hid (show ¬ SplitOk s from fun ⟨_, _, h⟩ => by omega)
      go_wp2
      go_ret2
      exact split_no HN.out (World.ownsRow_nil _ _ _ _) HB2.out
    · have HY := Lib.hid (show SplitOk s from ⟨hl, HPr, by omega⟩)
      have hm24' : (Lib.fields s.data.toList).length ≤ 24 := by omega
      clear hm24
      go_wp2
      go_ret2
      exact split_yes HY.out rfl HO2.out HB2.out
end Go.Proofs.YtclofbknbfmmlaaDoor.C1
