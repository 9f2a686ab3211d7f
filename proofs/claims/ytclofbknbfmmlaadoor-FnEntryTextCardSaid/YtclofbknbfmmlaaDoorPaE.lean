/- The text of an entry, read: mathematics; the fields between spaces. -/
import Derived.Test.YtclofbknbfmmlaaDoorEnF
import Derived.Test.YtclofbknbfmmlaaDoorSplit
import Derived.Test.YtclofbknbfmmlaaDoorParse
namespace Go.Proofs.YtclofbknbfmmlaaDoor.C1
open Go.ChangeShapes Go.WideShapes Go.ChangeAt Go.RowKit Go.Proofs.YtclofbknbfmmlaaDoor.Lift
set_option linter.unusedVariables false

theorem dec_all : ∀ u : Nat, AllDig (Lib.decDigits u) ∧ valL (Lib.decDigits u) = u := by
  intro u
  induction u using Nat.strongRecOn with
  | _ u ih =>
    by_cases h : u < 10
    · rw [Lib.decDigits, dif_pos h]
      have e : ((UInt8.ofNat (48 + u)).toNat : Int) = 48 + u := by rw [UInt8.toNat_ofNat']; omega
      refine ⟨fun b hb => ?_, ?_⟩
      · rw [List.mem_singleton.1 hb, e]; omega
      · show 10 * 0 + (((UInt8.ofNat (48 + u)).toNat : Int) - 48) = u
        rw [e]; omega
    · obtain ⟨h1, h2⟩ := ih (u / 10) (by omega)
      rw [Lib.decDigits, dif_neg h]
      have e : ((UInt8.ofNat (48 + u % 10)).toNat : Int) = 48 + ((u % 10 : Nat) : Int) := by rw [UInt8.toNat_ofNat']; omega
      refine ⟨allDig_snoc h1 (by rw [e]; omega) (by rw [e]; omega), ?_⟩
      rw [valL_snoc, h2, e]
      omega
theorem itoa_pos (n : Int) (h : 0 ≤ n) : AllDig (Lib.itoa n) ∧ valL (Lib.itoa n) = n := by
  unfold Lib.itoa
  rw [if_neg (by omega)]
  have := dec_all n.toNat
  refine ⟨this.1, this.2.trans (by omega)⟩
theorem itoa_in (n : Int) (h0 : 0 ≤ n) (h1 : n ≤ 1000000000) : parseRes (Lib.itoa n) = .tuple #[.int .i64 n, .bool true] := by
  obtain ⟨a, b⟩ := itoa_pos n h0
  rw [res_yes (parse_yes a (by omega) (by rw [b])), b]
theorem itoa_ne (n : Int) : Lib.itoa n ≠ [] := by
  unfold Lib.itoa
  split
  · simp
  · intro h
    have := congrArg List.length h
    rw [Lib.decDigits_length] at this
    have := Lib.nDigits_pos n.toNat
    simp at *
    omega
noncomputable def pv (l : List UInt8) : Int := if parseOk l = true then valL l else 0
theorem pv_res (l : List UInt8) : parseRes l = .tuple #[.int .i64 (pv l), .bool (parseOk l)] := by
  cases h : parseOk l with
  | true => rw [res_yes h]; unfold pv; rw [if_pos h]
  | false => rw [res_no h]; unfold pv; rw [h]; rfl
theorem pv_itoa {n : Int} (h0 : 0 ≤ n) (h1 : n ≤ 1000000000) : pv (Lib.itoa n) = n := by
  have h := itoa_in n h0 h1
  rw [pv_res] at h
  injection h with h
  have := congrArg (fun a => a[0]?) h
  simp at this
  exact this
/-! Between spaces. -/
def spl : List UInt8 → List UInt8 → List (List UInt8)
  | cur, [] => [cur]
  | cur, x :: r => if x = 32 then cur :: spl [] r else spl (cur ++ [x]) r
theorem spl_sp (cur r : List UInt8) : spl cur (32 :: r) = cur :: spl [] r := by rw [spl, if_pos rfl]
theorem spl_go {x : UInt8} (cur r : List UInt8) (h : x ≠ 32) : spl cur (x :: r) = spl (cur ++ [x]) r := by rw [spl, if_neg h]
theorem spl_in (x : List UInt8) : ∀ (cur r : List UInt8), (∀ b ∈ x, b ≠ 32) → spl cur (x ++ r) = spl (cur ++ x) r := by
  induction x with
  | nil => intro cur r _; simp
  | cons a x ih =>
    intro cur r h
    rw [List.cons_append, spl_go _ _ (h a (List.mem_cons_self ..)), ih _ _ (fun b hb => h b (List.mem_cons_of_mem _ hb))]
    simp
theorem spl_tail (r : List (List UInt8)) : ∀ cur : List UInt8, (∀ f ∈ r, ∀ b ∈ f, b ≠ 32) → spl cur (Lib.joinTail [32] r) = cur :: r := by
  induction r with
  | nil => intro cur _; simp [Lib.joinTail, spl]
  | cons a r ih =>
    intro cur h
    have e : Lib.joinTail [32] (a :: r) = 32 :: (a ++ Lib.joinTail [32] r) := by simp [Lib.joinTail]
    rw [e, spl_sp, spl_in _ _ _ (h a (List.mem_cons_self ..)), List.nil_append, ih a (fun f hf => h f (List.mem_cons_of_mem _ hf))]
theorem spl_join (a : List UInt8) (r : List (List UInt8)) (h : ∀ f ∈ a :: r, ∀ b ∈ f, b ≠ 32) : spl [] (Lib.join (a :: r) [32]) = a :: r := by
  rw [Lib.join_cons, spl_in _ _ _ (h a (List.mem_cons_self ..)), List.nil_append, spl_tail r a (fun f hf => h f (List.mem_cons_of_mem _ hf))]
theorem spl_len (l : List UInt8) : ∀ cur f, f ∈ spl cur l → f.length ≤ cur.length + l.length := by
  induction l with
  | nil => intro cur f h; simp [spl] at h; subst h; simp
  | cons x r ih =>
    intro cur f h
    by_cases hx : x = 32
    · subst hx
      rw [spl_sp] at h
      rcases List.mem_cons.1 h with e | e
      · subst e; simp
      · have := ih [] f e; simp at *; omega
    · rw [spl_go _ _ hx] at h
      have := ih _ f h
      simp at *; omega
theorem fld_len (l : List UInt8) : ∀ cur f, f ∈ Lib.fieldsGo cur l → f.length ≤ cur.length + l.length := by
  induction l with
  | nil => intro cur f h; cases cur <;> simp [Lib.fieldsGo] at h; subst h; simp
  | cons x r ih =>
    intro cur f h
    cases hx : Lib.isSp x with
    | true =>
      cases cur with
      | nil => rw [Lib.fieldsGo_sp _ _ hx] at h; have := ih [] f h; simp at *; omega
      | cons y c =>
        rw [Lib.fieldsGo_end _ _ _ hx (by simp)] at h
        rcases List.mem_cons.1 h with e | e
        · subst e; simp
        · have := ih [] f e; simp at *; omega
    | false =>
      rw [Lib.fieldsGo_more _ _ _ hx] at h
      have := ih _ f h
      simp at *; omega
theorem getD_len {fs : List (List UInt8)} {n k : Nat} (h : ∀ f ∈ fs, f.length ≤ n) : (fs.getD k []).length ≤ n := by
  rw [List.getD_eq_getElem?_getD]
  cases hk : fs[k]? with
  | none => simp
  | some f => exact h f (List.mem_of_getElem? hk)
theorem fld_in (x : List UInt8) : ∀ (cur r : List UInt8), (∀ b ∈ x, Lib.isSp b = false) → Lib.fieldsGo cur (x ++ r) = Lib.fieldsGo (cur ++ x) r := by
  induction x with
  | nil => intro cur r _; simp
  | cons a x ih =>
    intro cur r h
    rw [List.cons_append, Lib.fieldsGo_more _ _ _ (h a (List.mem_cons_self ..)), ih _ _ (fun b hb => h b (List.mem_cons_of_mem _ hb))]
    simp
theorem fld_tail (r : List (List UInt8)) : ∀ cur : List UInt8, cur ≠ [] → (∀ f ∈ r, f ≠ [] ∧ ∀ b ∈ f, Lib.isSp b = false) → Lib.fieldsGo cur (Lib.joinTail [32] r) = cur :: r := by
  induction r with
  | nil =>
    intro cur hc _
    cases cur with
    | nil => exact absurd rfl hc
    | cons a c => simp [Lib.joinTail, Lib.fieldsGo]
  | cons a r ih =>
    intro cur hc h
    have e : Lib.joinTail [32] (a :: r) = 32 :: (a ++ Lib.joinTail [32] r) := by simp [Lib.joinTail]
    obtain ⟨h1, h2⟩ := h a (List.mem_cons_self ..)
    rw [e, Lib.fieldsGo_end cur 32 _ rfl hc, fld_in _ _ _ h2, List.nil_append, ih a h1 (fun f hf => h f (List.mem_cons_of_mem _ hf))]
theorem fld_join (a : List UInt8) (r : List (List UInt8)) (h : ∀ f ∈ a :: r, f ≠ [] ∧ ∀ b ∈ f, Lib.isSp b = false) : Lib.fields (Lib.join (a :: r) [32]) = a :: r := by
  obtain ⟨h1, h2⟩ := h a (List.mem_cons_self ..)
  unfold Lib.fields
  rw [Lib.join_cons, fld_in _ _ _ h2, List.nil_append, fld_tail r a h1 (fun f hf => h f (List.mem_cons_of_mem _ hf))]
/-! Where the reader stands. -/
def SP (s : ByteArray) (k b : Nat) (dn : List (List UInt8)) : Prop :=
  if k ≤ s.size then spl [] s.data.toList = dn ++ spl (piece s b k) (s.data.toList.drop k) else spl [] s.data.toList = dn
theorem sp_start (s : ByteArray) : SP s 0 0 [] := by unfold SP piece; rw [if_pos (by omega)]; simp
theorem at32 {s : ByteArray} {k : Nat} (hk : k < s.size) : bz s k = 32 ↔ s[k] = 32 := by
  have e := bz_at s k hk
  constructor
  · intro h
    rw [h] at e
    exact UInt8.toNat_inj.1 (by have : s[k].toNat = 32 := by omega
                                rw [this]; rfl)
  · intro h
    rw [h] at e
    rw [← e]; rfl
theorem sp_more {s : ByteArray} {k b : Nat} {dn : List (List UInt8)} (h : SP s k b dn) (hk : k < s.size) (hb : b ≤ k) (h1 : bz s k ≠ 32) : SP s (k + 1) b dn := by
  unfold SP at h ⊢
  rw [if_pos (by omega)] at h ⊢
  rw [h, sp_at hk, spl_go _ _ (fun e => h1 ((at32 hk).2 e))]
  unfold piece
  rw [Lib.piece_more hb (x := s[k]) (by rw [List.getElem?_eq_getElem (by simpa using hk)]; rfl)]
theorem sp_one {s : ByteArray} {k b : Nat} {dn : List (List UInt8)} (h : SP s k b dn) (hk : k < s.size) (h1 : bz s k = 32) : SP s (k + 1) (k + 1) (dn ++ [piece s b k]) := by
  unfold SP at h ⊢
  rw [if_pos (by omega)] at h ⊢
  have e : ∀ i, piece s i i = [] := fun i => Lib.piece_nil _ _
  rw [h, sp_at hk, e, (at32 hk).1 h1, spl_sp]
  simp
theorem sp_end {s : ByteArray} {b : Nat} {dn : List (List UInt8)} (h : SP s s.size b dn) : SP s (s.size + 1) (s.size + 1) (dn ++ [piece s b s.size]) := by
  unfold SP at h ⊢
  rw [if_pos (by omega)] at h
  rw [if_neg (by omega), h, List.drop_of_length_le (by simp)]
  simp [spl]
theorem sp_fin {s : ByteArray} {b : Nat} {dn : List (List UInt8)} (h : SP s (s.size + 1) b dn) : spl [] s.data.toList = dn := by
  unfold SP at h; rw [if_neg (by omega)] at h; exact h
/-! The texts of an entry's numbers. -/
theorem byte_ne {b : UInt8} {n : Nat} (h : 48 ≤ (b.toNat : Int)) (c : UInt8) (hc : c.toNat ≤ 32) : b ≠ c := by
  intro e
  rw [e] at h
  omega
theorem dig_sp {b : UInt8} (h : 48 ≤ (b.toNat : Int)) : b ≠ 32 ∧ Lib.isSp b = false := by
  have h2 : ∀ c : UInt8, c.toNat ≤ 32 → b ≠ c := fun c hc => byte_ne (n := 0) h c hc
  refine ⟨h2 32 (by decide), ?_⟩
  unfold Lib.isSp
  simp [h2 9 (by decide), h2 10 (by decide), h2 11 (by decide), h2 12 (by decide), h2 13 (by decide), h2 32 (by decide)]
def EnPos (F : Nat → Int) : Prop := ∀ i, i < 5 → 0 ≤ F i ∧ F i ≤ 1000000000
theorem enZ_pos {b : En} (h : enOk b = true) : EnPos (enZ b) := fun i hi => by
  obtain ⟨_, h1, h2, h3, h4, h5⟩ := enOk_in' h
  unfold enZ
  split
  · omega
  · split
    · omega
    · split
      · omega
      · split <;> omega
theorem num_mem {F : Nat → Int} (hF : EnPos F) {f : List UInt8} (h : f ∈ numT 5 F) : f ≠ [] ∧ AllDig f := by
  unfold numT at h
  obtain ⟨i, hi, rfl⟩ := List.mem_map.1 h
  exact ⟨itoa_ne _, (itoa_pos _ (hF i (List.mem_range.1 hi)).1).1⟩
theorem num_cons (F : Nat → Int) : numT 5 F = Lib.itoa (F 0) :: (numT 4 (fun i => F (i + 1))) := by
  unfold numT
  rw [List.range_succ_eq_map, List.map_cons, List.map_map]
  rfl
theorem spl_num {F : Nat → Int} (hF : EnPos F) : spl [] (joinT 5 F) = numT 5 F := by
  unfold joinT
  have h : ∀ f ∈ numT 5 F, ∀ b ∈ f, b ≠ 32 := fun f hf b hb => (dig_sp ((num_mem hF hf).2 b hb).1).1
  rw [num_cons] at h ⊢
  exact spl_join _ _ h
theorem fld_num {F : Nat → Int} (hF : EnPos F) : Lib.fields (joinT 5 F) = numT 5 F := by
  unfold joinT
  have h : ∀ f ∈ numT 5 F, f ≠ [] ∧ ∀ b ∈ f, Lib.isSp b = false := fun f hf => ⟨(num_mem hF hf).1, fun b hb => (dig_sp ((num_mem hF hf).2 b hb).1).2⟩
  rw [num_cons] at h ⊢
  exact fld_join _ _ h
theorem join_bytes {F : Nat → Int} : ∀ {n : Nat}, (∀ i, i < n → 0 ≤ F i) → ∀ b ∈ joinT n F, 32 ≤ (b.toNat : Int) ∧ (b.toNat : Int) ≤ 126
  | 0, _ => fun b hb => by unfold joinT numT at hb; simp [Lib.join_nil] at hb
  | n + 1, h => fun b hb => by
    have h2 := (itoa_pos (F n) (h n (by omega))).1
    rcases Nat.eq_zero_or_pos n with h0 | h0
    · subst h0
      rw [joinT_one] at hb
      have := h2 b hb
      omega
    · rw [joinT_succ F h0] at hb
      rcases List.mem_append.1 hb with h3 | h3
      · rcases List.mem_append.1 h3 with h4 | h4
        · exact join_bytes (fun i hi => h i (by omega)) b h4
        · rw [List.mem_singleton.1 h4]; decide
      · have := h2 b h3
        omega
theorem split_num {F : Nat → Int} (hF : EnPos F) : SplitOk ⟨(joinT 5 F).toArray⟩ := by
  have hl := joinT_le (n := 5) (F := F) (fun i hi => by have := hF i hi; omega)
  refine ⟨by rw [str_size]; omega, fun i h1 h2 => ?_, ?_⟩
  · have hm : (⟨(joinT 5 F).toArray⟩ : ByteArray)[i] ∈ joinT 5 F := List.getElem_mem (by rw [str_size] at h2; exact h2)
    have := join_bytes (fun i hi => (hF i hi).1) _ hm
    rw [bz_at _ i h2] at this
    exact this
  · show (Lib.fields (joinT 5 F)).length ≤ 24
    rw [fld_num hF, numT_len]; decide
/-! What reading gives. -/
noncomputable def nums (fs : List (List UInt8)) (i : Nat) : Int := if i < fs.length then pv (fs.getD i []) else 0
def mkEn (G : Nat → Int) : En := ⟨G 0, G 1, G 2, G 3, G 4⟩
def zEn : En := ⟨0, 0, 0, 0, 0⟩
open Classical in
noncomputable def enRes (fs : List (List UInt8)) (l : List UInt8) : En × Bool := if l ≠ [] ∧ fmtE (mkEn (nums fs)) = l then (mkEn (nums fs), true) else (zEn, false)
theorem enRes_yes {fs : List (List UInt8)} {l : List UInt8} (h : l ≠ []) (h1 : fmtE (mkEn (nums fs)) = l) : enRes fs l = (mkEn (nums fs), true) := by
  classical
  unfold enRes; exact if_pos ⟨h, h1⟩
theorem enRes_no {fs : List (List UInt8)} {l : List UInt8} (h : l = [] ∨ fmtE (mkEn (nums fs)) ≠ l) : enRes fs l = (zEn, false) := by
  classical
  unfold enRes
  refine if_neg fun ⟨h1, h2⟩ => ?_
  rcases h with h | h
  · exact h1 h
  · exact h h2
theorem nums_num {F : Nat → Int} (hF : EnPos F) {i : Nat} (hi : i < 5) : nums (numT 5 F) i = F i := by
  unfold nums
  rw [if_pos (by rw [numT_len]; exact hi)]
  have : (numT 5 F).getD i [] = Lib.itoa (F i) := by unfold numT; simp [List.getD_eq_getElem?_getD, hi]
  rw [this]
  exact pv_itoa (hF i hi).1 (hF i hi).2
theorem mk_num {b : En} (h : enOk b = true) : mkEn (nums (numT 5 (enZ b))) = b := by
  have hF := enZ_pos h
  unfold mkEn
  rw [nums_num hF (by decide), nums_num hF (by decide), nums_num hF (by decide), nums_num hF (by decide), nums_num hF (by decide)]
  rfl
/-- The answer. -/
noncomputable def parE (l : List UInt8) : En × Bool := enRes (spl [] l) l
theorem valid_of {fs : List (List UInt8)} {l : List UInt8} (h : l ≠ []) (h1 : fmtE (mkEn (nums fs)) = l) : ∃ b, enOk b = true ∧ joinT 5 (enZ b) = l := by
  cases hv : enOk (mkEn (nums fs)) with
  | true => exact ⟨_, hv, by rw [← fmtE_yes hv]; exact h1⟩
  | false => rw [fmtE_no hv] at h1; exact absurd h1.symm h
theorem join_ne (F : Nat → Int) : joinT 5 F ≠ [] := by
  rw [joinT_succ F (by decide)]
  simp
theorem parE_valid {b : En} (h : enOk b = true) : parE (joinT 5 (enZ b)) = (b, true) := by
  unfold parE
  rw [spl_num (enZ_pos h), enRes_yes (join_ne _) (by rw [mk_num h, fmtE_yes h]), mk_num h]
/-- By fields at spaces, where the line splits into five; and nothing else reads. -/
theorem parE_fields {s : ByteArray} (h : SplitOk s) (h5 : (Lib.fields s.data.toList).length = 5) : enRes (Lib.fields s.data.toList) s.data.toList = parE s.data.toList := by
  by_cases hx : ∃ b, enOk b = true ∧ joinT 5 (enZ b) = s.data.toList
  · obtain ⟨b, hb, e⟩ := hx
    rw [← e, parE_valid hb, fld_num (enZ_pos hb), enRes_yes (join_ne _) (by rw [mk_num hb, fmtE_yes hb]), mk_num hb]
  · have h1 : ∀ fs, s.data.toList = [] ∨ fmtE (mkEn (nums fs)) ≠ s.data.toList := fun fs => by
      by_cases h0 : s.data.toList = []
      · exact Or.inl h0
      · exact Or.inr fun e => hx (valid_of h0 e)
    unfold parE
    rw [enRes_no (h1 _), enRes_no (h1 _)]
theorem parE_none {s : ByteArray} (h : ¬ (SplitOk s ∧ (Lib.fields s.data.toList).length = 5)) : parE s.data.toList = (zEn, false) := by
  refine enRes_no ?_
  by_cases h0 : s.data.toList = []
  · exact Or.inl h0
  · refine Or.inr fun e => h ?_
    obtain ⟨b, hb, e2⟩ := valid_of h0 e
    have hs : s = ⟨(joinT 5 (enZ b)).toArray⟩ := by rw [e2]
    refine ⟨by rw [hs]; exact split_num (enZ_pos hb), ?_⟩
    rw [← e2, fld_num (enZ_pos hb), numT_len]
end Go.Proofs.YtclofbknbfmmlaaDoor.C1
