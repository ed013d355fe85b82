/-
  Plain texts: the document reads the text of an instruction that can be as that instruction. No Go in sight.
-/
import Derived.Test.YtoekcfbjdcibpaaGreatDoorAsSpec
import Derived.Test.YtoekcfbjdcibpaaGreatDoorJA
namespace Go.Proofs.YtoekcfbjdcibpaaGreatDoor
open Go.RowKit Go.Lib
set_option linter.unusedVariables false

/-- The document's shape of a form. -/
def shapeK (k : Nat) : Str :=
  if k = 85 ∨ k = 74 then [100, 110] else if k = 73 ∨ k = 70 ∨ k = 72 then [100, 115, 110] else if k = 76 then [100, 109]
  else if k = 66 then [115, 116, 110] else if k = 83 then [116, 109] else if k = 82 then [100, 115, 116] else if k = 67 then [100, 99, 122] else []
/-- A number with a register in brackets. -/
def memD (s : Str) : Option (Int × Int) :=
  match numberL (cut s [40]).1 with
  | none => none
  | some n => if (cut s [40]).2.2 = false ∨ (cut s [40]).2.1 = [] ∨ (cut s [40]).2.1.getLast? ≠ some 41 then none else match regD (cut s [40]).2.1.dropLast with | some r => some (n, r) | none => none
/-- An operand put where its letter says. -/
def putD (op : Nat) (i : I6) (c : UInt8) (s : Str) : Option I6 :=
  if c = 100 then (regD s).map fun n => { i with rd := n }
  else if c = 115 then (regD s).map fun n => { i with rs1 := n }
  else if c = 116 then (regD s).map fun n => { i with rs2 := n }
  else if c = 110 then (numberL s).map fun n => { i with imm := n }
  else if c = 109 then (memD s).map fun p => { i with imm := p.1, rs1 := p.2 }
  else if c = 99 then (numberL s).map fun n => { i with csr := n }
  else if op < 54 then (regD s).map fun n => { i with rs1 := n }
  else (numberL s).map fun n => { i with rs1 := n }
def foldD (op : Nat) : I6 → Str → List Str → Option I6
  | i, [], [] => some i
  | i, c :: cs, x :: xs => match putD op i c x with | some j => foldD op j cs xs | none => none
  | _, _, _ => none
def upD (op : Nat) (i : I6) : I6 := if kindN op = 85 then { i with imm := i.imm * 4096 } else i
def dParse (s : Str) : Option I6 :=
  match findS (cut s [32]).1 with
  | none => none
  | some op => match foldD op ⟨op, 0, 0, 0, 0, 0⟩ (shapeK (kindN op)) (operD s) with
    | none => none
    | some i => if encOk (upD op i) = true then some (upD op i) else none
def joinD : List Str → Str
  | [] => []
  | [x] => x
  | x :: y :: xs => x ++ 44 :: 32 :: joinD (y :: xs)

theorem joinD_cons (x : Str) : ∀ l : List Str, l ≠ [] → joinD (x :: l) = x ++ 44 :: 32 :: joinD l
  | [], h => absurd rfl h
  | _ :: _, _ => rfl
theorem partsF_ne : ∀ (f : Nat) (s : Str), partsF f s ≠ []
  | 0, s => by simp [partsF]
  | f + 1, s => by unfold partsF; split <;> simp
theorem partsF_join : ∀ (f : Nat) (s : Str), joinD (partsF f s) = s
  | 0, s => rfl
  | f + 1, s => by
    unfold partsF
    split
    · next h => rw [joinD_cons _ _ (partsF_ne _ _), partsF_join f]; exact (cut_yes h).symm
    · next h => exact (cut_nay (by simpa using h)).1
theorem occ_no {s sub : Str} {c : UInt8} {t : Str} (hs : sub = c :: t) (h : ∀ x ∈ s, x ≠ c) (j : Nat) : occAt s sub j = false := by
  subst hs
  unfold occAt
  cases hd : s.drop j with
  | nil => rfl
  | cons a l =>
    have ha : a ∈ s := List.mem_of_mem_drop (by rw [hd]; exact List.mem_cons_self)
    have := h a ha
    simp [List.isPrefixOf]
    exact fun e => absurd e.symm this
theorem cut2_no (a : Str) (h : ∀ x ∈ a, x ≠ 44) : cut a [44, 32] = (a, [], false) := by
  have : ¬ 0 ≤ index a [44, 32] := by
    rcases index_spec a [44, 32] with ⟨h1, _⟩ | ⟨i, _, _, h3, _⟩
    · rw [h1]; decide
    · rw [occ_no rfl h] at h3; cases h3
  unfold cut
  rw [if_neg this]
theorem cut2_at (a r : Str) (h : ∀ x ∈ a, x ≠ 44) : cut (a ++ 44 :: 32 :: r) [44, 32] = (a, r, true) := by
  have hi : index (a ++ 44 :: 32 :: r) [44, 32] = (a.length : Int) := by
    rcases index_spec (a ++ 44 :: 32 :: r) [44, 32] with ⟨h1, h2⟩ | ⟨i, h1, h2, h3, h4⟩
    · have := h2 a.length (by simp)
      simp [occAt, List.isPrefixOf] at this
    · rcases Nat.lt_trichotomy i a.length with hl | hl | hl
      · have hd : (a ++ 44 :: 32 :: r).drop i = a.drop i ++ 44 :: 32 :: r := List.drop_append_of_le_length (by omega)
        have hne : a.drop i ≠ [] := by simp; omega
        obtain ⟨y, l, hy⟩ := List.exists_cons_of_ne_nil hne
        have hya : y ∈ a := List.mem_of_mem_drop (by rw [hy]; exact List.mem_cons_self)
        have := h y hya
        simp [occAt, hd, hy, List.isPrefixOf] at h3
        exact absurd h3.1.symm this
      · rw [h1, hl]
      · have := h4 a.length hl
        simp [occAt, List.isPrefixOf] at this
  unfold cut
  rw [hi, if_pos (by omega), Int.toNat_natCast]
  simp
theorem regD_iff (s : Str) (n : Int) : regD s = some n ↔ s = regL n ∧ 0 ≤ n ∧ n ≤ 4294967296 := by
  unfold regD regL
  constructor
  · intro h
    split at h
    · cases h
    · next h0 =>
      split at h
      · next m hm =>
        split at h
        · next h1 =>
          injection h with h
          subst h
          have h2 := (number_iff _ _).1 hm
          have h3 : s.head? = some 120 := Classical.byContradiction fun hh => h0 (.inr hh)
          exact ⟨by rw [cons_of_head h3, h2.1], h1, h2.2.2⟩
        · cases h
      · cases h
  · rintro ⟨rfl, h1, h2⟩
    have hne := itoa_ne n
    have hl : ¬ ((120 :: itoa n).length < 2 ∨ (120 :: itoa n : Str).head? ≠ some 120) := by
      rintro (h | h)
      · cases hh : itoa n with
        | nil => exact hne hh
        | cons a l => rw [hh] at h; simp at h; omega
      · exact h rfl
    rw [if_neg hl]
    have hm : numberL ((120 :: itoa n : Str).tail) = some n := (number_iff _ _).2 ⟨rfl, by omega, h2⟩
    rw [hm]
    simp [h1]
theorem itoa_no (c : UInt8) (hc : isMark c = true) (n : Int) : ∀ x ∈ itoa n, x ≠ c := fun x hx e => by
  have := itoa_mark n x hx
  rw [e, hc] at this
  cases this
theorem reg_no (c : UInt8) (hc : isMark c = true) (n : Int) : ∀ x ∈ regL n, x ≠ c := fun x hx e => by
  have := reg_mark n x hx
  rw [e, hc] at this
  cases this
theorem memD_iff (s : Str) (n r : Int) : memD s = some (n, r) ↔ s = itoa n ++ 40 :: (regL r ++ [41]) ∧ (-4294967296 ≤ n ∧ n ≤ 4294967296) ∧ 0 ≤ r ∧ r ≤ 4294967296 := by
  constructor
  · intro h
    unfold memD at h
    split at h
    · cases h
    · next m hm =>
      split at h
      · cases h
      · next h0 =>
        split at h
        · next q hq =>
          injection h with h
          injection h with e1 e2
          subst e1 e2
          have h1 := (number_iff _ _).1 hm
          have h2 := (regD_iff _ _).1 hq
          have h3 : (cut s [40]).2.2 = true := Classical.byContradiction fun hh => h0 (.inl (by simpa using hh))
          have h4 : (cut s [40]).2.1.getLast? = some 41 := Classical.byContradiction fun hh => h0 (.inr (.inr hh))
          have h5 := cut_yes h3
          have h6 : (cut s [40]).2.1 = (cut s [40]).2.1.dropLast ++ [41] := by
            obtain ⟨l, e⟩ := List.getLast?_eq_some_iff.1 h4
            rw [e, List.dropLast_concat]
          refine ⟨?_, h1.2, h2.2⟩
          rw [h2.1] at h6
          rw [h5, h6, h1.1]
          rfl
        · cases h
  · rintro ⟨rfl, h1, h2⟩
    have hc : cut (itoa n ++ 40 :: (regL r ++ [41])) [40] = (itoa n, regL r ++ [41], true) := cut_at 40 _ _ (itoa_no 40 rfl n)
    unfold memD
    rw [hc]
    simp only
    rw [(number_iff _ _).2 ⟨rfl, h1⟩]
    simp only
    rw [if_neg (by simp), List.dropLast_concat, (regD_iff _ _).2 ⟨rfl, h2⟩]
/-- A shape of two, of three operands. -/
theorem fold_two {op : Nat} {i j : I6} {c d : UInt8} {l : List Str} (h : foldD op i [c, d] l = some j) : ∃ x y k, l = [x, y] ∧ putD op i c x = some k ∧ putD op k d y = some j := by
  match l, h with
  | [], h => cases h
  | [x], h =>
    simp only [foldD] at h
    split at h <;> cases h
  | [x, y], h =>
    simp only [foldD] at h
    split at h
    · next k hk =>
      split at h
      · next k2 hk2 => injection h with h; subst h; exact ⟨x, y, k, rfl, hk, hk2⟩
      · cases h
    · cases h
  | x :: y :: z :: l, h =>
    simp only [foldD] at h
    split at h
    · split at h <;> cases h
    · cases h
theorem fold_three {op : Nat} {i j : I6} {c d e : UInt8} {l : List Str} (h : foldD op i [c, d, e] l = some j) : ∃ x y z k k2, l = [x, y, z] ∧ putD op i c x = some k ∧ putD op k d y = some k2 ∧ putD op k2 e z = some j := by
  match l, h with
  | [], h => cases h
  | x :: l, h =>
    simp only [foldD] at h
    split at h
    · next k hk =>
      obtain ⟨y, z, k2, rfl, h1, h2⟩ := fold_two h
      exact ⟨x, y, z, k, k2, rfl, hk, h1, h2⟩
    · cases h
theorem fold_none {op : Nat} {i j : I6} {l : List Str} (h : foldD op i [] l = some j) : l = [] ∧ j = i := by
  match l, h with
  | [], h => injection h with h; exact ⟨rfl, h.symm⟩
  | _ :: _, h => cases h
theorem parts2 (f : Nat) (a b : Str) (ha : ∀ x ∈ a, x ≠ 44) (hb : ∀ x ∈ b, x ≠ 44) (hf : 2 ≤ f) : partsF f (a ++ 44 :: 32 :: b) = [a, b] := by
  obtain ⟨g, rfl⟩ : ∃ g, f = g + 2 := ⟨f - 2, by omega⟩
  show (if (cut _ _).2.2 = true then _ else _) = _
  rw [cut2_at a b ha]
  simp only [if_true]
  show a :: (if (cut b [44, 32]).2.2 = true then _ else _) = _
  rw [cut2_no b hb]
  simp
theorem parts3 (f : Nat) (a b c : Str) (ha : ∀ x ∈ a, x ≠ 44) (hb : ∀ x ∈ b, x ≠ 44) (hc : ∀ x ∈ c, x ≠ 44) (hf : 3 ≤ f) : partsF f (a ++ 44 :: 32 :: (b ++ 44 :: 32 :: c)) = [a, b, c] := by
  obtain ⟨g, rfl⟩ : ∃ g, f = g + 1 := ⟨f - 1, by omega⟩
  show (if (cut _ _).2.2 = true then _ else _) = _
  rw [cut2_at a _ ha]
  simp only [if_true]
  rw [parts2 g b c hb hc (by omega)]
end Go.Proofs.YtoekcfbjdcibpaaGreatDoor
namespace Go.Proofs.YtoekcfbjdcibpaaGreatDoor
open Go.RowKit Go.Lib
set_option linter.unusedVariables false

def upK (k : Nat) (i : I6) : I6 := if k = 85 then { i with imm := i.imm * 4096 } else i
theorem put_d {op : Nat} {i j : I6} {x : Str} (h : putD op i 100 x = some j) : ∃ n, x = regL n ∧ j = { i with rd := n } := by
  simp only [putD, if_true] at h
  obtain ⟨n, h1, h2⟩ := Option.map_eq_some_iff.1 h
  exact ⟨n, ((regD_iff _ _).1 h1).1, h2.symm⟩
theorem put_s {op : Nat} {i j : I6} {x : Str} (h : putD op i 115 x = some j) : ∃ n, x = regL n ∧ j = { i with rs1 := n } := by
  have h' : (regD x).map (fun n => { i with rs1 := n }) = some j := h
  obtain ⟨n, h1, h2⟩ := Option.map_eq_some_iff.1 h'
  exact ⟨n, ((regD_iff _ _).1 h1).1, h2.symm⟩
theorem put_t {op : Nat} {i j : I6} {x : Str} (h : putD op i 116 x = some j) : ∃ n, x = regL n ∧ j = { i with rs2 := n } := by
  have h' : (regD x).map (fun n => { i with rs2 := n }) = some j := h
  obtain ⟨n, h1, h2⟩ := Option.map_eq_some_iff.1 h'
  exact ⟨n, ((regD_iff _ _).1 h1).1, h2.symm⟩
theorem put_n {op : Nat} {i j : I6} {x : Str} (h : putD op i 110 x = some j) : ∃ n, x = itoa n ∧ j = { i with imm := n } := by
  have h' : (numberL x).map (fun n => { i with imm := n }) = some j := h
  obtain ⟨n, h1, h2⟩ := Option.map_eq_some_iff.1 h'
  exact ⟨n, ((number_iff _ _).1 h1).1, h2.symm⟩
theorem put_m {op : Nat} {i j : I6} {x : Str} (h : putD op i 109 x = some j) : ∃ n r, x = itoa n ++ 40 :: (regL r ++ [41]) ∧ j = { i with imm := n, rs1 := r } := by
  have h' : (memD x).map (fun p => { i with imm := p.1, rs1 := p.2 }) = some j := h
  obtain ⟨⟨n, r⟩, h1, h2⟩ := Option.map_eq_some_iff.1 h'
  exact ⟨n, r, ((memD_iff _ _ _).1 h1).1, h2.symm⟩
theorem put_c {op : Nat} {i j : I6} {x : Str} (h : putD op i 99 x = some j) : ∃ n, x = itoa n ∧ j = { i with csr := n } := by
  have h' : (numberL x).map (fun n => { i with csr := n }) = some j := h
  obtain ⟨n, h1, h2⟩ := Option.map_eq_some_iff.1 h'
  exact ⟨n, ((number_iff _ _).1 h1).1, h2.symm⟩
theorem put_z {op : Nat} {i j : I6} {x : Str} (h : putD op i 122 x = some j) : ∃ n, x = (if 54 ≤ op then itoa n else regL n) ∧ j = { i with rs1 := n } := by
  have h' : (if op < 54 then (regD x).map (fun n => { i with rs1 := n }) else (numberL x).map (fun n => { i with rs1 := n })) = some j := h
  by_cases c : op < 54
  · rw [if_pos c] at h'
    obtain ⟨n, h1, h2⟩ := Option.map_eq_some_iff.1 h'
    exact ⟨n, by rw [if_neg (by omega)]; exact ((regD_iff _ _).1 h1).1, h2.symm⟩
  · rw [if_neg c] at h'
    obtain ⟨n, h1, h2⟩ := Option.map_eq_some_iff.1 h'
    exact ⟨n, by rw [if_pos (by omega)]; exact ((number_iff _ _).1 h1).1, h2.symm⟩

theorem fold_text (k op : Nat) (hk : IsKind k) {j : I6} {l : List Str} (h : foldD op ⟨op, 0, 0, 0, 0, 0⟩ (shapeK k) l = some j) :
    (upK k j).op = op ∧ ((operK k op = [] ∧ l = []) ∨ (operK k op ≠ [] ∧ l ≠ [] ∧ joinD l = restL k op (upK k j))) := by
  rcases hk with rfl | rfl | rfl | rfl | rfl | rfl | rfl | rfl | rfl | rfl | rfl
  · obtain ⟨x, y, k, rfl, h1, h2⟩ := fold_two h
    obtain ⟨a, rfl, rfl⟩ := put_d h1
    obtain ⟨b, rfl, rfl⟩ := put_n h2
    exact ⟨rfl, .inr ⟨by simp [operK], by simp, by rw [rest_U]; simp [upK, joinD]⟩⟩
  · obtain ⟨x, y, k, rfl, h1, h2⟩ := fold_two h
    obtain ⟨a, rfl, rfl⟩ := put_d h1
    obtain ⟨b, rfl, rfl⟩ := put_n h2
    exact ⟨rfl, .inr ⟨by simp [operK], by simp, by rw [rest_J]; simp [upK, joinD]⟩⟩
  · obtain ⟨x, y, z, k, k2, rfl, h1, h2, h3⟩ := fold_three h
    obtain ⟨a, rfl, rfl⟩ := put_d h1
    obtain ⟨b, rfl, rfl⟩ := put_s h2
    obtain ⟨c, rfl, rfl⟩ := put_n h3
    exact ⟨rfl, .inr ⟨by simp [operK], by simp, by rw [rest_I _ _ (by decide)]; simp [upK, joinD]⟩⟩
  · obtain ⟨x, y, k, rfl, h1, h2⟩ := fold_two h
    obtain ⟨a, rfl, rfl⟩ := put_d h1
    obtain ⟨b, c, rfl, rfl⟩ := put_m h2
    exact ⟨rfl, .inr ⟨by simp [operK], by simp, by rw [rest_L]; simp [upK, joinD]⟩⟩
  · obtain ⟨x, y, z, k, k2, rfl, h1, h2, h3⟩ := fold_three h
    obtain ⟨a, rfl, rfl⟩ := put_d h1
    obtain ⟨b, rfl, rfl⟩ := put_s h2
    obtain ⟨c, rfl, rfl⟩ := put_n h3
    exact ⟨rfl, .inr ⟨by simp [operK], by simp, by rw [rest_I _ _ (by decide)]; simp [upK, joinD]⟩⟩
  · obtain ⟨x, y, z, k, k2, rfl, h1, h2, h3⟩ := fold_three h
    obtain ⟨a, rfl, rfl⟩ := put_d h1
    obtain ⟨b, rfl, rfl⟩ := put_c h2
    obtain ⟨c, rfl, rfl⟩ := put_z h3
    refine ⟨rfl, .inr ⟨by (by_cases e : 54 ≤ op <;> simp [operK, e]), by simp, ?_⟩⟩
    by_cases e : 54 ≤ op
    · rw [rest_Ci _ e]; simp [upK, joinD, e]
    · rw [rest_C _ e]; simp [upK, joinD, e]
  · obtain ⟨x, y, z, k, k2, rfl, h1, h2, h3⟩ := fold_three h
    obtain ⟨a, rfl, rfl⟩ := put_s h1
    obtain ⟨b, rfl, rfl⟩ := put_t h2
    obtain ⟨c, rfl, rfl⟩ := put_n h3
    exact ⟨rfl, .inr ⟨by simp [operK], by simp, by rw [rest_B]; simp [upK, joinD]⟩⟩
  · obtain ⟨x, y, k, rfl, h1, h2⟩ := fold_two h
    obtain ⟨a, rfl, rfl⟩ := put_t h1
    obtain ⟨b, c, rfl, rfl⟩ := put_m h2
    exact ⟨rfl, .inr ⟨by simp [operK], by simp, by rw [rest_S]; simp [upK, joinD]⟩⟩
  · obtain ⟨x, y, z, k, k2, rfl, h1, h2, h3⟩ := fold_three h
    obtain ⟨a, rfl, rfl⟩ := put_d h1
    obtain ⟨b, rfl, rfl⟩ := put_s h2
    obtain ⟨c, rfl, rfl⟩ := put_n h3
    exact ⟨rfl, .inr ⟨by simp [operK], by simp, by rw [rest_I _ _ (by decide)]; simp [upK, joinD]⟩⟩
  · obtain ⟨x, y, z, k, k2, rfl, h1, h2, h3⟩ := fold_three h
    obtain ⟨a, rfl, rfl⟩ := put_d h1
    obtain ⟨b, rfl, rfl⟩ := put_s h2
    obtain ⟨c, rfl, rfl⟩ := put_t h3
    exact ⟨rfl, .inr ⟨by simp [operK], by simp, by rw [rest_R]; simp [upK, joinD]⟩⟩
  · obtain ⟨rfl, rfl⟩ := fold_none h
    exact ⟨rfl, .inl ⟨by simp [operK], rfl⟩⟩
theorem operD_nil {s : Str} (h : operD s = []) : (cut s [32]).1 = s := by
  unfold operD at h
  split at h
  · exact absurd h (partsF_ne _ _)
  · next hh => exact (cut_nay (by simpa using hh)).1
theorem operD_cons {s : Str} (h : operD s ≠ []) : s = (cut s [32]).1 ++ 32 :: joinD (operD s) := by
  unfold operD at h ⊢
  split at h
  · next hh => rw [if_pos hh, partsF_join]; exact cut_yes hh
  · exact absurd rfl h
theorem dParse_some {s : Str} {i : I6} (h : dParse s = some i) : encOk i = true ∧ textL i = s := by
  unfold dParse at h
  split at h
  · cases h
  · next op hop =>
    obtain ⟨hlt, hnm⟩ := findS_some hop
    split at h
    · cases h
    · next j hj =>
      split at h
      · next he =>
        injection h with h
        subst h
        refine ⟨he, ?_⟩
        obtain ⟨h1, h2⟩ := fold_text (kindN op) op (kindN_is op hlt) hj
        have hu : upD op j = upK (kindN op) j := rfl
        have ho : (upD op j).op.toNat = op := by rw [hu, h1]; rfl
        unfold textL textK
        rw [ho, hu, hnm]
        rcases h2 with ⟨e1, e2⟩ | ⟨e1, e2, e3⟩
        · rw [if_pos e1, show restL (kindN op) op (upK (kindN op) j) = [] by unfold restL; rw [e1]; rfl]
          simp only [List.append_nil]
          exact operD_nil e2
        · rw [if_neg e1, ← e3]
          exact (operD_cons e2).symm
      · cases h
end Go.Proofs.YtoekcfbjdcibpaaGreatDoor
namespace Go.Proofs.YtoekcfbjdcibpaaGreatDoor
open Go.RowKit Go.Lib
set_option linter.unusedVariables false

theorem regD_reg {n : Int} (h : 0 ≤ n ∧ n ≤ 31) : regD (regL n) = some n := (regD_iff _ _).2 ⟨rfl, by omega, by omega⟩
theorem num_itoa {n : Int} (h0 : -4294967296 ≤ n) (h1 : n ≤ 4294967296) : numberL (itoa n) = some n := (number_iff _ _).2 ⟨rfl, h0, h1⟩
theorem memD_mem {n r : Int} (h0 : -4294967296 ≤ n) (h1 : n ≤ 4294967296) (h : 0 ≤ r ∧ r ≤ 31) : memD (itoa n ++ 40 :: (regL r ++ [41])) = some (n, r) := (memD_iff _ _ _).2 ⟨rfl, ⟨h0, h1⟩, by omega, by omega⟩
theorem mem_no (n r : Int) : ∀ x ∈ itoa n ++ 40 :: (regL r ++ [41]), x ≠ 44 := by
  intro x hx
  rcases List.mem_append.1 hx with h | h
  · exact itoa_no 44 rfl n x h
  · rcases List.mem_cons.1 h with h | h
    · rw [h]; decide
    · rcases List.mem_append.1 h with h | h
      · exact reg_no 44 rfl r x h
      · rw [List.mem_singleton.1 h]; decide
theorem tdiv_mul {z : Int} (h : z % 4096 = 0) : z.tdiv 4096 * 4096 = z := Int.tdiv_mul_cancel (Int.dvd_of_emod_eq_zero h)
theorem fold_back (k op : Nat) (hk : IsKind k) (i : I6) (hi : i.op = op) (hv : ValidK k i) :
    (operK k op = [] ∧ foldD op ⟨op, 0, 0, 0, 0, 0⟩ (shapeK k) [] = some i ∧ upK k i = i) ∨ (operK k op ≠ [] ∧ ∀ f, 3 ≤ f → ∃ j, foldD op ⟨op, 0, 0, 0, 0, 0⟩ (shapeK k) (partsF f (restL k op i)) = some j ∧ upK k j = i) := by
  obtain ⟨o, rd, rs1, rs2, imm, csr⟩ := i
  dsimp only at hi
  subst hi
  rcases hk with rfl | rfl | rfl | rfl | rfl | rfl | rfl | rfl | rfl | rfl | rfl
  · obtain ⟨v1, v2, v3, v4, v5⟩ := hv
    simp at v1 v2 v3 v4 v5
    subst v2
    subst v3
    subst v4
    refine .inr ⟨by simp [operK], fun f hf => ⟨⟨op, rd, 0, 0, imm.tdiv 4096, 0⟩, ?_, ?_⟩⟩
    · have hb : -4294967296 ≤ imm.tdiv 4096 ∧ imm.tdiv 4096 ≤ 4294967296 := by have := tdiv_mul v5.2.2; omega
      rw [rest_U]
      show foldD op _ _ (partsF f (regL rd ++ 44 :: 32 :: itoa (imm.tdiv 4096))) = _
      rw [parts2 f _ _ (reg_no 44 rfl rd) (itoa_no 44 rfl (imm.tdiv 4096)) (by omega)]
      simp [shapeK, foldD, putD, regD_reg v1, num_itoa hb.1 hb.2]
    · simp [upK, tdiv_mul v5.2.2]
  · obtain ⟨v1, v2, v3, v4, v5⟩ := hv
    simp at v1 v2 v3 v4 v5
    subst v2
    subst v3
    subst v4
    refine .inr ⟨by simp [operK], fun f hf => ⟨_, ?_, rfl⟩⟩
    · rw [rest_J]
      rw [parts2 f _ _ (reg_no 44 rfl rd) (itoa_no 44 rfl imm) (by omega)]
      simp [shapeK, foldD, putD, regD_reg v1, num_itoa (n := imm) (by omega) (by omega)]
  · obtain ⟨v1, v2, v3, v4, v5⟩ := hv
    simp at v1 v2 v3 v4 v5
    subst v3
    subst v4
    refine .inr ⟨by simp [operK], fun f hf => ⟨_, ?_, rfl⟩⟩
    · rw [rest_I _ _ (by decide)]
      rw [parts3 f _ _ _ (reg_no 44 rfl rd) (reg_no 44 rfl rs1) (itoa_no 44 rfl imm) hf]
      simp [shapeK, foldD, putD, regD_reg v1, regD_reg v2, num_itoa (n := imm) (by omega) (by omega)]
  · obtain ⟨v1, v2, v3, v4, v5⟩ := hv
    simp at v1 v2 v3 v4 v5
    subst v3
    subst v4
    refine .inr ⟨by simp [operK], fun f hf => ⟨_, ?_, rfl⟩⟩
    · rw [rest_L]
      rw [parts2 f _ _ (reg_no 44 rfl rd) (mem_no imm rs1) (by omega)]
      simp [shapeK, foldD, putD, regD_reg v1, memD_mem (n := imm) (by omega) (by omega) v2]
  · obtain ⟨v1, v2, v3, v4, v5⟩ := hv
    simp at v1 v2 v3 v4 v5
    subst v3
    subst v4
    refine .inr ⟨by simp [operK], fun f hf => ⟨_, ?_, rfl⟩⟩
    · rw [rest_I _ _ (by decide)]
      rw [parts3 f _ _ _ (reg_no 44 rfl rd) (reg_no 44 rfl rs1) (itoa_no 44 rfl imm) hf]
      simp [shapeK, foldD, putD, regD_reg v1, regD_reg v2, num_itoa (n := imm) (by omega) (by omega)]
  · obtain ⟨v1, v2, v3, v4, v5⟩ := hv
    simp at v1 v2 v3 v4 v5
    subst v3
    subst v5
    by_cases e : 54 ≤ op
    · refine .inr ⟨by simp [operK, e], fun f hf => ⟨_, ?_, rfl⟩⟩
      rw [rest_Ci _ e, parts3 f _ _ _ (reg_no 44 rfl rd) (itoa_no 44 rfl csr) (itoa_no 44 rfl rs1) hf]
      simp [shapeK, foldD, putD, regD_reg v1, num_itoa (n := csr) (by omega) (by omega), num_itoa (n := rs1) (by omega) (by omega), show ¬ op < 54 by omega]
    · refine .inr ⟨by simp [operK, e], fun f hf => ⟨_, ?_, rfl⟩⟩
      rw [rest_C _ e, parts3 f _ _ _ (reg_no 44 rfl rd) (itoa_no 44 rfl csr) (reg_no 44 rfl rs1) hf]
      simp [shapeK, foldD, putD, regD_reg v1, num_itoa (n := csr) (by omega) (by omega), regD_reg v2, show op < 54 by omega]
  · obtain ⟨v1, v2, v3, v4, v5⟩ := hv
    simp at v1 v2 v3 v4 v5
    subst v1
    subst v4
    refine .inr ⟨by simp [operK], fun f hf => ⟨_, ?_, rfl⟩⟩
    · rw [rest_B]
      rw [parts3 f _ _ _ (reg_no 44 rfl rs1) (reg_no 44 rfl rs2) (itoa_no 44 rfl imm) hf]
      simp [shapeK, foldD, putD, regD_reg v2, regD_reg v3, num_itoa (n := imm) (by omega) (by omega)]
  · obtain ⟨v1, v2, v3, v4, v5⟩ := hv
    simp at v1 v2 v3 v4 v5
    subst v1
    subst v4
    refine .inr ⟨by simp [operK], fun f hf => ⟨_, ?_, rfl⟩⟩
    · rw [rest_S]
      rw [parts2 f _ _ (reg_no 44 rfl rs2) (mem_no imm rs1) (by omega)]
      simp [shapeK, foldD, putD, regD_reg v3, memD_mem (n := imm) (by omega) (by omega) v2]
  · obtain ⟨v1, v2, v3, v4, v5⟩ := hv
    simp at v1 v2 v3 v4 v5
    subst v3
    subst v4
    refine .inr ⟨by simp [operK], fun f hf => ⟨_, ?_, rfl⟩⟩
    · rw [rest_I _ _ (by decide)]
      rw [parts3 f _ _ _ (reg_no 44 rfl rd) (reg_no 44 rfl rs1) (itoa_no 44 rfl imm) hf]
      simp [shapeK, foldD, putD, regD_reg v1, regD_reg v2, num_itoa (n := imm) (by omega) (by omega)]
  · obtain ⟨v1, v2, v3, v4, v5⟩ := hv
    simp at v1 v2 v3 v4 v5
    subst v4
    subst v5
    refine .inr ⟨by simp [operK], fun f hf => ⟨_, ?_, rfl⟩⟩
    · rw [rest_R]
      rw [parts3 f _ _ _ (reg_no 44 rfl rd) (reg_no 44 rfl rs1) (reg_no 44 rfl rs2) hf]
      simp [shapeK, foldD, putD, regD_reg v1, regD_reg v2, regD_reg v3]
  · obtain ⟨v1, v2, v3, v4, v5⟩ := hv
    simp at v1 v2 v3 v4 v5
    obtain rfl := v1
    obtain rfl := v2
    obtain rfl := v3
    obtain rfl := v4
    obtain rfl := v5
    exact .inl ⟨by simp [operK], rfl, rfl⟩
theorem dParse_text (i : I6) (h : encOk i = true) : dParse (textL i) = some i := by
  obtain ⟨h1, h2⟩ := encOk_valid h
  obtain ⟨h3, h4⟩ := op_nat h1
  have hb := nameS_noBlank h3
  have hu : ∀ j, upD i.op.toNat j = upK (kindN i.op.toNat) j := fun _ => rfl
  obtain ⟨e1, e2⟩ := cut_text i h
  unfold dParse
  rw [e1, findS_name h3]
  simp only [hu]
  rcases fold_back (kindN i.op.toNat) i.op.toNat (kindN_is _ h3) i h4 h2 with ⟨g1, g2, g3⟩ | ⟨g1, g2⟩
  · have ho : operD (textL i) = [] := by
      unfold operD textL textK
      rw [if_pos g1, show restL (kindN i.op.toNat) i.op.toNat i = [] by unfold restL; rw [g1]; rfl, List.append_nil, List.append_nil, cut_no 32 _ hb]
      rfl
    rw [ho, g2]
    simp [g3, h]
  · have hc : cut (textL i) [32] = (nameS i.op.toNat, restL (kindN i.op.toNat) i.op.toNat i, true) := by
      unfold textL textK
      rw [if_neg g1, List.singleton_append, cut_at 32 _ _ hb]
    have hlen : 3 ≤ (textL i).length ∨ (textL i).length < 3 := by omega
    obtain ⟨j, hj, hju⟩ := g2 ((textL i).length + 3) (by omega)
    have hp : partsF (textL i).length (restL (kindN i.op.toNat) i.op.toNat i) = partsF ((textL i).length + 3) (restL (kindN i.op.toNat) i.op.toNat i) := by
      refine parts_fuel _ _ _ ?_ ?_
      · unfold textL textK; simp; omega
      · unfold textL textK; simp; omega
    have ho : operD (textL i) = partsF ((textL i).length + 3) (restL (kindN i.op.toNat) i.op.toNat i) := by
      unfold operD
      rw [hc]
      simp only [if_true]
      exact hp
    rw [ho, hj]
    simp [hju, h]
theorem dParse_iff (s : Str) : dParse s = parseL s := by
  apply Option.ext
  intro i
  rw [parse_iff]
  exact ⟨dParse_some, fun ⟨h1, h2⟩ => h2 ▸ dParse_text i h1⟩
end Go.Proofs.YtoekcfbjdcibpaaGreatDoor
