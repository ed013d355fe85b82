/-
  Programs line by line: plain mathematics of what Program answers.
-/
import Derived.Test.YthfcodiplmodaaaGreatDoorAsProg
import Derived.Test.YthfcodiplmodaaaGreatDoorAsBackW
namespace Go.Proofs.YthfcodiplmodaaaGreatDoor
open Go.Lib Go.RowKit
set_option linter.unusedVariables false

theorem pieces_line (a r : Str) (h : ∀ x ∈ a, x ≠ 10) : piecesL (a ++ 10 :: r) = a :: piecesL r := by
  have hc : count (a ++ 10 :: r) [10] = count r [10] + 1 := by
    rw [count_one, count_one, List.count_append, List.count_cons_self, List.count_eq_zero_of_not_mem (fun e => h 10 e rfl)]
    omega
  have hi : index (a ++ 10 :: r) [10] = a.length := by rw [index_one, indexByte_at 10 a r h]
  have hn : ¬ (((a.length : Int) == -1) = true) := by simp
  unfold piecesL split
  rw [hc, splitK, hi, if_neg hn]
  simp
theorem pieces_end (a : Str) (h : ∀ x ∈ a, x ≠ 10) : piecesL a = [a] := by
  have hc : count a [10] = 0 := by
    rw [count_one, List.count_eq_zero_of_not_mem (fun e => h 10 e rfl)]
  unfold piecesL split
  rw [hc, splitK]

/-- What the lines that say something say. -/
def showsL (s : Str) : List Str := ((piecesL s).map shownL).filter (fun t => !t.isEmpty)
theorem raw_shows : ∀ (ps : List Str) (k : Nat), (dropL isVoid (rawFrom k ps)).map (·.2) = (ps.map shownL).filter (fun t => !t.isEmpty)
  | [], k => rfl
  | t :: r, k => by
    have ih := raw_shows r (k + 1)
    unfold dropL at ih ⊢
    rw [rawFrom, List.filter_cons, List.map_cons, List.filter_cons]
    have e : isVoid (k + 1, shownL t) = (shownL t).isEmpty := rfl
    rw [e]
    split
    · rw [List.map_cons, ih]
    · exact ih
theorem said_shows (s : Str) : (saidL s).map (·.2) = showsL s := raw_shows _ _
theorem shows_line (a r : Str) (h : ∀ x ∈ a, x ≠ 10) (hs : shownL a ≠ []) : showsL (a ++ 10 :: r) = shownL a :: showsL r := by
  unfold showsL
  rw [pieces_line a r h, List.map_cons, List.filter_cons, if_pos (by simpa using hs)]
theorem shows_void (a r : Str) (h : ∀ x ∈ a, x ≠ 10) (hs : shownL a = []) : showsL (a ++ 10 :: r) = showsL r := by
  unfold showsL
  rw [pieces_line a r h, List.map_cons, List.filter_cons, hs]
  rfl
theorem shown_nil : shownL [] = [] := by decide
theorem shows_nil : showsL [] = [] := by
  unfold showsL
  rw [pieces_end [] (by simp)]
  decide

/-- A text as a line may say it. -/
structure Tidy (t : Str) : Prop where
  ne : t ≠ []
  plain : ∀ x ∈ t, x ≠ 35 ∧ x ≠ 10
  first : t.head? ≠ some 32
  last : t.getLast? ≠ some 32

theorem dropWhile_same (c : UInt8) : ∀ l : Str, l.head? ≠ some c → l.dropWhile (· == c) = l
  | [], _ => rfl
  | x :: l, h => by
    have : ¬ ((x == c) = true) := fun e => h (by rw [List.head?_cons, beq_iff_eq.1 e])
    rw [List.dropWhile_cons, if_neg this]
theorem dropWhile_rep (c : UInt8) (l : Str) : ∀ k, (List.replicate k c ++ l).dropWhile (· == c) = l.dropWhile (· == c)
  | 0 => rfl
  | k + 1 => by
    rw [List.replicate_succ, List.cons_append, List.dropWhile_cons, if_pos (by simp)]
    exact dropWhile_rep c l k
theorem trim_blanks {t : Str} (h : Tidy t) (k : Nat) : trimB (t ++ List.replicate k 32) 32 = t := by
  have e : trimRightB (t ++ List.replicate k 32) 32 = t := by
    unfold trimRightB
    rw [List.reverse_append, List.reverse_replicate, dropWhile_rep, dropWhile_same 32 _ (by rw [List.head?_reverse]; exact h.last), List.reverse_reverse]
  unfold trimB
  rw [e]
  exact dropWhile_same 32 t h.first
theorem shown_blanks {t : Str} (h : Tidy t) (k : Nat) : shownL (t ++ List.replicate k 32) = t := by
  unfold shownL
  rw [cut_no 35 _ (fun x hx => by
    rcases List.mem_append.1 hx with hx | hx
    · exact (h.plain x hx).1
    · rw [(List.mem_replicate.1 hx).2]; decide)]
  exact trim_blanks h k
theorem shown_note {t : Str} (h : Tidy t) (k : Nat) (r : Str) : shownL (t ++ List.replicate k 32 ++ 35 :: r) = t := by
  unfold shownL
  rw [cut_at 35 _ _ (fun x hx => by
    rcases List.mem_append.1 hx with hx | hx
    · exact (h.plain x hx).1
    · rw [(List.mem_replicate.1 hx).2]; decide)]
  exact trim_blanks h k
theorem shown_tidy {t : Str} (h : Tidy t) : shownL t = t := by simpa using shown_blanks h 0

/-! The text of an instruction. -/
def okC (c : UInt8) : Bool := c != 35 && c != 10 && c != 58
def lastC (c : UInt8) : Bool := c != 32 && c != 58
theorem dig_ok {c : UInt8} (h : isDig c = true) : okC c = true ∧ lastC c = true := by
  have hc : 48 ≤ c.toNat ∧ c.toNat ≤ 57 := by simpa [isDig] using h
  simp only [okC, lastC, Bool.and_eq_true, bne_iff_ne]
  refine ⟨⟨⟨?_, ?_⟩, ?_⟩, ?_, ?_⟩ <;> (rintro rfl; revert hc; decide)
theorem itoa_ok (n : Int) : ∀ c ∈ itoa n, okC c = true := by
  intro c hc
  unfold itoa at hc
  split at hc
  · rcases List.mem_cons.1 hc with rfl | hc
    · decide
    · exact (dig_ok (decDigits_dig _ c hc)).1
  · exact (dig_ok (decDigits_dig _ c hc)).1
theorem told_ok' (i : I6) (c : UInt8) (h : okC c = true) : ∀ x ∈ toldL i c, okC x = true := by
  intro x hx
  have hr : ∀ n : Int, x ∈ regL n → okC x = true := fun n hx => by
    rcases List.mem_cons.1 hx with rfl | hx
    · decide
    · exact itoa_ok n x hx
  unfold toldL at hx
  split at hx
  · exact hr _ hx
  split at hx
  · exact hr _ hx
  split at hx
  · exact hr _ hx
  split at hx
  · exact itoa_ok _ x hx
  split at hx
  · exact itoa_ok _ x hx
  split at hx
  · exact itoa_ok _ x hx
  split at hx
  · exact itoa_ok _ x hx
  · obtain rfl := List.mem_singleton.1 hx
    exact h
theorem oper_ok (k op : Nat) : ∀ c ∈ operK k op, okC c = true := by
  intro c hc
  have hall : ∀ l ∈ ([[100, 44, 32, 117], [100, 44, 32, 110], [100, 44, 32, 115, 44, 32, 110], [100, 44, 32, 110, 40, 115, 41], [115, 44, 32, 116, 44, 32, 110], [116, 44, 32, 110, 40, 115, 41], [100, 44, 32, 115, 44, 32, 116], [100, 44, 32, 99, 44, 32, 122], [100, 44, 32, 99, 44, 32, 115], []] : List Str), ∀ c ∈ l, okC c = true := by decide
  refine hall (operK k op) ?_ c hc
  unfold operK
  repeat' split
  all_goals simp
theorem names_ok : ∀ x ∈ nameL, (∀ c ∈ x, okC c = true ∧ lastC c = true) ∧ x ≠ [] ∧ x.head? ≠ some 46 := by decide +kernel
theorem text_okC (i : I6) (h : encOk i = true) : ∀ c ∈ textL i, okC c = true := by
  obtain ⟨h1, h2⟩ := encOk_valid h
  have hn := names_ok _ (nameS_mem (op_nat h1).1)
  intro c hc
  unfold textL textK at hc
  rcases List.mem_append.1 hc with hc | hc
  · exact (hn.1 c hc).1
  · rcases List.mem_append.1 hc with hc | hc
    · split at hc
      · cases hc
      · obtain rfl := List.mem_singleton.1 hc
        decide
    · unfold restL at hc
      obtain ⟨d, hd, hx⟩ := List.mem_flatMap.1 hc
      exact told_ok' i d (oper_ok _ _ d hd) c hx

theorem last_ok_append (a b : Str) (hb : b ≠ []) (h : ∀ c, b.getLast? = some c → lastC c = true) : ∀ c, (a ++ b).getLast? = some c → lastC c = true := by
  intro c hc
  rw [List.getLast?_append] at hc
  cases hb' : b.getLast? with
  | none => exact absurd (List.getLast?_eq_none_iff.1 hb') hb
  | some d =>
    rw [hb'] at hc
    rw [Option.some_or] at hc
    exact h c (hb'.trans hc)
theorem last_itoa (n : Int) : ∀ c, (itoa n).getLast? = some c → lastC c = true := by
  intro c hc
  have hd : ∀ u : Nat, ∀ c, (decDigits u).getLast? = some c → lastC c = true := fun u c hc => (dig_ok (decDigits_dig _ c (List.mem_of_getLast? hc))).2
  unfold itoa at hc
  split at hc
  · exact last_ok_append [45] _ (decDigits_ne _) (hd _) c hc
  · exact hd _ c hc
theorem last_reg (n : Int) : ∀ c, (regL n).getLast? = some c → lastC c = true := last_ok_append [120] (itoa n) (itoa_ne n) (last_itoa n)
theorem last_41 : ∀ c, ([41] : Str).getLast? = some c → lastC c = true := by
  intro c hc
  cases hc
  decide
theorem last_rest (k op : Nat) (hk : IsKind k) (i : I6) (hne : operK k op ≠ []) : restL k op i ≠ [] ∧ ∀ c, (restL k op i).getLast? = some c → lastC c = true := by
  have fin : ∀ (a b : Str), b ≠ [] → (∀ c, b.getLast? = some c → lastC c = true) → a ++ b ≠ [] ∧ ∀ c, (a ++ b).getLast? = some c → lastC c = true := fun a b hb h => ⟨by simp [hb], last_ok_append a b hb h⟩
  have two : ∀ (a b : Str), a ++ 44 :: 32 :: b = (a ++ [44, 32]) ++ b := by simp
  have three : ∀ (a b c : Str), a ++ 44 :: 32 :: (b ++ 44 :: 32 :: c) = (a ++ [44, 32] ++ b ++ [44, 32]) ++ c := by simp
  have br : ∀ (a b c : Str), a ++ 44 :: 32 :: (b ++ 40 :: (c ++ [41])) = (a ++ [44, 32] ++ b ++ [40] ++ c) ++ [41] := by simp
  rcases hk with rfl | rfl | rfl | rfl | rfl | rfl | rfl | rfl | rfl | rfl | rfl
  · rw [rest_U, two]; exact fin _ _ (itoa_ne _) (last_itoa _)
  · rw [rest_J, two]; exact fin _ _ (itoa_ne _) (last_itoa _)
  · rw [rest_I 73 _ (by decide), three]; exact fin _ _ (itoa_ne _) (last_itoa _)
  · rw [rest_L, br]; exact fin _ _ (by simp) last_41
  · rw [rest_I 70 _ (by decide), three]; exact fin _ _ (itoa_ne _) (last_itoa _)
  · by_cases h54 : 54 ≤ op
    · rw [rest_Ci _ h54, three]; exact fin _ _ (itoa_ne _) (last_itoa _)
    · rw [rest_C _ h54, three]; exact fin _ _ (reg_ne _) (last_reg _)
  · rw [rest_B, three]; exact fin _ _ (itoa_ne _) (last_itoa _)
  · rw [rest_S, br]; exact fin _ _ (by simp) last_41
  · rw [rest_I 72 _ (by decide), three]; exact fin _ _ (itoa_ne _) (last_itoa _)
  · rw [rest_R, three]; exact fin _ _ (reg_ne _) (last_reg _)
  · exact absurd rfl hne
theorem text_last (i : I6) (h : encOk i = true) : ∀ c, (textL i).getLast? = some c → lastC c = true := by
  obtain ⟨h1, h2⟩ := encOk_valid h
  have hn := names_ok _ (nameS_mem (op_nat h1).1)
  intro c hc
  unfold textL textK at hc
  by_cases ho : operK (kindN i.op.toNat) i.op.toNat = []
  · rw [if_pos ho, show restL (kindN i.op.toNat) i.op.toNat i = [] by unfold restL; rw [ho]; rfl, List.append_nil, List.append_nil] at hc
    exact (hn.1 c (List.mem_of_getLast? hc)).2
  · obtain ⟨e1, e2⟩ := last_rest (kindN i.op.toNat) i.op.toNat (kindN_is _ (op_nat h1).1) i ho
    rw [if_neg ho, ← List.append_assoc] at hc
    exact last_ok_append _ _ e1 e2 c hc
theorem text_head (i : I6) (h : encOk i = true) : ∃ c r, textL i = c :: r ∧ c ≠ 32 ∧ c ≠ 46 := by
  obtain ⟨h1, h2⟩ := encOk_valid h
  have hn := names_ok _ (nameS_mem (op_nat h1).1)
  unfold textL textK
  cases hs : nameS i.op.toNat with
  | nil => exact absurd hs hn.2.1
  | cons c r =>
    rw [hs] at hn
    refine ⟨c, _, rfl, ?_, ?_⟩
    · have := (hn.1 c (by simp)).2
      intro e; subst e; revert this; decide
    · intro e; subst e; exact hn.2.2 rfl
theorem tidy_text (i : I6) (h : encOk i = true) : Tidy (textL i) := by
  obtain ⟨c, r, e, hc, _⟩ := text_head i h
  refine ⟨by rw [e]; simp, fun x hx => ?_, ?_, fun hl => ?_⟩
  · have := text_okC i h x hx
    simp only [okC, Bool.and_eq_true, bne_iff_ne] at this
    exact ⟨this.1.1, this.1.2⟩
  · rw [e, List.head?_cons]
    intro h'; exact hc (Option.some.inj h')
  · have := text_last i h 32 hl
    revert this; decide
theorem text_nolabel (i : I6) (h : encOk i = true) : labelL (textL i) = [] := by
  unfold labelL
  rw [if_neg]
  rintro ⟨hs, _⟩
  unfold hasSuffix at hs
  obtain ⟨t, ht⟩ := List.isSuffixOf_iff_suffix.1 hs
  have := text_last i h 58 (by rw [← ht]; simp)
  revert this; decide
theorem text_nodot (i : I6) (h : encOk i = true) : hasPrefix (textL i) dotWord = false := by
  obtain ⟨c, r, e, _, hc⟩ := text_head i h
  rw [e]
  unfold hasPrefix dotWord
  simp only [List.isPrefixOf, Bool.and_eq_false_iff, beq_eq_false_iff_ne]
  exact .inl (fun e => hc e.symm)

theorem numbered_empty (t : Str) (a : Int) : numberedL t a [] = t := by
  unfold numberedL
  split
  · rfl
  · split
    · rfl
    · rfl
theorem word_text (i : I6) (h : encOk i = true) (a : Int) : wordV (textL i) a [] = encW i ∧ wordE (textL i) a [] = 0 := by
  unfold wordV wordE
  rw [if_neg (by rw [text_nodot i h]; simp), if_neg (by rw [text_nodot i h]; simp), numbered_empty]
  unfold parseN
  rw [parse_text i h]
  exact ⟨rfl, rfl⟩

theorem places_none : ∀ (ls : List Ln) (a : Nat) (m : Labs), (∀ l ∈ ls, labelL l.2 = []) → placesFrom ls a m = (none, m)
  | [], a, m, _ => rfl
  | l :: r, a, m, h => by
    rw [placesFrom, if_pos (h l (by simp))]
    exact places_none r _ m (fun x hx => h x (by simp [hx]))
theorem drop_none (ls : List Ln) (h : ∀ l ∈ ls, labelL l.2 = []) : dropL isLab ls = ls := by
  unfold dropL
  rw [List.filter_eq_self]
  intro l hl
  simp [isLab, h l hl]
theorem words_texts : ∀ (is : List I6) (ls : List Ln) (k : Nat) (acc : List Nat), (∀ i ∈ is, encOk i = true) → ls.map (·.2) = is.map textL → wordsL [] ls k acc = (0, 0, acc ++ is.map encW)
  | [], ls, k, acc, _, h => by
    cases ls with
    | nil => simp [wordsL]
    | cons l r => simp at h
  | i :: is, ls, k, acc, hi, h => by
    cases ls with
    | nil => simp at h
    | cons l r =>
      rw [List.map_cons, List.map_cons] at h
      injection h with h1 h2
      obtain ⟨e1, e2⟩ := word_text i (hi i (by simp)) ((k : Int) * 4)
      rw [wordsL, h1, e1, e2, if_pos rfl, words_texts is r (k + 1) _ (fun j hj => hi j (by simp [hj])) h2]
      simp
/-- A program whose lines say these instructions is their words. -/
theorem prog_texts (s : Str) (is : List I6) (hl : s.length ≤ 65536) (hi : ∀ i ∈ is, encOk i = true) (h : showsL s = is.map textL) : progL s = (0, 0, is.map encW) := by
  have hs := said_shows s
  rw [h] at hs
  have hn : ∀ l ∈ saidL s, labelL l.2 = [] := by
    intro l hm
    have : l.2 ∈ (saidL s).map (·.2) := List.mem_map.2 ⟨l, hm, rfl⟩
    rw [hs] at this
    obtain ⟨i, hm', e⟩ := List.mem_map.1 this
    rw [← e]
    exact text_nolabel i (hi i hm')
  unfold progL
  rw [if_pos hl, places_none _ _ _ hn, placedL, drop_none _ hn, words_texts is _ 0 [] hi hs]
  simp
end Go.Proofs.YthfcodiplmodaaaGreatDoor
